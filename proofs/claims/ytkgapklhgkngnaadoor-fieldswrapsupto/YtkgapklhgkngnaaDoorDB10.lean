/-
  The reference's ahead, cross and place.
  What may be, as the reference says it.
  The reference's place.
-/
import Derived.Test.YtkgapklhgkngnaaDoorDB8
import Derived.Test.YtkgapklhgkngnaaDoorDB7
namespace Go.Proofs.YtkgapklhgkngnaaDoor
open Go.RowKit

attribute [local go_sem ↓] Go.wp_at_zero Go.wp_at_succ

def ahdB (x y : Sp) : Bool := decide (x.a < y.a) || (decide (x.a = y.a) && decide (y.b ≤ x.b))
def crsB (x y : Sp) : Bool := (decide (x.a < y.a) && (decide (y.a < x.b) && decide (x.b < y.b))) || (decide (y.a < x.a) && (decide (x.a < y.b) && decide (y.b < x.b)))
def plcR (t : ByteArray) (n : Int) : Bool := decide (0 ≤ n) && (decide (n ≤ (t.size : Int)) && Lib.validD ((bys t).take n.toNat))

set_option maxRecDepth 100000 in
set_option maxHeartbeats 4000000 in
theorem rAhead_any (x y : Sp) (w : World) : Calls Tryd.prog 39 #[.agg #[.int .i64 x.f, .int .i64 x.a, .int .i64 x.b], .agg #[.int .i64 y.f, .int .i64 y.a, .int .i64 y.b]] w fun e w' => e = .returned (.bool (ahdB x y)) ∧ Below w.heap.size w w' := by
  obtain ⟨xf, xa, xb⟩ := x
  obtain ⟨yf, ya, yb⟩ := y
  obtain ⟨r, hr⟩ : ∃ r, r = ahdB ⟨xf, xa, xb⟩ ⟨yf, ya, yb⟩ := ⟨_, rfl⟩
  rw [← hr]
  unfold ahdB at hr
  simp only [] at hr ⊢
  obtain ⟨W1, hW1⟩ : ∃ W1, W1 = (w.alloc (.cells #[.int .i64 xf, .int .i64 xa, .int .i64 xb] 31)).alloc (.cells #[.int .i64 yf, .int .i64 ya, .int .i64 yb] 31) := ⟨_, rfl⟩
  have B1 := hide (show Below w.heap.size w W1 by rw [hW1]; exact ((Below.refl _ _).alloc (Nat.le_refl _) _).alloc (Nat.le_of_lt (by rw [allocW_size]; exact Nat.lt_succ_self _)) _)
  have BX1 : Hid (Blk W1 w.heap.size #[.int .i64 xf, .int .i64 xa, .int .i64 xb] 31) := hide (by rw [hW1]; exact (Blk.newAt w _ rfl _ _).below ((Below.refl _ _).alloc (Nat.le_refl _) _) (by rw [allocW_size]; exact Nat.lt_succ_self _))
  have BY1 : Hid (Blk W1 (w.heap.size + 1) #[.int .i64 yf, .int .i64 ya, .int .i64 yb] 31) := hide (by rw [hW1]; exact Blk.newAt _ _ (allocW_size _ _) _ _)
  have HW := hide hW1.symm
  have x1 : W1.cell? ⟨w.heap.size, 1, none⟩ = some (.int .i64 xa) := BX1.out.cell 1
  have x2 : W1.cell? ⟨w.heap.size, 2, none⟩ = some (.int .i64 xb) := BX1.out.cell 2
  have y1 : W1.cell? ⟨w.heap.size + 1, 1, none⟩ = some (.int .i64 ya) := BY1.out.cell 1
  have y2 : W1.cell? ⟨w.heap.size + 1, 2, none⟩ = some (.int .i64 yb) := BY1.out.cell 2
  clear hW1
  by_cases h1 : xa < ya
  · have e : r = true := by rw [hr, decide_eq_true h1]; rfl
    subst e
    clear hr
    go_enter Tryd.func39, Tryd.ntmps39
    go_wp2_with (simp only [HW.out])
    go_ret
    exact ⟨rfl, B1.out⟩
  · by_cases h2 : xa = ya
    · subst h2
      have e : r = decide (yb ≤ xb) := by rw [hr, decide_eq_false h1, decide_eq_true rfl]; rfl
      subst e
      clear hr
      go_enter Tryd.func39, Tryd.ntmps39
      go_wp2_with (simp only [HW.out])
      go_ret
      exact ⟨rfl, B1.out⟩
    · have e : r = false := by rw [hr, decide_eq_false h1, decide_eq_false h2]; rfl
      subst e
      clear hr
      go_enter Tryd.func39, Tryd.ntmps39
      go_wp2_with (simp only [HW.out])
      go_ret
      exact ⟨rfl, B1.out⟩

set_option maxRecDepth 100000 in
set_option maxHeartbeats 4000000 in
theorem rCross_any (x y : Sp) (w : World) : Calls Tryd.prog 31 #[.agg #[.int .i64 x.f, .int .i64 x.a, .int .i64 x.b], .agg #[.int .i64 y.f, .int .i64 y.a, .int .i64 y.b]] w fun e w' => e = .returned (.bool (crsB x y)) ∧ Below w.heap.size w w' := by
  obtain ⟨xf, xa, xb⟩ := x
  obtain ⟨yf, ya, yb⟩ := y
  obtain ⟨r, hr⟩ : ∃ r, r = crsB ⟨xf, xa, xb⟩ ⟨yf, ya, yb⟩ := ⟨_, rfl⟩
  rw [← hr]
  unfold crsB at hr
  simp only [] at hr ⊢
  obtain ⟨W1, hW1⟩ : ∃ W1, W1 = (w.alloc (.cells #[.int .i64 xf, .int .i64 xa, .int .i64 xb] 31)).alloc (.cells #[.int .i64 yf, .int .i64 ya, .int .i64 yb] 31) := ⟨_, rfl⟩
  have B1 := hide (show Below w.heap.size w W1 by rw [hW1]; exact ((Below.refl _ _).alloc (Nat.le_refl _) _).alloc (Nat.le_of_lt (by rw [allocW_size]; exact Nat.lt_succ_self _)) _)
  have BX1 : Hid (Blk W1 w.heap.size #[.int .i64 xf, .int .i64 xa, .int .i64 xb] 31) := hide (by rw [hW1]; exact (Blk.newAt w _ rfl _ _).below ((Below.refl _ _).alloc (Nat.le_refl _) _) (by rw [allocW_size]; exact Nat.lt_succ_self _))
  have BY1 : Hid (Blk W1 (w.heap.size + 1) #[.int .i64 yf, .int .i64 ya, .int .i64 yb] 31) := hide (by rw [hW1]; exact Blk.newAt _ _ (allocW_size _ _) _ _)
  have HW := hide hW1.symm
  have x1 : W1.cell? ⟨w.heap.size, 1, none⟩ = some (.int .i64 xa) := BX1.out.cell 1
  have x2 : W1.cell? ⟨w.heap.size, 2, none⟩ = some (.int .i64 xb) := BX1.out.cell 2
  have y1 : W1.cell? ⟨w.heap.size + 1, 1, none⟩ = some (.int .i64 ya) := BY1.out.cell 1
  have y2 : W1.cell? ⟨w.heap.size + 1, 2, none⟩ = some (.int .i64 yb) := BY1.out.cell 2
  clear hW1
  by_cases h1 : xa < ya
  · by_cases h2 : ya < xb
    · by_cases h3 : xb < yb
      · have e : r = true := by rw [hr]; simp [h1, h2, h3]
        subst e
        clear hr
        go_enter Tryd.func31, Tryd.ntmps31
        go_wp2_with (simp only [HW.out])
        go_ret
        exact ⟨rfl, B1.out⟩
      · have k1 : ¬ ya < xa := by omega
        have e : r = false := by rw [hr]; simp [h1, h2, h3, k1]
        subst e
        clear hr
        go_enter Tryd.func31, Tryd.ntmps31
        go_wp2_with (simp only [HW.out])
        go_ret
        exact ⟨rfl, B1.out⟩
    · have k1 : ¬ ya < xa := by omega
      have e : r = false := by rw [hr]; simp [h1, h2, k1]
      subst e
      clear hr
      go_enter Tryd.func31, Tryd.ntmps31
      go_wp2_with (simp only [HW.out])
      go_ret
      exact ⟨rfl, B1.out⟩
  · by_cases k1 : ya < xa
    · by_cases k2 : xa < yb
      · by_cases k3 : yb < xb
        · have e : r = true := by rw [hr]; simp [h1, k1, k2, k3]
          subst e
          clear hr
          go_enter Tryd.func31, Tryd.ntmps31
          go_wp2_with (simp only [HW.out])
          go_ret
          exact ⟨rfl, B1.out⟩
        · have e : r = false := by rw [hr]; simp [h1, k1, k2, k3]
          subst e
          clear hr
          go_enter Tryd.func31, Tryd.ntmps31
          go_wp2_with (simp only [HW.out])
          go_ret
          exact ⟨rfl, B1.out⟩
      · have e : r = false := by rw [hr]; simp [h1, k1, k2]
        subst e
        clear hr
        go_enter Tryd.func31, Tryd.ntmps31
        go_wp2_with (simp only [HW.out])
        go_ret
        exact ⟨rfl, B1.out⟩
    · have e : r = false := by rw [hr]; simp [h1, k1]
      subst e
      clear hr
      go_enter Tryd.func31, Tryd.ntmps31
      go_wp2_with (simp only [HW.out])
      go_ret
      exact ⟨rfl, B1.out⟩

end Go.Proofs.YtkgapklhgkngnaaDoor

namespace Go.Proofs.YtkgapklhgkngnaaDoor

def NoX (L : List Sp) : Prop := ∀ s ∈ L, ∀ u ∈ L, ¬ (s.a < u.a ∧ u.a < s.b ∧ s.b < u.b)
theorem pair_mem {α : Type} {R : α → α → Prop} {s u : α} : ∀ {L : List α}, L.Pairwise R → s ∈ L → u ∈ L → s = u ∨ R s u ∨ R u s
  | [], _, h, _ => by simp at h
  | x :: L, hp, hs, hu => by
    have h := List.pairwise_cons.1 hp
    rcases List.mem_cons.1 hs with e | e
    · rcases List.mem_cons.1 hu with e2 | e2
      · exact .inl (e.trans e2.symm)
      · subst e; exact .inr (.inl (h.1 u e2))
    · rcases List.mem_cons.1 hu with e2 | e2
      · subst e2; exact .inr (.inr (h.1 s e))
      · exact pair_mem h.2 e e2
theorem may_iff (t : ByteArray) (L : List Sp) : mayB t L = true ↔ Lib.validD (bys t) = true ∧ (∀ s ∈ L, misB t s = false) ∧ SrtS L ∧ NoX L := by
  constructor
  · intro h
    have hp := mayB_pair h
    unfold mayB at h
    simp only [Bool.and_eq_true, Bool.not_eq_true'] at h
    obtain ⟨⟨⟨h1, h2⟩, _⟩, _⟩ := h
    refine ⟨h1, fun s hs => by have := List.any_eq_false.1 h2 s hs; simpa using this, hp.1, fun s hs u hu hx => ?_⟩
    have hp2 : L.Pairwise fun y x => ¬ LtS x y ∧ ¬ (x.a < y.b ∧ y.b < x.b) := hp.1.and hp.2
    rcases pair_mem hp2 hs hu with e | ⟨_, e⟩ | ⟨e, _⟩
    · subst e; omega
    · exact e ⟨hx.2.1, hx.2.2⟩
    · unfold LtS at e; omega
  · rintro ⟨h1, h2, h3, h4⟩
    unfold mayB
    rw [Bool.and_eq_true, Bool.and_eq_true, Bool.and_eq_true]
    refine ⟨⟨⟨h1, ?_⟩, decide_eq_true h3⟩, ?_⟩
    · rw [Bool.not_eq_true', List.any_eq_false]
      intro s hs
      rw [h2 s hs]; decide
    · rw [Bool.not_eq_true']
      refine crsP_no L [] List.Pairwise.nil h3 (fun t ht => by simp at ht) (fun s hs => ?_) ?_
      · have q := h2 s hs
        unfold misB at q
        simp only [Bool.or_eq_false_iff, decide_eq_false_iff_not] at q
        omega
      · refine List.Pairwise.imp_of_mem (fun {y x} hy hx hyx => ?_) h3
        have n1 := h4 y hy x hx
        unfold LtS at hyx
        omega
theorem place_eq (t : ByteArray) (n : Int) (h : Lib.validD (bys t) = true) : plcR t n = plB t n := by
  unfold plcR plB
  have hl := bys_len t
  by_cases e : n = t.size
  · rw [decide_eq_true e, decide_eq_true (by omega : 0 ≤ n), decide_eq_true (by omega : n ≤ (t.size : Int)), List.take_of_length_le (by omega), h]; rfl
  · rw [decide_eq_false e, Bool.false_or]
    by_cases h0 : 0 ≤ n
    · rw [decide_eq_true h0, Bool.true_and, Bool.true_and]
      by_cases h1 : n < t.size
      · rw [decide_eq_true h1, decide_eq_true (by omega : n ≤ (t.size : Int)), Bool.true_and, Bool.true_and, vHead (bys t).length (bys t) n.toNat (Nat.le_refl _) h (by omega)]
      · rw [decide_eq_false h1, decide_eq_false (by omega : ¬ n ≤ (t.size : Int)), Bool.false_and, Bool.false_and]
    · rw [decide_eq_false h0, Bool.false_and, Bool.false_and, Bool.false_and]
def OkS (t : ByteArray) (s : Sp) : Prop := 1 ≤ s.f ∧ s.f ≤ 17 ∧ plcR t s.a = true ∧ plcR t s.b = true ∧ s.a < s.b
theorem mis_ok (t : ByteArray) (s : Sp) (h : Lib.validD (bys t) = true) : misB t s = false ↔ OkS t s := by
  unfold misB OkS knB
  rw [place_eq t s.a h, place_eq t s.b h]
  simp only [Bool.or_eq_false_iff, decide_eq_false_iff_not, Bool.not_eq_false', Bool.and_eq_true, decide_eq_true_eq]
  constructor
  · rintro ⟨⟨⟨⟨a, b, c⟩, d⟩, e⟩, f⟩; exact ⟨by omega, by omega, d, e, by omega⟩
  · rintro ⟨a, b, c, d, e⟩; exact ⟨⟨⟨⟨by omega, by omega, by omega⟩, c⟩, d⟩, by omega⟩
theorem ahd_iff (x y : Sp) : ahdB x y = true ↔ ¬ LtS y x := by
  unfold ahdB LtS
  simp only [Bool.or_eq_true, Bool.and_eq_true, decide_eq_true_eq]
  omega
theorem crs_iff (x y : Sp) : crsB x y = true ↔ (x.a < y.a ∧ y.a < x.b ∧ x.b < y.b) ∨ (y.a < x.a ∧ x.a < y.b ∧ y.b < x.b) := by
  unfold crsB
  simp only [Bool.or_eq_true, Bool.and_eq_true, decide_eq_true_eq]
def OkI (t : ByteArray) (l : List Sp) (i : Nat) : Prop := OkS t (gN spZ l i) ∧ (0 < i → ahdB (gN spZ l (i - 1)) (gN spZ l i) = true) ∧ ∀ k, k < i → crsB (gN spZ l k) (gN spZ l i) = false
theorem gN_at {l : List Sp} {s : Sp} (h : s ∈ l) : ∃ i, i < l.length ∧ gN spZ l i = s := by
  obtain ⟨i, hi, e⟩ := List.getElem_of_mem h
  exact ⟨i, hi, by unfold gN; rw [List.getElem?_eq_getElem hi, e]; rfl⟩
theorem may_ref (t : ByteArray) (l : List Sp) : mayB t l = true ↔ Lib.validD (bys t) = true ∧ ∀ i, i < l.length → OkI t l i := by
  rw [may_iff]
  constructor
  · rintro ⟨h1, h2, h3, h4⟩
    refine ⟨h1, fun i hi => ⟨(mis_ok t _ h1).1 (h2 _ (gN_mem hi)), fun h0 => (ahd_iff _ _).2 ((srt_adj l).1 h3 i h0 hi), fun k hk => ?_⟩⟩
    cases hc : crsB (gN spZ l k) (gN spZ l i) with
    | false => rfl
    | true =>
      exfalso
      rcases (crs_iff _ _).1 hc with q | q
      · exact h4 _ (gN_mem (by omega)) _ (gN_mem hi) q
      · exact h4 _ (gN_mem hi) _ (gN_mem (by omega)) q
  · rintro ⟨h1, h2⟩
    refine ⟨h1, fun s hs => ?_, (srt_adj l).2 fun j h0 hj => (ahd_iff _ _).1 ((h2 j hj).2.1 h0), fun s hs u hu hx => ?_⟩
    · obtain ⟨i, hi, rfl⟩ := gN_at hs
      exact (mis_ok t _ h1).2 (h2 i hi).1
    · obtain ⟨i, hi, rfl⟩ := gN_at hs
      obtain ⟨k, hk, rfl⟩ := gN_at hu
      rcases Nat.lt_trichotomy i k with e | e | e
      · have q := (h2 k hk).2.2 i e
        rw [(crs_iff _ _).2 (.inl hx)] at q; cases q
      · subst e; omega
      · have q := (h2 i hi).2.2 k e
        rw [(crs_iff _ _).2 (.inr hx)] at q; cases q
theorem ordS_of : ∀ {l : List Sp}, SrtS l → ordS l = l
  | [], _ => rfl
  | x :: l, h => by
    have hp := List.pairwise_cons.1 h
    rw [ordS, ordS_of hp.2]
    cases l with
    | nil => rfl
    | cons y l => unfold putS; rw [if_neg (hp.1 y (List.mem_cons_self ..))]
theorem wrap_iff (t : ByteArray) (l : List Sp) (s : Sp) (h : mayB t l = true) : mayB t (ordS (s :: l)) = true ↔ OkS t s ∧ ∀ i, i < l.length → crsB s (gN spZ l i) = false := by
  obtain ⟨h1, h2, h3, h4⟩ := (may_iff t l).1 h
  have hm : ∀ u, u ∈ ordS (s :: l) ↔ u = s ∨ u ∈ l := fun u => by rw [(ordS_perm (s :: l)).mem_iff, List.mem_cons]
  rw [may_iff]
  constructor
  · rintro ⟨_, q2, _, q4⟩
    refine ⟨(mis_ok t s h1).1 (q2 s ((hm s).2 (.inl rfl))), fun i hi => ?_⟩
    cases hc : crsB s (gN spZ l i) with
    | false => rfl
    | true =>
      exfalso
      have m1 := (hm s).2 (.inl rfl)
      have m2 := (hm (gN spZ l i)).2 (.inr (gN_mem hi))
      rcases (crs_iff _ _).1 hc with q | q
      · exact q4 _ m1 _ m2 q
      · exact q4 _ m2 _ m1 q
  · rintro ⟨q1, q2⟩
    have hns : ∀ u ∈ l, crsB s u = false := fun u hu => by
      obtain ⟨i, hi, rfl⟩ := gN_at hu
      exact q2 i hi
    have hsf : ∀ u ∈ l, ¬ ((s.a < u.a ∧ u.a < s.b ∧ s.b < u.b) ∨ (u.a < s.a ∧ s.a < u.b ∧ u.b < s.b)) := fun u hu hx => by
      have q := hns u hu
      rw [(crs_iff _ _).2 hx] at q; cases q
    refine ⟨h1, fun u hu => ?_, ordS_srt _, fun a ha b hb hx => ?_⟩
    · rcases (hm u).1 hu with e | e
      · subst e; exact (mis_ok t _ h1).2 q1
      · exact h2 u e
    · rcases (hm a).1 ha with e | e
      · rcases (hm b).1 hb with e2 | e2
        · subst e; subst e2; omega
        · subst e; exact hsf b e2 (.inl hx)
      · rcases (hm b).1 hb with e2 | e2
        · subst e2; exact hsf a e (.inr hx)
        · exact h4 a e b e2 hx
end Go.Proofs.YtkgapklhgkngnaaDoor

namespace Go.Proofs.YtkgapklhgkngnaaDoor
open Go.RowKit

attribute [local go_sem ↓] Go.wp_at_zero Go.wp_at_succ

theorem bysF_toB (t : ByteArray) (i : Nat) : bys (t.extract 0 i) = (bys t).take i := by
  unfold bys
  rw [ByteArray.data_extract]
  simp

set_option maxRecDepth 100000 in
set_option maxHeartbeats 4000000 in
theorem rPlace_any (t : ByteArray) (n : Int) (w : World) (hT : U8 w) (ht : t.size ≤ 140737488355328) : Calls Tryd.prog 30 #[.string t, .int .i64 n] w fun e w' => e = .returned (.bool (plcR t n)) ∧ Below w.heap.size w w' := by
  obtain ⟨r, hr⟩ : ∃ r, r = plcR t n := ⟨_, rfl⟩
  rw [← hr]
  unfold plcR at hr
  by_cases h0 : 0 ≤ n
  · by_cases h1 : n ≤ (t.size : Int)
    · obtain ⟨k, rfl⟩ : ∃ k : Nat, n = (k : Int) := ⟨n.toNat, by omega⟩
      have e : r = Lib.validD (bys (t.extract 0 k)) := by rw [hr, decide_eq_true h0, decide_eq_true h1, bysF_toB, Int.toNat_natCast]; rfl
      have hk : k ≤ t.size := by omega
      have CV := hide (fun X (hX : U8 X) => Valid_any (t.extract 0 k) X (by rw [ByteArray.size_extract]; omega) hX)
      rw [← e] at CV
      clear hr e
      go_enter Tryd.func30, Tryd.ntmps30
      go_wp2_with fail
      refine (CV.out _ hT).mono ?_
      rintro e w1 ⟨rfl, b1⟩
      have HB := hide b1
      clear b1 CV
      go_wp2
      go_ret
      exact ⟨rfl, HB.out⟩
    · have e : r = false := by rw [hr, decide_eq_false h1]; simp
      subst e
      clear hr
      go_enter Tryd.func30, Tryd.ntmps30
      go_wp2
      go_ret
      exact ⟨rfl, Below.refl _ _⟩
  · have e : r = false := by rw [hr, decide_eq_false h0]; rfl
    subst e
    clear hr
    go_enter Tryd.func30, Tryd.ntmps30
    go_wp2
    go_ret
    exact ⟨rfl, Below.refl _ _⟩

end Go.Proofs.YtkgapklhgkngnaaDoor
