/-
  What nat.divLimb does: a list divided by one limb.
  What nat.DivMod does where the divisor is nought, longer than the dividend, or one limb long.
-/
import Derived.Test.YtifpacgacbpalabGreatDoorZDiv
import Derived.Test.YtifpacgacbpalabGreatDoorZMul
namespace Go.Proofs.YtifpacgacbpalabGreatDoor
open Go.RowKit

theorem like_set {w w' : World} (h : Like w' w) (a : Addr) (u : Value) : Like (w'.setCell a u) (w.setCell a u) :=
  ⟨by simp only [World.setCell]; rw [h.1], h.2.1, h.2.2.1, h.2.2.2⟩

theorem limb_step {b : Nat} {r : List Nat} {x : Nat → Nat} {n k rest N : Nat} (hk : k < r.length) (h0 : dg r k = 0)
    (h : num b r * n + rest * b ^ (k + 1) + V b x (k + 1) = N) : num b (r.set k ((rest * b + x k) / n)) * n + (rest * b + x k) % n * b ^ k + V b x k = N := by
  have e1 := num_set b r k ((rest * b + x k) / n) hk
  rw [h0, Nat.zero_mul, Nat.add_zero] at e1
  have e2 := Nat.div_add_mod (rest * b + x k) n
  rw [e1]
  generalize (rest * b + x k) / n = d at *
  generalize (rest * b + x k) % n = m at *
  simp only [V] at h
  have e3 : (n * d + m) * b ^ k = (rest * b + x k) * b ^ k := by rw [e2]
  rw [Nat.add_mul, Nat.add_mul] at e3
  have e4 : rest * b ^ (k + 1) = rest * b * b ^ k := by rw [Nat.pow_succ, Nat.mul_comm (b ^ k), Nat.mul_assoc]
  have e5 : d * b ^ k * n = n * d * b ^ k := by rw [Nat.mul_comm, Nat.mul_assoc]
  rw [Nat.add_mul, e5]
  omega

/-- At the head of divLimb's loop, k limbs being left. -/
structure LimbInv (w : World) (m n N : Nat) (x : Nat → Nat) (k rest : Nat) (wr : World) : Prop where
  bel : Below w.heap.size w wr
  rl : rest < n
  row : ∃ r, Row .u64 88 wr w.heap.size r ∧ r.length = m ∧ Ok B64 r ∧ (∀ j, j < k → dg r j = 0) ∧ num B64 r * n + rest * B64 ^ k + V B64 x k = N

theorem LimbInv.step {w wr wr' : World} {m n N k rest : Nat} {x : Nat → Nat} {r : List Nat} (hb : Below w.heap.size w wr) (hrl : rest < n) (hr : Row .u64 88 wr w.heap.size r) (hl : r.length = m) (ho : Ok B64 r)
    (hz : ∀ j, j < k + 1 → dg r j = 0) (hN : num B64 r * n + rest * B64 ^ (k + 1) + V B64 x (k + 1) = N) (hk : k < m) (hx : x k < B64)
    (hw : Like wr' (wr.setCell ⟨w.heap.size, k, none⟩ (.int .u64 (((rest * B64 + x k) / n : Nat) : Int)))) : LimbInv w m n N x k ((rest * B64 + x k) % n) wr' := by
  have hn : 0 < n := by omega
  refine ⟨hw.below (hb.setCell (Nat.le_refl _) _), Nat.mod_lt _ hn, _, (hr.set k _).alike hw, by simp [hl], ho.set (by omega) ?_, ?_, limb_step (by omega) (hz k (by omega)) hN⟩
  · exact (Nat.div_lt_iff_lt_mul hn).2 (by rw [Nat.mul_comm B64 n]; exact half_lt hrl hx)
  · intro j hj
    rw [dg_set _ _ _ _ (by omega), if_neg (by omega)]
    exact hz j (by omega)

/-- What divLimb answers. -/
def LimbPost (w : World) (m q rest : Nat) (e : Ending) (w' : World) : Prop :=
  ∃ v r, e = .returned (.tuple #[v, .int .u64 (rest : Int)]) ∧ Own .u64 88 w' w.heap.size m v r ∧ Is B64 r q ∧ Below w.heap.size w w'

set_option maxHeartbeats 4000000 in
theorem divLimb_at (b o m cap n : Nat) (xs : List Nat) (w : World) (hm : m ≤ 10000000000) (hn : 0 < n) (hnb : n < B64) (hx : xs.length = m) (hb : b < w.heap.size)
    (hcell : ∀ i, i < xs.length → w.cell? ⟨b, o + i, none⟩ = some (.int .u64 ((dg xs i : Nat) : Int))) (ox : Ok B64 xs) :
    Calls Tryz.prog 116 #[.slice (some ⟨b, o, none⟩) m cap, .int .u64 (n : Int)] w (LimbPost w m (num B64 xs / n) (num B64 xs % n)) := by
  obtain ⟨i0, hi, hz0, hz1, hz2⟩ := info_parts Tryz.infoU
  go_enter Tryz.func116, Tryz.ntmps116
  go_wp2_with (at_make; refine wpList_make_full _ rfl _ _ 61 rfl w.heap.size 88 i0 (.int .u64 0) 1 Tryz.underlying61 hi hz0 hz1 _ _ _ _ m rfl rfl (by omega) (by omega) (by rw [hz2]; omega) (by unfold maxLen; omega) (Nat.le_refl _) ?_)
  intro w1 hown hgrow
  have hr1 : Row .u64 88 w1 w.heap.size (List.replicate m 0) := Row.made hown
  have hb1 : Below w.heap.size w w1 := (Below.refl _ _).grown hgrow (Nat.le_refl _) (fun k hk => by cases hk)
  clear hown hgrow
  go_wp2
  go_loopw [7, 8] (fun a i wr => ∃ k rest : Nat, k ≤ m ∧ a = .int .u64 (rest : Int) ∧ i = .int .i64 ((k : Int) - 1) ∧ LimbInv w m n (num B64 xs) (dg xs) k rest wr) (fun _ i _ => (intOf i + 1).toNat)
  case atStart =>
    refine ⟨m, 0, Nat.le_refl _, rfl, rfl, hb1, hn, _, hr1, by simp, Ok.replicate (by decide) _, fun j _ => dg_replicate _ j, ?_⟩
    rw [num_replicate, ← hx]; simp [num]
  case round =>
    obtain ⟨k, rest, hk, rfl, rfl, hinv⟩ := hrel
    rcases k with _ | k
    · obtain ⟨r, hr, hrl, hro, _, hrN⟩ := hinv.row
      have hbel := hinv.bel
      have hlt := hinv.rl
      simp only [V, Nat.pow_zero, Nat.mul_one, Nat.add_zero] at hrN
      have q1 : num B64 xs / n = num B64 r := by rw [← hrN, Nat.mul_comm, Nat.mul_add_div hn, Nat.div_eq_of_lt hlt, Nat.add_zero]
      have q2 : num B64 xs % n = rest := by rw [← hrN, Nat.mul_comm, Nat.mul_add_mod, Nat.mod_eq_of_lt hlt]
      obtain ⟨q, hq⟩ : ∃ q, q = (trimmed r).length := ⟨_, rfl⟩
      have HQ : Hid ((trimmed r).length = q) := hq.symm
      have HL : Hid (r.length = m) := hrl
      have H1 : Hid (num B64 xs / n = num B64 r) := q1
      have H2 : Hid (num B64 xs % n = rest) := q2
      clear hq hrl hrN hinv q1 q2 hcell
      go_wp2_with fail
      refine (trim_to _ _ _ q r _ (Nat.le_refl _) (by omega) HL.out hr.at HQ.out).mono ?_
      rintro e w' ⟨rfl, rfl⟩
      go_wp2
      go_ret2
      refine ⟨.slice (some ⟨w.heap.size, 0, none⟩) q m, trimmed r, ?_, .inr ⟨w.heap.size, r, ?_, Nat.le_refl _, hr, ?_, ?_⟩, ?_, hbel⟩
      · rw [H2.out]; rfl
      · rw [HL.out, HQ.out]
      · rw [length_trimmed]; rfl
      · rw [HL.out]; exact Nat.le_refl _
      · rw [H1.out]; exact Is.trimmed hro
    · obtain ⟨r, hr, hrl, hro, hrz, hrN⟩ := hinv.row
      have hbr := hinv.bel
      have hlt := hinv.rl
      have c0 : wr.cell? ⟨b, o + k, none⟩ = some (.int .u64 ((dg xs k : Nat) : Int)) := (hbr.cell hb).trans (hcell k (by omega))
      have c1 := hr.cell k (by omega)
      have f1 := hr.free k
      have e0 : (k : Int) < (m : Int) := by omega
      have hst := fun wr' hw => LimbInv.step (wr' := wr') hbr hlt hr hrl hro hrz hrN (by omega) (ox k) hw
      have dv := fun w => div64_any rest (dg xs k) n w hnb (ox k) hlt
      obtain ⟨x, hxk⟩ : ∃ x, x = dg xs k := ⟨_, rfl⟩
      rw [← hxk] at c0 hst dv
      obtain ⟨q, hq⟩ : ∃ q, q = (rest * B64 + x) / n := ⟨_, rfl⟩
      obtain ⟨t, ht⟩ : ∃ t, t = (rest * B64 + x) % n := ⟨_, rfl⟩
      rw [← hq, ← ht] at hst dv
      have HS : Hid (∀ wr', Like wr' (wr.setCell ⟨w.heap.size, k, none⟩ (.int .u64 (q : Int))) → LimbInv w m n (num B64 xs) (dg xs) k t wr') := hst
      have HD : Hid (∀ w, Calls Tryz.prog 130 #[.int .u64 (rest : Int), .int .u64 (x : Int), .int .u64 (n : Int)] w fun e w' => e = .returned (.tuple #[.int .u64 (q : Int), .int .u64 (t : Int)]) ∧ Like w' w) := dv
      clear hxk hq ht hst dv hinv hr hrl hro hrz hrN hcell ox hlt
      go_wp2_with fail
      refine (HD.out _).mono ?_
      rintro e w2 ⟨rfl, hlike⟩
      have c1' : w2.cell? ⟨w.heap.size, k, none⟩ = some (.int .u64 ((dg r k : Nat) : Int)) := (World.cell?_of_block (w := wr) (by rw [hlike.1])).trans c1
      have f1' : w2.frozen? ⟨w.heap.size, k, none⟩ = false := (World.frozen?_of_block (w := wr) (by rw [hlike.1])).trans f1
      have HK : Hid (Like w2 wr) := hlike
      clear hlike
      go_wp2
      go_roundw
      case rel => exact ⟨k, t, by omega, rfl, by go_num, HS.out _ (like_set HK.out _ _)⟩
      case measure => simp [intOf]

end Go.Proofs.YtifpacgacbpalabGreatDoor

namespace Go.Proofs.YtifpacgacbpalabGreatDoor
open Go.RowKit

/-- What nat.DivMod answers: quotient and rest, each in memory of its own. -/
def DivPost (w : World) (m q r : Nat) (err : Int) (e : Ending) (w' : World) : Prop :=
  ∃ v1 r1 v2 r2, e = .returned (.tuple #[v1, v2, .int .i64 err]) ∧ Own .u64 88 w' w.heap.size m v1 r1 ∧ Own .u64 88 w' w.heap.size m v2 r2 ∧ Is B64 r1 q ∧ Is B64 r2 r ∧ Below w.heap.size w w' ∧
    (v1.ownBlock = none ∨ v1.ownBlock ≠ v2.ownBlock)

set_option maxHeartbeats 4000000 in
theorem divmod_zero (ao bo : Option Addr) (la ca lb cb m : Nat) (w : World)
    (c1 : ∀ w' : World, w'.heap = w.heap → Calls Tryz.prog 63 #[.slice ao la ca] w' fun e w'' => e = .returned (.slice ao m ca) ∧ w' = w'')
    (c2 : ∀ w' : World, w'.heap = w.heap → Calls Tryz.prog 63 #[.slice bo lb cb] w' fun e w'' => e = .returned (.slice bo 0 cb) ∧ w' = w'') :
    Calls Tryz.prog 91 #[.slice ao la ca, .slice bo lb cb] w (DivPost w 0 0 0 11) := by
  have C1 : Hid (∀ w' : World, w'.heap = w.heap → Calls Tryz.prog 63 #[.slice ao la ca] w' fun e w'' => e = .returned (.slice ao m ca) ∧ w' = w'') := c1
  have C2 : Hid (∀ w' : World, w'.heap = w.heap → Calls Tryz.prog 63 #[.slice bo lb cb] w' fun e w'' => e = .returned (.slice bo 0 cb) ∧ w' = w'') := c2
  clear c1 c2
  go_enter Tryz.func91, Tryz.ntmps91
  go_wp2_with fail
  refine (C1.out _ rfl).mono ?_
  rintro e w' ⟨rfl, rfl⟩
  go_wp2_with fail
  refine (C2.out _ rfl).mono ?_
  rintro e w' ⟨rfl, rfl⟩
  go_wp2
  go_ret3
  exact ⟨_, [], _, [], rfl, .inl ⟨rfl, rfl⟩, .inl ⟨rfl, rfl⟩, Is.none (by decide), Is.none (by decide), Below.refl _ _, .inl rfl⟩

set_option maxHeartbeats 4000000 in
theorem divmod_less (ao bo : Option Addr) (la ca lb cb m p n : Nat) (w : World) (hmp : m < p) (_hp : p ≤ 10000000000)
    (c1 : ∀ w' : World, w'.heap = w.heap → Calls Tryz.prog 63 #[.slice ao la ca] w' fun e w'' => e = .returned (.slice ao m ca) ∧ w' = w'')
    (c2 : ∀ w' : World, w'.heap = w.heap → Calls Tryz.prog 63 #[.slice bo lb cb] w' fun e w'' => e = .returned (.slice bo p cb) ∧ w' = w'')
    (c3 : Calls Tryz.prog 89 #[.slice ao m ca] w (NatPost w m n)) :
    Calls Tryz.prog 91 #[.slice ao la ca, .slice bo lb cb] w (DivPost w m 0 n 0) := by
  have C1 : Hid (∀ w' : World, w'.heap = w.heap → Calls Tryz.prog 63 #[.slice ao la ca] w' fun e w'' => e = .returned (.slice ao m ca) ∧ w' = w'') := c1
  have C2 : Hid (∀ w' : World, w'.heap = w.heap → Calls Tryz.prog 63 #[.slice bo lb cb] w' fun e w'' => e = .returned (.slice bo p cb) ∧ w' = w'') := c2
  have C3 : Hid (Calls Tryz.prog 89 #[.slice ao m ca] w (NatPost w m n)) := c3
  have n1 : ((p : Int) == 0) = false := by rw [beq_eq_false_iff_ne]; omega
  have n2 : (m : Int) < (p : Int) := by omega
  clear c1 c2 c3
  go_enter Tryz.func91, Tryz.ntmps91
  go_wp2_with fail
  refine (C1.out _ rfl).mono ?_
  rintro e w' ⟨rfl, rfl⟩
  go_wp2_with fail
  refine (C2.out _ rfl).mono ?_
  rintro e w' ⟨rfl, rfl⟩
  go_wp2_with fail
  refine C3.out.mono ?_
  rintro e w1 ⟨v, r, rfl, hown, his, hbel⟩
  go_wp2
  go_ret3
  exact ⟨_, [], _, r, rfl, .inl ⟨rfl, rfl⟩, hown, Is.none (by decide), his, hbel, .inl rfl⟩

set_option maxHeartbeats 4000000 in
theorem divmod_limb (ao : Option Addr) (b o la ca lb cb m q n d : Nat) (w : World) (hm : 1 ≤ m) (hml : m ≤ 10000000000)
    (c1 : ∀ w' : World, w'.heap = w.heap → Calls Tryz.prog 63 #[.slice ao la ca] w' fun e w'' => e = .returned (.slice ao m ca) ∧ w' = w'')
    (c2 : ∀ w' : World, w'.heap = w.heap → Calls Tryz.prog 63 #[.slice (some ⟨b, o, none⟩) lb cb] w' fun e w'' => e = .returned (.slice (some ⟨b, o, none⟩) 1 cb) ∧ w' = w'')
    (hc : w.cell? ⟨b, o, none⟩ = some (.int .u64 (d : Int)))
    (c3 : Calls Tryz.prog 116 #[.slice ao m ca, .int .u64 (d : Int)] w (LimbPost w m q n)) (hn : n < B64) :
    Calls Tryz.prog 91 #[.slice ao la ca, .slice (some ⟨b, o, none⟩) lb cb] w (DivPost w m q n 0) := by
  have C1 : Hid (∀ w' : World, w'.heap = w.heap → Calls Tryz.prog 63 #[.slice ao la ca] w' fun e w'' => e = .returned (.slice ao m ca) ∧ w' = w'') := c1
  have C2 : Hid (∀ w' : World, w'.heap = w.heap → Calls Tryz.prog 63 #[.slice (some ⟨b, o, none⟩) lb cb] w' fun e w'' => e = .returned (.slice (some ⟨b, o, none⟩) 1 cb) ∧ w' = w'') := c2
  have C3 : Hid (Calls Tryz.prog 116 #[.slice ao m ca, .int .u64 (d : Int)] w (LimbPost w m q n)) := c3
  have n2 : ¬ (m : Int) < 1 := by omega
  have HN : Hid (n < B64) := hn
  clear c1 c2 c3 hn
  go_enter Tryz.func91, Tryz.ntmps91
  go_wp2_with fail
  refine (C1.out _ rfl).mono ?_
  rintro e w' ⟨rfl, rfl⟩
  go_wp2_with fail
  refine (C2.out _ rfl).mono ?_
  rintro e w' ⟨rfl, rfl⟩
  go_wp2_with fail
  refine C3.out.mono ?_
  rintro e w1 ⟨v, r, rfl, hown, his, hbel⟩
  go_wp2_with fail
  refine (of_any n _ HN.out).mono ?_
  rintro e w2 ⟨v2, r2, rfl, hown2, his2, hbel2⟩
  go_wp2
  go_ret3
  refine ⟨v, r, v2, r2, rfl, hown.below hbel2, hown2.mono hbel.size hm, his, his2, hbel.trans (hbel2.mono hbel.size), ?_⟩
  rcases hown with ⟨rfl, _⟩ | ⟨g, full, rfl, _, hr, _⟩
  · exact .inl rfl
  · refine .inr ?_
    have := hr.lt
    rcases hown2 with ⟨rfl, _⟩ | ⟨g2, full2, rfl, hg2, _⟩
    · simp [Value.ownBlock]
    · simp [Value.ownBlock]; omega

end Go.Proofs.YtifpacgacbpalabGreatDoor
