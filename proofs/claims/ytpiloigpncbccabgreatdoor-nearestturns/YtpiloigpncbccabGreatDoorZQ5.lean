/-
  Plain mathematics: how many bits a number has, by its highest digit.
  What nat.Bits does.
  What nat.Uint does.
-/
import Derived.Test.YtpiloigpncbccabGreatDoorZNum
import Derived.Lib.BitFns
import Derived.Test.YtpiloigpncbccabGreatDoorNorm
namespace Go.Proofs.YtpiloigpncbccabGreatDoor

/-- How many bits a number has. -/
def bitsN (n : Nat) : Nat := if n = 0 then 0 else n.log2 + 1

theorem bitsN_eq {n k : Nat} (h1 : 2 ^ k ≤ n) (h2 : n < 2 ^ (k + 1)) : bitsN n = k + 1 := by
  have h0 : n ≠ 0 := by have := Nat.two_pow_pos k; omega
  unfold bitsN
  rw [if_neg h0, (Nat.log2_eq_iff h0).2 ⟨h1, h2⟩]

theorem bitsN_spec {n : Nat} (h : n ≠ 0) : ∃ k, bitsN n = k + 1 ∧ 2 ^ k ≤ n ∧ n < 2 ^ (k + 1) :=
  ⟨n.log2, by simp [bitsN, h], Nat.log2_self_le h, Nat.lt_log2_self⟩

theorem bitLen_bits (x : Nat) (h : x < 2 ^ 64) : Lib.bitLen x = bitsN x := by
  by_cases h0 : x = 0
  · subst h0; decide
  · obtain ⟨k, hk, h1, h2⟩ := bitsN_spec h0
    rw [hk, Lib.bitLen_shift k x h1 h]
    have : x / 2 ^ k = 1 := by
      have hp := Nat.two_pow_pos k
      have a1 : 1 ≤ x / 2 ^ k := (Nat.le_div_iff_mul_le hp).2 (by omega)
      have a2 : x / 2 ^ k < 2 := (Nat.div_lt_iff_lt_mul hp).2 (by rw [Nat.pow_succ] at h2; omega)
      omega
    rw [this]
    have : Lib.bitLen 1 = 1 := by decide
    rw [this]

theorem bits_top {s b : Nat} {f : Nat → Nat} {n : Nat} (hb : b = 2 ^ s) (hf : ∀ i, i < n + 1 → f i < b) (h0 : f n ≠ 0) : bitsN (V b f (n + 1)) = s * n + bitsN (f n) := by
  obtain ⟨k, hk, h1, h2⟩ := bitsN_spec h0
  have hv := V_lt n (fun i hi => hf i (by omega))
  rw [hk]
  have hp : b ^ n = 2 ^ (s * n) := by rw [hb, Nat.pow_mul]
  refine bitsN_eq (k := s * n + k) ?_ ?_
  · simp only [V]
    rw [Nat.pow_add, ← hp]
    have := Nat.mul_le_mul_left (b ^ n) h1
    rw [Nat.mul_comm (f n)]
    omega
  · simp only [V]
    rw [show s * n + k + 1 = s * n + (k + 1) by omega, Nat.pow_add, ← hp]
    have h3 : (f n + 1) * b ^ n ≤ 2 ^ (k + 1) * b ^ n := Nat.mul_le_mul_right _ h2
    rw [Nat.add_mul, Nat.one_mul] at h3
    rw [Nat.mul_comm (b ^ n)]
    omega

end Go.Proofs.YtpiloigpncbccabGreatDoor

namespace Go.Proofs.YtpiloigpncbccabGreatDoor
open Go.RowKit

theorem num_small {b : Nat} {xs : List Nat} (h : (trimmed xs).length ≤ 1) : num b xs = dg xs 0 := by
  have h0 : ∀ i, 1 ≤ i → dg xs i = 0 := fun i hi => by rw [← dg_trimmed, dg_out (by omega)]
  have := V_zero (b := b) (f := dg xs) (m := 1) (max xs.length 1) (by omega) (fun i hi => h0 i hi)
  rw [num_eq (by omega)] at this
  rw [this]; simp [V]

theorem B64_pow : B64 = 2 ^ 64 := by decide +kernel

theorem bits_num {xs : List Nat} {t : Nat} (ox : Ok B64 xs) (ht : (trimmed xs).length = t + 1) : bitsN (num B64 xs) = t * 64 + bitsN (dg (trimmed xs) t) := by
  have h := bits_top B64_pow (f := dg (trimmed xs)) (n := t) (fun i _ => trimmed_ok ox i) (trimmed_top xs t ht)
  rw [← num_trimmed]
  unfold num
  rw [ht, h]; omega

theorem bitsN_le {x : Nat} (h : x < B64) : bitsN x ≤ 64 := by
  rw [B64_pow] at h
  rw [← bitLen_bits x h]
  exact Lib.bitLen_le x 64 (by omega) h

set_option maxHeartbeats 1000000 in
theorem bits_any (ao : Option Addr) (la ca : Nat) (xs : List Nat) (w : World) (hla : la ≤ ca) (hca : la ≤ 1000000000000 ∧ ca ≤ 9223372036854775807) (hx : xs.length = la) (hax : At .u64 w ao xs) (ox : Ok B64 xs) :
    Calls Tryz.prog 106 #[.slice ao la ca] w fun e w' => e = .returned (.int .i64 (bitsN (num B64 xs) : Int)) ∧ w = w' := by
  obtain ⟨m, hm⟩ : ∃ m, m = (trimmed xs).length := ⟨_, rfl⟩
  have hml : m ≤ la := by rw [hm, ← hx]; exact length_trimmed_le xs
  have T1 : Hid ((trimmed xs).length = m) := hm.symm
  rcases m with _ | t
  · have hz : num B64 xs = 0 := by
      rw [← num_trimmed, List.length_eq_zero_iff.1 hm.symm]; rfl
    have HZ : Hid (num B64 xs = 0) := hz
    clear hm hz
    go_enter Tryz.func106, Tryz.ntmps106
    go_wp2_with fail
    refine (trim_to ao la ca 0 xs _ hla (by omega) hx hax T1.out).mono ?_
    rintro e w' ⟨rfl, rfl⟩
    go_wp2
    go_ret
    refine ⟨?_, rfl⟩
    rw [HZ.out]; rfl
  · have axt := hax.trimmed
    rcases axt with h | ⟨b, o, rfl, _, h3⟩
    · rw [h] at hm; simp at hm
    · have hcell := h3 t (by omega)
      obtain ⟨d, hd⟩ : ∃ d, d = dg (trimmed xs) t := ⟨_, rfl⟩
      have hcell' : w.cell? ⟨b, o + t, none⟩ = some (.int .u64 (d : Int)) := by rw [hd]; exact hcell
      have od : d < B64 := by rw [hd]; exact trimmed_ok ox t
      have hb := bits_num ox hm.symm
      rw [← hd] at hb
      have hle := bitsN_le od
      obtain ⟨q, hq⟩ : ∃ q, q = bitsN d := ⟨_, rfl⟩
      rw [← hq] at hb hle
      have HB : Hid (bitsN (num B64 xs) = t * 64 + q) := hb
      have HQ : Hid (Lib.bitLen d = q) := by rw [hq]; exact bitLen_bits d (by rw [← B64_pow]; exact od)
      have hne : (((t + 1 : Nat) : Int) == 0) = false := by rw [beq_eq_false_iff_ne]; omega
      clear hm hb hq hd h3 hcell
      go_enter Tryz.func106, Tryz.ntmps106
      go_wp2_with fail
      refine (trim_to _ la ca (t + 1) xs _ hla (by omega) hx hax T1.out).mono ?_
      rintro e w' ⟨rfl, rfl⟩
      go_wp2_with fail
      refine (len64 d _ od).mono ?_
      rintro e w' ⟨rfl, rfl⟩
      rw [HQ.out]
      go_wp2
      go_ret
      refine ⟨?_, rfl⟩
      rw [HB.out]
      exact congrArg Ending.returned (congrArg (Value.int IntKind.i64) (by omega))

end Go.Proofs.YtpiloigpncbccabGreatDoor

namespace Go.Proofs.YtpiloigpncbccabGreatDoor
open Go.RowKit

/-- What nat.Uint answers of a list that is the number n, and has m limbs without noughts on top. -/
def UintPost (w : World) (m n : Nat) (e : Ending) (w' : World) : Prop :=
  e = .returned (.tuple #[.int .u64 ((if m ≤ 1 then n else 0 : Nat) : Int), .bool (decide (m ≤ 1))]) ∧ w = w'

set_option maxHeartbeats 1000000 in
theorem uint_any (ao : Option Addr) (la ca : Nat) (xs : List Nat) (w : World) (hla : la ≤ ca) (hca : ca ≤ 1000000000000) (hx : xs.length = la) (hax : At .u64 w ao xs) :
    Calls Tryz.prog 52 #[.slice ao la ca] w (UintPost w (trimmed xs).length (num B64 xs)) := by
  obtain ⟨m, hm⟩ : ∃ m, m = (trimmed xs).length := ⟨_, rfl⟩
  have hml : m ≤ la := by rw [hm, ← hx]; exact length_trimmed_le xs
  have T1 : Hid ((trimmed xs).length = m) := hm.symm
  clear hm
  by_cases h : m ≤ 1
  · have h' : ¬ (1 : Int) < (m : Int) := by omega
    go_enter Tryz.func52, Tryz.ntmps52
    go_wp2_with fail
    refine (trim_to ao la ca m xs _ hla (by omega) hx hax T1.out).mono ?_
    rintro e w' ⟨rfl, rfl⟩
    go_wp2_with fail
    refine (limb_any ao la ca 0 (dg xs 0) _ (by omega) (by omega) (by rw [← hx]; exact hax.limb 0)).mono ?_
    rintro e w' ⟨rfl, rfl⟩
    go_wp2
    go_ret2
    refine ⟨?_, rfl⟩
    rw [T1.out, if_pos h, num_small (by rw [T1.out]; exact h), decide_eq_true h]
    rfl
  · have h' : (1 : Int) < (m : Int) := by omega
    go_enter Tryz.func52, Tryz.ntmps52
    go_wp2_with fail
    refine (trim_to ao la ca m xs _ hla (by omega) hx hax T1.out).mono ?_
    rintro e w' ⟨rfl, rfl⟩
    go_wp2
    go_ret2
    refine ⟨?_, rfl⟩
    rw [T1.out, if_neg h, decide_eq_false h]
    rfl

end Go.Proofs.YtpiloigpncbccabGreatDoor
