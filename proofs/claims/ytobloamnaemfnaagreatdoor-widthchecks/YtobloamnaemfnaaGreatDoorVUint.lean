/-
  What nat.Bits does.
-/
import Derived.Test.YtobloamnaemfnaaGreatDoorVNorm
import Derived.Test.YtobloamnaemfnaaGreatDoorVB3
namespace Go.Proofs.YtobloamnaemfnaaGreatDoor
open Go.RowKit

theorem num_small {b : Nat} {xs : List Nat} (h : (trimmed xs).length ≤ 1) : num b xs = dg xs 0 := by
  have h0 : ∀ i, 1 ≤ i → dg xs i = 0 := fun i hi => by rw [← dg_trimmed, dg_out (by omega)]
  have := V_zero (b := b) (f := dg xs) (m := 1) (max xs.length 1) (by omega) (fun i hi => h0 i hi)
  rw [num_eq (by omega)] at this
  rw [this]; simp [V]

theorem B64_pow : B64 = 2 ^ 64 := by decide +kernel

theorem bits_num {xs : List Nat} {t : Nat} (ox : Ok B64 xs) (ht : (trimmed xs).length = t + 1) : bitsN (num B64 xs) = t * 64 + bitsN (dg (trimmed xs) t) := by
  have h := bits_top B64_pow (f := dg (trimmed xs)) (n := t) (fun i _ => trimmed_ok ox i) (trimmed_top xs t ht)
  rw [← num_trimmed]
  unfold num
  rw [ht, h]; omega

theorem bitsN_le {x : Nat} (h : x < B64) : bitsN x ≤ 64 := by
  rw [B64_pow] at h
  rw [← bitLen_bits x h]
  exact Lib.bitLen_le x 64 (by omega) h

set_option maxHeartbeats 1000000 in
theorem bits_any (ao : Option Addr) (la ca : Nat) (xs : List Nat) (w : World) (hla : la ≤ ca) (hca : la ≤ 1000000000000 ∧ ca ≤ 9223372036854775807) (hx : xs.length = la) (hax : At .u64 w ao xs) (ox : Ok B64 xs) :
    Calls Tryz.prog 193 #[.slice ao la ca] w fun e w' => e = .returned (.int .i64 (bitsN (num B64 xs) : Int)) ∧ w = w' := by
  obtain ⟨m, hm⟩ : ∃ m, m = (trimmed xs).length := ⟨_, rfl⟩
  have hml : m ≤ la := by rw [hm, ← hx]; exact length_trimmed_le xs
  have T1 : Hid ((trimmed xs).length = m) := hm.symm
  rcases m with _ | t
  · have hz : num B64 xs = 0 := by
      rw [← num_trimmed, List.length_eq_zero_iff.1 hm.symm]; rfl
    have HZ : Hid (num B64 xs = 0) := hz
    clear hm hz
    go_enter Tryz.func193, Tryz.ntmps193
    go_wp2_with fail
    refine (trim_to ao la ca 0 xs _ hla (by omega) hx hax T1.out).mono ?_
    rintro e w' ⟨rfl, rfl⟩
    go_wp2
    go_ret
    refine ⟨?_, rfl⟩
    rw [HZ.out]; rfl
  · have axt := hax.trimmed
    rcases axt with h | ⟨b, o, rfl, _, h3⟩
    · rw [h] at hm; simp at hm
    · have hcell := h3 t (by omega)
      obtain ⟨d, hd⟩ : ∃ d, d = dg (trimmed xs) t := ⟨_, rfl⟩
      have hcell' : w.cell? ⟨b, o + t, none⟩ = some (.int .u64 (d : Int)) := by rw [hd]; exact hcell
      have od : d < B64 := by rw [hd]; exact trimmed_ok ox t
      have hb := bits_num ox hm.symm
      rw [← hd] at hb
      have hle := bitsN_le od
      obtain ⟨q, hq⟩ : ∃ q, q = bitsN d := ⟨_, rfl⟩
      rw [← hq] at hb hle
      have HB : Hid (bitsN (num B64 xs) = t * 64 + q) := hb
      have HQ : Hid (Lib.bitLen d = q) := by rw [hq]; exact bitLen_bits d (by rw [← B64_pow]; exact od)
      have hne : (((t + 1 : Nat) : Int) == 0) = false := by rw [beq_eq_false_iff_ne]; omega
      clear hm hb hq hd h3 hcell
      go_enter Tryz.func193, Tryz.ntmps193
      go_wp2_with fail
      refine (trim_to _ la ca (t + 1) xs _ hla (by omega) hx hax T1.out).mono ?_
      rintro e w' ⟨rfl, rfl⟩
      go_wp2_with fail
      refine (len64 d _ od).mono ?_
      rintro e w' ⟨rfl, rfl⟩
      rw [HQ.out]
      go_wp2
      go_ret
      refine ⟨?_, rfl⟩
      rw [HB.out]
      exact congrArg Ending.returned (congrArg (Value.int IntKind.i64) (by omega))

end Go.Proofs.YtobloamnaemfnaaGreatDoor
