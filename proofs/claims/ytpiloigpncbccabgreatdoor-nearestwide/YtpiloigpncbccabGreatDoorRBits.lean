/-
  What the reference's Bits does.
-/
import Derived.Test.YtpiloigpncbccabGreatDoorOut
namespace Go.Proofs.YtpiloigpncbccabGreatDoor
open Go.RowKit

theorem bitsN_half {x : Nat} (h : 0 < x) : bitsN x = bitsN (x / 2) + 1 := by
  by_cases h1 : x = 1
  · subst h1; decide
  · obtain ⟨k, hk, a1, a2⟩ := bitsN_spec (show x / 2 ≠ 0 by omega)
    rw [hk]
    refine bitsN_eq (k := k + 1) ?_ ?_
    · rw [Nat.pow_succ]; omega
    · rw [Nat.pow_succ] at a2 ⊢; omega


theorem rbits_num {ys : List Nat} {t : Nat} (oy : Ok 65536 ys) (ht : (trimmed ys).length = t + 1) : bitsN (num 65536 ys) = 16 * t + bitsN (dg (trimmed ys) t) := by
  have h := bits_top pow16 (f := dg (trimmed ys)) (n := t) (fun i _ => trimmed_ok oy i) (trimmed_top ys t ht)
  rw [← num_trimmed]
  unfold num
  rw [ht, h]

set_option maxRecDepth 100000 in
set_option maxHeartbeats 1000000 in
theorem rbits_any (ao : Option Addr) (la ca : Nat) (ys : List Nat) (w : World) (hla : la ≤ ca) (hl : la ≤ 1000000000) (hx : ys.length = la) (hat : At .u32 w ao ys) (oy : Ok 65536 ys) :
    Calls Tryz.prog 39 #[.slice ao la ca] w fun e w' => e = .returned (.int .i64 (bitsN (num 65536 ys) : Int)) ∧ w = w' := by
  obtain ⟨m, hm⟩ : ∃ m, m = (trimmed ys).length := ⟨_, rfl⟩
  have hml : m ≤ la := by rw [hm, ← hx]; exact length_trimmed_le ys
  have T1 : Hid ((trimmed ys).length = m) := hm.symm
  rcases m with _ | t
  · have hz : num 65536 ys = 0 := by
      rw [← num_trimmed, List.length_eq_zero_iff.1 hm.symm]; rfl
    have HZ : Hid (num 65536 ys = 0) := hz
    clear hm hz
    go_enter Tryz.func39, Tryz.ntmps39
    go_wp2_with fail
    refine (rtrim_to ao la ca 0 ys _ hla (by omega) hx hat T1.out).mono ?_
    rintro e w' ⟨rfl, rfl⟩
    go_wp2
    go_ret
    refine ⟨?_, rfl⟩
    rw [HZ.out]; rfl
  · rcases hat.trimmed with h | ⟨b, o, rfl, _, h3⟩
    · rw [h] at hm; simp at hm
    · obtain ⟨d, hd⟩ : ∃ d, d = dg (trimmed ys) t := ⟨_, rfl⟩
      have hcell : w.cell? ⟨b, o + t, none⟩ = some (.int .u32 (d : Int)) := by rw [hd]; exact h3 t (by omega)
      have hb := rbits_num oy hm.symm
      have hdl : d < 65536 := by rw [hd]; exact trimmed_ok oy t
      rw [← hd] at hb
      have HB : Hid (bitsN (num 65536 ys) = 16 * t + bitsN d) := hb
      have hne : (((t + 1 : Nat) : Int) == 0) = false := by rw [beq_eq_false_iff_ne]; omega
      clear hm hb hd h3
      go_enter Tryz.func39, Tryz.ntmps39
      go_wp2_with fail
      refine (rtrim_to _ la ca (t + 1) ys _ hla (by omega) hx hat T1.out).mono ?_
      rintro e w' ⟨rfl, rfl⟩
      go_wp2
      go_loop [3, 4] (fun a x => ∃ n y : Nat, a = .int .i64 (n : Int) ∧ x = .int .u32 (y : Int) ∧ n + bitsN y = 16 * t + bitsN d ∧ y < 65536 ∧ n ≤ 16 * t + 16) (fun _ x => (intOf x).toNat)
      case atStart =>
        refine ⟨16 * t, d, ?_, rfl, rfl, hdl, by omega⟩
        exact congrArg (Value.int IntKind.i64) (by omega)
      case round =>
        obtain ⟨n, y, rfl, rfl, hn, hy, hnl⟩ := hrel
        have HN : Hid (n + bitsN y = 16 * t + bitsN d) := hn
        clear hn
        rcases y with _ | y
        · go_wp2
          go_ret
          refine ⟨?_, rfl⟩
          rw [HB.out, ← HN.out]; rfl
        · have hpos : (0 : Int) < ((y + 1 : Nat) : Int) := by omega
          have hh := bitsN_half (x := y + 1) (by omega)
          have hb16 : bitsN d ≤ 16 := by
            have := bitLen_bits d (Nat.lt_of_lt_of_le hdl (by decide +kernel))
            rw [← this]; exact Lib.bitLen_le d 16 (by omega) (by simpa using hdl)
          have hnl' : n + 1 ≤ 16 * t + 16 := by have := HN.out; omega
          have HH : Hid (n + 1 + bitsN ((y + 1) / 2) = 16 * t + bitsN d) := by have := HN.out; show _ = _; omega
          clear hh hb16
          go_wp2
          go_round
          case rel => exact ⟨n + 1, (y + 1) / 2, by go_num, congrArg (Value.int IntKind.u32) (by omega), HH.out, by omega, hnl'⟩
          case measure => simp [intOf]; omega

end Go.Proofs.YtpiloigpncbccabGreatDoor
