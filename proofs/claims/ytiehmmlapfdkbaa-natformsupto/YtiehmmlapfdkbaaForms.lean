/-
  The walk of quipulaw01.NatForms: whatever list and number are handed in, it answers true, and leaves what was there as it was.
-/
import Derived.Test.YtiehmmlapfdkbaaAwake
import Derived.Test.YtiehmmlapfdkbaaRBits
import Derived.Test.YtiehmmlapfdkbaaUintF
namespace Go.Proofs.Ytiehmmlapfdkbaa
open Go.RowKit

theorem is_len {b n k : Nat} {r : List Nat} (h : Is b r n) (hn : n < b ^ k) : r.length ≤ k := by
  rcases hr : r.length with _ | m
  · omega
  · have h1 := num_ge (b := b) h.2.1 hr
    rw [h.2.2] at h1
    have h2 : b ^ m < b ^ k := by omega
    rcases Nat.lt_or_ge m k with e | e
    · exact e
    · have hb : 0 < b := by have := h.1 0; omega
      have := Nat.pow_le_pow_right hb e; omega

theorem uint_small (ao : Option Addr) (la ca : Nat) (xs : List Nat) (w : World) (hla : la ≤ ca) (hca : ca ≤ 1000000000000) (hx : xs.length = la) (hax : At .u64 w ao xs) (hm : (trimmed xs).length ≤ 1) :
    Calls Try.prog 28 #[.slice ao la ca] w fun e w' => e = .returned (.tuple #[.int .u64 (num B64 xs : Int), .bool true]) ∧ w = w' := by
  refine (uint_any ao la ca xs w hla hca hx hax).mono ?_
  rintro e w' ⟨rfl, rfl⟩
  rw [if_pos hm, decide_eq_true hm]
  exact ⟨rfl, rfl⟩

theorem uint_big (ao : Option Addr) (la ca : Nat) (xs : List Nat) (w : World) (hla : la ≤ ca) (hca : ca ≤ 1000000000000) (hx : xs.length = la) (hax : At .u64 w ao xs) (hm : ¬ (trimmed xs).length ≤ 1) :
    Calls Try.prog 28 #[.slice ao la ca] w fun e w' => e = .returned (.tuple #[.int .u64 0, .bool false]) ∧ w = w' := by
  refine (uint_any ao la ca xs w hla hca hx hax).mono ?_
  rintro e w' ⟨rfl, rfl⟩
  rw [if_neg hm, decide_eq_false hm]
  exact ⟨rfl, rfl⟩

set_option maxRecDepth 100000 in
set_option maxHeartbeats 2000000 in
theorem forms_none (oa : Option Addr) (la ca : Nat) (xa : List Nat) (w : World) (hla : la ≤ ca) (hca : ca ≤ 1048576) (hxa : xa.length = la) (ata : At .u64 w oa xa) (oka : Ok B64 xa) (na : Nat) (hna : Hid (na < B64)) (hM : Hid ((trimmed xa).length = 0)) :
    Calls Try.prog 7 #[.slice oa la ca, .int .u64 (na : Int)] w fun e w' => e = .returned (.bool true) ∧ Below w.heap.size w w' := by
  go_enter Try.func7, Try.ntmps7
  have hbw : Below w.heap.size w w := Below.refl _ _
  go_wp2_with fail
  refine (in_any oa la ca xa _ (by omega) hxa ata oka).mono ?_
  rintro e w1 ⟨oi, ci, yi, rfl, hli, ati, isi, hmi, hbel⟩
  replace ata := ata.below hbel
  replace hbw := hbw.trans (hbel.mono hbw.size)
  clear hbel
  go_wp2_with fail
  refine (uint_small oa la ca xa _ hla (by omega) hxa ata (by rw [hM.out]; omega)).mono ?_
  rintro e w' ⟨rfl, rfl⟩
  rw [show num B64 xa = 0 by rw [← num_trimmed, List.length_eq_zero_iff.1 hM.out]; rfl]
  go_wp2_with fail
  refine (out_any oi yi.length ci yi _ (by omega) hli rfl ati isi.1).mono ?_
  rintro e w2 ⟨oo, co, os, rfl, hlo, ato, iso, hmo, hbel⟩
  replace ata := ata.below hbel
  replace ati := ati.below hbel
  replace hbw := hbw.trans (hbel.mono hbw.size)
  clear hbel
  rw [isi.2.2] at iso
  have hol : os.length = 0 := by rw [← hM.out]; exact congrArg List.length (iso.uniq (by decide) (Is.trimmed oka))
  rw [hol]
  rw [hol] at hlo
  have HOL : Hid (os.length = 0) := hol
  clear hol hmo
  go_wp2_with fail
  refine (awake_true _).mono ?_
  rintro e w3 ⟨rfl, hbel⟩
  replace ata := ata.below hbel
  replace ati := ati.below hbel
  replace ato := ato.below hbel
  replace hbw := hbw.trans (hbel.mono hbw.size)
  clear hbel
  go_wp2_with fail
  refine (norm_any oa la ca xa _ hla (by omega) hxa ata oka).mono ?_
  rintro e w4 ⟨v, r1, rfl, hown1, is1, hbel⟩
  obtain ⟨o1, c1, rfl, hl1, hm1, at1⟩ := hown1.shape
  clear hown1
  replace ata := ata.below hbel
  replace ati := ati.below hbel
  replace ato := ato.below hbel
  replace hbw := hbw.trans (hbel.mono hbw.size)
  clear hbel
  have e1 : Hid (r1 = os) := is1.uniq (by decide) iso
  go_wp2_with fail
  refine (same_any o1 oo r1.length c1 0 co r1 os _ (by omega) rfl HOL.out at1 ato).mono ?_
  rintro e w5 ⟨rfl, hbel⟩
  rw [show decide (r1 = os) = true from decide_eq_true e1.out]
  replace ata := ata.below hbel
  replace ati := ati.below hbel
  replace ato := ato.below hbel
  replace at1 := at1.below hbel
  replace hbw := hbw.trans (hbel.mono hbw.size)
  clear hbel
  clear at1
  clear is1 hl1 hm1 e1
  go_wp2_with fail
  refine (bits_any oa la ca xa _ hla (by omega) hxa ata oka).mono ?_
  rintro e w' ⟨rfl, rfl⟩
  go_wp2_with fail
  refine (rbits_any oi yi.length ci yi _ hli (by omega) rfl ati isi.1).mono ?_
  rintro e w' ⟨rfl, rfl⟩
  rw [isi.2.2]
  clear ati
  clear ato
  go_wp2_with fail
  refine (of_any na _ (by exact hna.out)).mono ?_
  rintro e w6 ⟨v, r2, rfl, hown2, is2, hbel⟩
  obtain ⟨o2, c2, rfl, hl2, hm2, at2⟩ := hown2.shape
  clear hown2
  replace ata := ata.below hbel
  replace hbw := hbw.trans (hbel.mono hbw.size)
  clear hbel
  go_wp2_with fail
  have e2 : Hid ((trimmed r2).length ≤ 1) := by show _ ≤ _; rw [trimmed_of_top is2.2.1]; exact is_len is2 (by rw [Nat.pow_one]; exact hna.out)
  refine (uint_small o2 r2.length c2 r2 _ hl2 (by omega) rfl at2 e2.out).mono ?_
  rintro e w' ⟨rfl, rfl⟩
  rw [is2.2.2]
  clear e2
  clear at2
  clear is2 hl2 hm2
  go_wp2_with fail
  refine (of_any 0 _ (by decide)).mono ?_
  rintro e w7 ⟨v, r3, rfl, hown3, is3, hbel⟩
  obtain ⟨o3, c3, rfl, hl3, hm3, at3⟩ := hown3.shape
  clear hown3
  replace ata := ata.below hbel
  replace hbw := hbw.trans (hbel.mono hbw.size)
  clear hbel
  have e3 : r3.length = 0 := by rw [is3.uniq (by decide) (Is.none (by decide))]; rfl
  rw [e3]
  clear e3 at3 is3 hl3 hm3
  go_wp2
  go_ret
  exact ⟨rfl, hbw⟩

set_option maxRecDepth 100000 in
set_option maxHeartbeats 2000000 in
theorem forms_one (oa : Option Addr) (la ca : Nat) (xa : List Nat) (w : World) (hla : la ≤ ca) (hca : ca ≤ 1048576) (hxa : xa.length = la) (ata : At .u64 w oa xa) (oka : Ok B64 xa) (na : Nat) (hna : Hid (na < B64)) (hM : Hid ((trimmed xa).length = 1)) :
    Calls Try.prog 7 #[.slice oa la ca, .int .u64 (na : Int)] w fun e w' => e = .returned (.bool true) ∧ Below w.heap.size w w' := by
  go_enter Try.func7, Try.ntmps7
  have hbw : Below w.heap.size w w := Below.refl _ _
  go_wp2_with fail
  refine (in_any oa la ca xa _ (by omega) hxa ata oka).mono ?_
  rintro e w1 ⟨oi, ci, yi, rfl, hli, ati, isi, hmi, hbel⟩
  replace ata := ata.below hbel
  replace hbw := hbw.trans (hbel.mono hbw.size)
  clear hbel
  go_wp2_with fail
  refine (uint_small oa la ca xa _ hla (by omega) hxa ata (by rw [hM.out]; omega)).mono ?_
  rintro e w' ⟨rfl, rfl⟩
  go_wp2_with fail
  refine (out_any oi yi.length ci yi _ (by omega) hli rfl ati isi.1).mono ?_
  rintro e w2 ⟨oo, co, os, rfl, hlo, ato, iso, hmo, hbel⟩
  replace ata := ata.below hbel
  replace ati := ati.below hbel
  replace hbw := hbw.trans (hbel.mono hbw.size)
  clear hbel
  rw [isi.2.2] at iso
  have hol : os.length = 1 := by rw [← hM.out]; exact congrArg List.length (iso.uniq (by decide) (Is.trimmed oka))
  rw [hol]
  rw [hol] at hlo
  have HOL : Hid (os.length = 1) := hol
  clear hol hmo
  go_wp2_with fail
  refine (awake_true _).mono ?_
  rintro e w3 ⟨rfl, hbel⟩
  replace ata := ata.below hbel
  replace ati := ati.below hbel
  replace ato := ato.below hbel
  replace hbw := hbw.trans (hbel.mono hbw.size)
  clear hbel
  go_wp2_with fail
  refine (norm_any oa la ca xa _ hla (by omega) hxa ata oka).mono ?_
  rintro e w4 ⟨v, r1, rfl, hown1, is1, hbel⟩
  obtain ⟨o1, c1, rfl, hl1, hm1, at1⟩ := hown1.shape
  clear hown1
  replace ata := ata.below hbel
  replace ati := ati.below hbel
  replace ato := ato.below hbel
  replace hbw := hbw.trans (hbel.mono hbw.size)
  clear hbel
  have e1 : Hid (r1 = os) := is1.uniq (by decide) iso
  go_wp2_with fail
  refine (same_any o1 oo r1.length c1 1 co r1 os _ (by omega) rfl HOL.out at1 ato).mono ?_
  rintro e w5 ⟨rfl, hbel⟩
  rw [show decide (r1 = os) = true from decide_eq_true e1.out]
  replace ata := ata.below hbel
  replace ati := ati.below hbel
  replace ato := ato.below hbel
  replace at1 := at1.below hbel
  replace hbw := hbw.trans (hbel.mono hbw.size)
  clear hbel
  clear at1
  clear is1 hl1 hm1 e1
  go_wp2_with fail
  refine (bits_any oa la ca xa _ hla (by omega) hxa ata oka).mono ?_
  rintro e w' ⟨rfl, rfl⟩
  go_wp2_with fail
  refine (rbits_any oi yi.length ci yi _ hli (by omega) rfl ati isi.1).mono ?_
  rintro e w' ⟨rfl, rfl⟩
  rw [isi.2.2]
  clear ati
  have hnx : Hid (dg os 0 = num B64 xa) := by have := num_one (b := B64) HOL.out; show _ = _; rw [← this]; exact iso.2.2
  obtain ⟨bo, po, rfl, hco⟩ : ∃ bo po, oo = some ⟨bo, po, none⟩ ∧ w5.cell? ⟨bo, po, none⟩ = some (.int .u64 (num B64 xa : Int)) := by
    rcases ato with h | ⟨b, o, h1, _, h3⟩
    · have := HOL.out; rw [h] at this; simp at this
    · exact ⟨b, o, h1, by rw [← hnx.out]; exact h3 0 (by have := HOL.out; omega)⟩
  clear ato
  go_wp2_with fail
  refine (of_any na _ (by exact hna.out)).mono ?_
  rintro e w6 ⟨v, r2, rfl, hown2, is2, hbel⟩
  obtain ⟨o2, c2, rfl, hl2, hm2, at2⟩ := hown2.shape
  clear hown2
  clear hco
  replace ata := ata.below hbel
  replace hbw := hbw.trans (hbel.mono hbw.size)
  clear hbel
  go_wp2_with fail
  have e2 : Hid ((trimmed r2).length ≤ 1) := by show _ ≤ _; rw [trimmed_of_top is2.2.1]; exact is_len is2 (by rw [Nat.pow_one]; exact hna.out)
  refine (uint_small o2 r2.length c2 r2 _ hl2 (by omega) rfl at2 e2.out).mono ?_
  rintro e w' ⟨rfl, rfl⟩
  rw [is2.2.2]
  clear e2
  clear at2
  clear is2 hl2 hm2
  go_wp2_with fail
  refine (of_any 0 _ (by decide)).mono ?_
  rintro e w7 ⟨v, r3, rfl, hown3, is3, hbel⟩
  obtain ⟨o3, c3, rfl, hl3, hm3, at3⟩ := hown3.shape
  clear hown3
  replace ata := ata.below hbel
  replace hbw := hbw.trans (hbel.mono hbw.size)
  clear hbel
  have e3 : r3.length = 0 := by rw [is3.uniq (by decide) (Is.none (by decide))]; rfl
  rw [e3]
  clear e3 at3 is3 hl3 hm3
  go_wp2
  go_ret
  exact ⟨rfl, hbw⟩

set_option maxRecDepth 100000 in
set_option maxHeartbeats 2000000 in
theorem forms_more (oa : Option Addr) (la ca : Nat) (xa : List Nat) (w : World) (hla : la ≤ ca) (hca : ca ≤ 1048576) (hxa : xa.length = la) (ata : At .u64 w oa xa) (oka : Ok B64 xa) (na : Nat) (hna : Hid (na < B64)) (t : Nat) (htl : t ≤ 1048576) (hM : Hid ((trimmed xa).length = t + 2)) :
    Calls Try.prog 7 #[.slice oa la ca, .int .u64 (na : Int)] w fun e w' => e = .returned (.bool true) ∧ Below w.heap.size w w' := by
  go_enter Try.func7, Try.ntmps7
  have hbw : Below w.heap.size w w := Below.refl _ _
  go_wp2_with fail
  refine (in_any oa la ca xa _ (by omega) hxa ata oka).mono ?_
  rintro e w1 ⟨oi, ci, yi, rfl, hli, ati, isi, hmi, hbel⟩
  replace ata := ata.below hbel
  replace hbw := hbw.trans (hbel.mono hbw.size)
  clear hbel
  go_wp2_with fail
  refine (uint_big oa la ca xa _ hla (by omega) hxa ata (by rw [hM.out]; omega)).mono ?_
  rintro e w' ⟨rfl, rfl⟩
  go_wp2_with fail
  refine (out_any oi yi.length ci yi _ (by omega) hli rfl ati isi.1).mono ?_
  rintro e w2 ⟨oo, co, os, rfl, hlo, ato, iso, hmo, hbel⟩
  replace ata := ata.below hbel
  replace ati := ati.below hbel
  replace hbw := hbw.trans (hbel.mono hbw.size)
  clear hbel
  rw [isi.2.2] at iso
  have hol : os.length = (t + 2) := by rw [← hM.out]; exact congrArg List.length (iso.uniq (by decide) (Is.trimmed oka))
  rw [hol]
  rw [hol] at hlo
  have HOL : Hid (os.length = (t + 2)) := hol
  clear hol hmo
  go_wp2_with fail
  refine (awake_true _).mono ?_
  rintro e w3 ⟨rfl, hbel⟩
  replace ata := ata.below hbel
  replace ati := ati.below hbel
  replace ato := ato.below hbel
  replace hbw := hbw.trans (hbel.mono hbw.size)
  clear hbel
  go_wp2_with fail
  refine (norm_any oa la ca xa _ hla (by omega) hxa ata oka).mono ?_
  rintro e w4 ⟨v, r1, rfl, hown1, is1, hbel⟩
  obtain ⟨o1, c1, rfl, hl1, hm1, at1⟩ := hown1.shape
  clear hown1
  replace ata := ata.below hbel
  replace ati := ati.below hbel
  replace ato := ato.below hbel
  replace hbw := hbw.trans (hbel.mono hbw.size)
  clear hbel
  have e1 : Hid (r1 = os) := is1.uniq (by decide) iso
  go_wp2_with fail
  refine (same_any o1 oo r1.length c1 (t + 2) co r1 os _ (by omega) rfl HOL.out at1 ato).mono ?_
  rintro e w5 ⟨rfl, hbel⟩
  rw [show decide (r1 = os) = true from decide_eq_true e1.out]
  replace ata := ata.below hbel
  replace ati := ati.below hbel
  replace ato := ato.below hbel
  replace at1 := at1.below hbel
  replace hbw := hbw.trans (hbel.mono hbw.size)
  clear hbel
  clear at1
  clear is1 hl1 hm1 e1
  go_wp2_with fail
  refine (bits_any oa la ca xa _ hla (by omega) hxa ata oka).mono ?_
  rintro e w' ⟨rfl, rfl⟩
  go_wp2_with fail
  refine (rbits_any oi yi.length ci yi _ hli (by omega) rfl ati isi.1).mono ?_
  rintro e w' ⟨rfl, rfl⟩
  rw [isi.2.2]
  clear ati
  clear ato
  go_wp2_with fail
  refine (of_any na _ (by exact hna.out)).mono ?_
  rintro e w6 ⟨v, r2, rfl, hown2, is2, hbel⟩
  obtain ⟨o2, c2, rfl, hl2, hm2, at2⟩ := hown2.shape
  clear hown2
  replace ata := ata.below hbel
  replace hbw := hbw.trans (hbel.mono hbw.size)
  clear hbel
  go_wp2_with fail
  have e2 : Hid ((trimmed r2).length ≤ 1) := by show _ ≤ _; rw [trimmed_of_top is2.2.1]; exact is_len is2 (by rw [Nat.pow_one]; exact hna.out)
  refine (uint_small o2 r2.length c2 r2 _ hl2 (by omega) rfl at2 e2.out).mono ?_
  rintro e w' ⟨rfl, rfl⟩
  rw [is2.2.2]
  clear e2
  clear at2
  clear is2 hl2 hm2
  go_wp2_with fail
  refine (of_any 0 _ (by decide)).mono ?_
  rintro e w7 ⟨v, r3, rfl, hown3, is3, hbel⟩
  obtain ⟨o3, c3, rfl, hl3, hm3, at3⟩ := hown3.shape
  clear hown3
  replace ata := ata.below hbel
  replace hbw := hbw.trans (hbel.mono hbw.size)
  clear hbel
  have e3 : r3.length = 0 := by rw [is3.uniq (by decide) (Is.none (by decide))]; rfl
  rw [e3]
  clear e3 at3 is3 hl3 hm3
  go_wp2
  go_ret
  exact ⟨rfl, hbw⟩

theorem forms_walk (w : World) (oa : Option Addr) (la ca : Nat) (xa : List Nat) (hla : la ≤ ca) (hca : ca ≤ 1048576) (hxa : xa.length = la) (ata : At .u64 w oa xa) (oka : Ok B64 xa) (nb : Int) (wfb : (Lit.int .u64 nb).wf = true) :
    Calls Try.prog 7 #[.slice oa la ca, .int .u64 nb] w fun e w' => e = .returned (.bool true) ∧ Below w.heap.size w w' := by
  have hb : 0 ≤ nb ∧ nb < 18446744073709551616 := by
    simp [Lit.wf, IntKind.min, IntKind.max, IntKind.signed, IntKind.bits] at wfb
    omega
  obtain ⟨n, rfl⟩ := Int.eq_ofNat_of_zero_le hb.1
  have hn : n < B64 := by show n < 18446744073709551616; omega
  have hl := length_trimmed_le xa
  rcases hm : (trimmed xa).length with _ | _ | t
  · exact forms_none oa la ca xa w hla hca hxa ata oka n hn hm
  · exact forms_one oa la ca xa w hla hca hxa ata oka n hn hm
  · exact forms_more oa la ca xa w hla hca hxa ata oka n hn t (by omega) hm

end Go.Proofs.Ytiehmmlapfdkbaa
