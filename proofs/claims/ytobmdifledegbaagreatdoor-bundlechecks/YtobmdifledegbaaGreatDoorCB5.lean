/-
  What cursor's number does.
  What cursor's attempt does, and its deferred function.
  What cursor's Get8, Get16 and Get32 do.
  What cursor's text and Text do.
  What is read, laid again, is the bytes that were read.
  What bundle's reader reads: texts, places of texts, parents, entries.
  What bundle's reader reads as an entry.
-/
import Derived.Test.YtobmdifledegbaaGreatDoorCB4
import Derived.Laws.BitsAllLaws
import Derived.Laws.Runes
import Derived.Defers
import Derived.Recover
import Derived.Test.YtobmdifledegbaaGreatDoorCB3
namespace Go.Proofs.YtobmdifledegbaaGreatDoor
open Go.RowKit

def beA (l : List UInt8) (at_ : Nat) : Nat → Nat
  | 0 => 0
  | k + 1 => beA l at_ k * 256 + byt l (at_ + k)

theorem beA_lt (l : List UInt8) (at_ : Nat) : ∀ k, beA l at_ k < 256 ^ k
  | 0 => by simp [beA]
  | k + 1 => by
    have h1 := beA_lt l at_ k
    have h2 := byt_lt l (at_ + k)
    rw [beA, Nat.pow_succ]
    omega

theorem or_byte {n b : Nat} (hb : b < 256) (hn : n < 16777216) : bits .or .i64 ((n : Int) * 256) (b : Int) = ((n * 256 + b : Nat) : Int) := by
  have h : bits .or .i64 ((n * 256 : Nat) : Int) (b : Int) = ((n * 256 ||| b : Nat) : Int) := by
    have hx : n * 256 ||| b < 2 ^ 62 := Nat.or_lt_two_pow (by omega) (by omega)
    show IntKind.i64.wrap ((BitVec.ofInt 64 ((n * 256 : Nat) : Int) ||| BitVec.ofInt 64 (b : Int)).toNat : Int) = _
    rw [BitVec.toNat_or, ofInt_u64 (n * 256) (by omega), ofInt_u64 b (by omega)]
    exact wrap_small _ (by omega) (by omega)
  have e : (n * 256) ||| b = n * 256 + b := by
    have := Nat.shiftLeft_add_eq_or_of_lt (i := 8) (show b < 2 ^ 8 by simpa using hb) n
    rw [Nat.shiftLeft_eq] at this
    exact this.symm
  rw [e] at h
  rw [show ((n : Int) * 256) = ((n * 256 : Nat) : Int) by omega]
  exact h

section
variable {w : World} {D : Nat} {s : ByteArray} {at_ e : Nat}

theorem blen1 : ((Lib.bitLen (255 : Int).toNat : Nat) : Int) = 8 := by decide

set_option maxHeartbeats 1000000 in
theorem number1_no (hs : s.size ≤ 4611686018427387904) (ha : at_ ≤ s.size) (h : Cur w D s at_ e) (hn : s.size < at_ + 1) : Calls Tryz.prog 88 #[.pointer (some ⟨D, 0, none⟩)] w fun x w' => Pan 110 x ∧ Below w.heap.size w w' := by
  have HL := hide (Tryz.bits_Len64 255 w (by decide) (by decide))
  rw [blen1] at HL
  have HT : Hid (Calls Tryz.prog 109 #[.pointer (some ⟨D, 0, none⟩), .int .i64 1] w fun x w' => Pan 110 x ∧ Below w.heap.size w w') := take_no 1 hs ha h hn
  clear h hn ha
  go_enter Tryz.func88, Tryz.ntmps88
  go_wp2_with fail
  refine HL.out.mono ?_
  rintro x w1 ⟨rfl, rfl⟩
  go_wp2_with fail
  refine HT.out.mono ?_
  rintro x w1 ⟨rfl, hb⟩
  go_wp2
  exact ⟨rfl, rfl, hb⟩

set_option maxHeartbeats 1000000 in
theorem number1_ok (hs : s.size ≤ 4611686018427387904) (h : Cur w D s at_ e) (hn : at_ + 1 ≤ s.size) : Calls Tryz.prog 88 #[.pointer (some ⟨D, 0, none⟩)] w fun x w' => x = .returned (.int .i64 (beA (bys s) at_ 1 : Int)) ∧ Cur w' D s (at_ + 1) e ∧ But D w w' := by
  have HL := hide (Tryz.bits_Len64 255 w (by decide) (by decide))
  rw [blen1] at HL
  have HT : Hid (Calls Tryz.prog 109 #[.pointer (some ⟨D, 0, none⟩), .int .i64 1] w fun x w' => x = .returned (.string (s.extract at_ (at_ + 1))) ∧ Cur w' D s (at_ + 1) e ∧ But D w w') := take_ok 1 hs h hn
  obtain ⟨t, ht⟩ : ∃ t, t = s.extract at_ (at_ + 1) := ⟨_, rfl⟩
  rw [← ht] at HT
  have hts : t.size = 1 := by rw [ht, ByteArray.size_extract]; omega
  have HG : Hid (∀ i (h : i < t.size), t[i].toNat = byt (bys s) (at_ + i)) := by
    intro i hi
    subst ht
    rw [← byt_get s (at_ + i) (by omega)]
    simp [ByteArray.getElem_extract]
  have HLT : Hid (∀ i, i < 1 → beA (bys s) at_ i < 16777216) := fun i hi => Nat.lt_of_lt_of_le (beA_lt _ _ i) (by have : i = 0 ∨ i = 1 ∨ i = 2 ∨ i = 3 := (by omega); rcases this with rfl | rfl | rfl | rfl <;> decide)
  clear h hn ht
  go_enter Tryz.func88, Tryz.ntmps88
  go_wp2_with fail
  refine HL.out.mono ?_
  rintro x w1 ⟨rfl, rfl⟩
  go_wp2_with fail
  refine HT.out.mono ?_
  rintro x w2 ⟨rfl, hc, hb⟩
  have HC := hide hc
  have HB := hide hb
  clear hc hb HL HT
  go_wp2
  go_loopw [5, 16] (fun p q wr => ∃ i : Nat, i ≤ 1 ∧ p = .int .i64 (beA (bys s) at_ i : Int) ∧ q = .int .i64 (i : Int) ∧ wr = w2) (fun _ q _ => 1 - (intOf q).toNat)
  case atStart => exact ⟨0, Nat.zero_le _, rfl, rfl, rfl⟩
  case round =>
    obtain ⟨i, hi, rfl, rfl, hw⟩ := hrel
    subst hw
    by_cases hlt : i < 1
    · have hlt' : (i : Int) < 1 := by omega
      have hlt2 : i < t.size := by omega
      have hlt3 : (i : Int) < (t.size : Int) := by omega
      have hg : ∀ h : i < t.size, t[i].toNat = byt (bys s) (at_ + i) := fun h => HG.out i h
      have hb2 := byt_lt (bys s) (at_ + i)
      have hn2 := HLT.out i hlt
      obtain ⟨N, hN⟩ : ∃ N, N = beA (bys s) at_ i := ⟨_, rfl⟩
      obtain ⟨b, hbb⟩ : ∃ b, b = byt (bys s) (at_ + i) := ⟨_, rfl⟩
      have HE : Hid (((N * 256 + b : Nat) : Int) = (beA (bys s) at_ (i + 1) : Int)) := hide (by rw [hN, hbb, beA])
      rw [← hN] at hn2 ⊢
      rw [← hbb] at hg hb2
      have e2 := or_byte hb2 hn2
      clear hN hbb
      go_wp2
      exact ⟨⟨i + 1, by omega, by rw [← HE.out]; rfl, by go_num, trivial⟩, by simp [intOf]; omega⟩
    · have hlt' : ¬ (i : Int) < 1 := by omega
      obtain rfl : i = 1 := by omega
      go_wp2
      go_ret
      exact ⟨rfl, HC.out, HB.out⟩

theorem blen2 : ((Lib.bitLen (65535 : Int).toNat : Nat) : Int) = 16 := by decide

set_option maxHeartbeats 1000000 in
theorem number2_no (hs : s.size ≤ 4611686018427387904) (ha : at_ ≤ s.size) (h : Cur w D s at_ e) (hn : s.size < at_ + 2) : Calls Tryz.prog 85 #[.pointer (some ⟨D, 0, none⟩)] w fun x w' => Pan 110 x ∧ Below w.heap.size w w' := by
  have HL := hide (Tryz.bits_Len64 65535 w (by decide) (by decide))
  rw [blen2] at HL
  have HT : Hid (Calls Tryz.prog 109 #[.pointer (some ⟨D, 0, none⟩), .int .i64 2] w fun x w' => Pan 110 x ∧ Below w.heap.size w w') := take_no 2 hs ha h hn
  clear h hn ha
  go_enter Tryz.func85, Tryz.ntmps85
  go_wp2_with fail
  refine HL.out.mono ?_
  rintro x w1 ⟨rfl, rfl⟩
  go_wp2_with fail
  refine HT.out.mono ?_
  rintro x w1 ⟨rfl, hb⟩
  go_wp2
  exact ⟨rfl, rfl, hb⟩

set_option maxHeartbeats 1000000 in
theorem number2_ok (hs : s.size ≤ 4611686018427387904) (h : Cur w D s at_ e) (hn : at_ + 2 ≤ s.size) : Calls Tryz.prog 85 #[.pointer (some ⟨D, 0, none⟩)] w fun x w' => x = .returned (.int .i64 (beA (bys s) at_ 2 : Int)) ∧ Cur w' D s (at_ + 2) e ∧ But D w w' := by
  have HL := hide (Tryz.bits_Len64 65535 w (by decide) (by decide))
  rw [blen2] at HL
  have HT : Hid (Calls Tryz.prog 109 #[.pointer (some ⟨D, 0, none⟩), .int .i64 2] w fun x w' => x = .returned (.string (s.extract at_ (at_ + 2))) ∧ Cur w' D s (at_ + 2) e ∧ But D w w') := take_ok 2 hs h hn
  obtain ⟨t, ht⟩ : ∃ t, t = s.extract at_ (at_ + 2) := ⟨_, rfl⟩
  rw [← ht] at HT
  have hts : t.size = 2 := by rw [ht, ByteArray.size_extract]; omega
  have HG : Hid (∀ i (h : i < t.size), t[i].toNat = byt (bys s) (at_ + i)) := by
    intro i hi
    subst ht
    rw [← byt_get s (at_ + i) (by omega)]
    simp [ByteArray.getElem_extract]
  have HLT : Hid (∀ i, i < 2 → beA (bys s) at_ i < 16777216) := fun i hi => Nat.lt_of_lt_of_le (beA_lt _ _ i) (by have : i = 0 ∨ i = 1 ∨ i = 2 ∨ i = 3 := (by omega); rcases this with rfl | rfl | rfl | rfl <;> decide)
  clear h hn ht
  go_enter Tryz.func85, Tryz.ntmps85
  go_wp2_with fail
  refine HL.out.mono ?_
  rintro x w1 ⟨rfl, rfl⟩
  go_wp2_with fail
  refine HT.out.mono ?_
  rintro x w2 ⟨rfl, hc, hb⟩
  have HC := hide hc
  have HB := hide hb
  clear hc hb HL HT
  go_wp2
  go_loopw [5, 16] (fun p q wr => ∃ i : Nat, i ≤ 2 ∧ p = .int .i64 (beA (bys s) at_ i : Int) ∧ q = .int .i64 (i : Int) ∧ wr = w2) (fun _ q _ => 2 - (intOf q).toNat)
  case atStart => exact ⟨0, Nat.zero_le _, rfl, rfl, rfl⟩
  case round =>
    obtain ⟨i, hi, rfl, rfl, hw⟩ := hrel
    subst hw
    by_cases hlt : i < 2
    · have hlt' : (i : Int) < 2 := by omega
      have hlt2 : i < t.size := by omega
      have hlt3 : (i : Int) < (t.size : Int) := by omega
      have hg : ∀ h : i < t.size, t[i].toNat = byt (bys s) (at_ + i) := fun h => HG.out i h
      have hb2 := byt_lt (bys s) (at_ + i)
      have hn2 := HLT.out i hlt
      obtain ⟨N, hN⟩ : ∃ N, N = beA (bys s) at_ i := ⟨_, rfl⟩
      obtain ⟨b, hbb⟩ : ∃ b, b = byt (bys s) (at_ + i) := ⟨_, rfl⟩
      have HE : Hid (((N * 256 + b : Nat) : Int) = (beA (bys s) at_ (i + 1) : Int)) := hide (by rw [hN, hbb, beA])
      rw [← hN] at hn2 ⊢
      rw [← hbb] at hg hb2
      have e2 := or_byte hb2 hn2
      clear hN hbb
      go_wp2
      exact ⟨⟨i + 1, by omega, by rw [← HE.out]; rfl, by go_num, trivial⟩, by simp [intOf]; omega⟩
    · have hlt' : ¬ (i : Int) < 2 := by omega
      obtain rfl : i = 2 := by omega
      go_wp2
      go_ret
      exact ⟨rfl, HC.out, HB.out⟩

theorem blen4 : ((Lib.bitLen (4294967295 : Int).toNat : Nat) : Int) = 32 := by decide

set_option maxHeartbeats 1000000 in
theorem number4_no (hs : s.size ≤ 4611686018427387904) (ha : at_ ≤ s.size) (h : Cur w D s at_ e) (hn : s.size < at_ + 4) : Calls Tryz.prog 122 #[.pointer (some ⟨D, 0, none⟩)] w fun x w' => Pan 110 x ∧ Below w.heap.size w w' := by
  have HL := hide (Tryz.bits_Len64 4294967295 w (by decide) (by decide))
  rw [blen4] at HL
  have HT : Hid (Calls Tryz.prog 109 #[.pointer (some ⟨D, 0, none⟩), .int .i64 4] w fun x w' => Pan 110 x ∧ Below w.heap.size w w') := take_no 4 hs ha h hn
  clear h hn ha
  go_enter Tryz.func122, Tryz.ntmps122
  go_wp2_with fail
  refine HL.out.mono ?_
  rintro x w1 ⟨rfl, rfl⟩
  go_wp2_with fail
  refine HT.out.mono ?_
  rintro x w1 ⟨rfl, hb⟩
  go_wp2
  exact ⟨rfl, rfl, hb⟩

set_option maxHeartbeats 1000000 in
theorem number4_ok (hs : s.size ≤ 4611686018427387904) (h : Cur w D s at_ e) (hn : at_ + 4 ≤ s.size) : Calls Tryz.prog 122 #[.pointer (some ⟨D, 0, none⟩)] w fun x w' => x = .returned (.int .i64 (beA (bys s) at_ 4 : Int)) ∧ Cur w' D s (at_ + 4) e ∧ But D w w' := by
  have HL := hide (Tryz.bits_Len64 4294967295 w (by decide) (by decide))
  rw [blen4] at HL
  have HT : Hid (Calls Tryz.prog 109 #[.pointer (some ⟨D, 0, none⟩), .int .i64 4] w fun x w' => x = .returned (.string (s.extract at_ (at_ + 4))) ∧ Cur w' D s (at_ + 4) e ∧ But D w w') := take_ok 4 hs h hn
  obtain ⟨t, ht⟩ : ∃ t, t = s.extract at_ (at_ + 4) := ⟨_, rfl⟩
  rw [← ht] at HT
  have hts : t.size = 4 := by rw [ht, ByteArray.size_extract]; omega
  have HG : Hid (∀ i (h : i < t.size), t[i].toNat = byt (bys s) (at_ + i)) := by
    intro i hi
    subst ht
    rw [← byt_get s (at_ + i) (by omega)]
    simp [ByteArray.getElem_extract]
  have HLT : Hid (∀ i, i < 4 → beA (bys s) at_ i < 16777216) := fun i hi => Nat.lt_of_lt_of_le (beA_lt _ _ i) (by have : i = 0 ∨ i = 1 ∨ i = 2 ∨ i = 3 := (by omega); rcases this with rfl | rfl | rfl | rfl <;> decide)
  clear h hn ht
  go_enter Tryz.func122, Tryz.ntmps122
  go_wp2_with fail
  refine HL.out.mono ?_
  rintro x w1 ⟨rfl, rfl⟩
  go_wp2_with fail
  refine HT.out.mono ?_
  rintro x w2 ⟨rfl, hc, hb⟩
  have HC := hide hc
  have HB := hide hb
  clear hc hb HL HT
  go_wp2
  go_loopw [5, 16] (fun p q wr => ∃ i : Nat, i ≤ 4 ∧ p = .int .i64 (beA (bys s) at_ i : Int) ∧ q = .int .i64 (i : Int) ∧ wr = w2) (fun _ q _ => 4 - (intOf q).toNat)
  case atStart => exact ⟨0, Nat.zero_le _, rfl, rfl, rfl⟩
  case round =>
    obtain ⟨i, hi, rfl, rfl, hw⟩ := hrel
    subst hw
    by_cases hlt : i < 4
    · have hlt' : (i : Int) < 4 := by omega
      have hlt2 : i < t.size := by omega
      have hlt3 : (i : Int) < (t.size : Int) := by omega
      have hg : ∀ h : i < t.size, t[i].toNat = byt (bys s) (at_ + i) := fun h => HG.out i h
      have hb2 := byt_lt (bys s) (at_ + i)
      have hn2 := HLT.out i hlt
      obtain ⟨N, hN⟩ : ∃ N, N = beA (bys s) at_ i := ⟨_, rfl⟩
      obtain ⟨b, hbb⟩ : ∃ b, b = byt (bys s) (at_ + i) := ⟨_, rfl⟩
      have HE : Hid (((N * 256 + b : Nat) : Int) = (beA (bys s) at_ (i + 1) : Int)) := hide (by rw [hN, hbb, beA])
      rw [← hN] at hn2 ⊢
      rw [← hbb] at hg hb2
      have e2 := or_byte hb2 hn2
      clear hN hbb
      go_wp2
      exact ⟨⟨i + 1, by omega, by rw [← HE.out]; rfl, by go_num, trivial⟩, by simp [intOf]; omega⟩
    · have hlt' : ¬ (i : Int) < 4 := by omega
      obtain rfl : i = 4 := by omega
      go_wp2
      go_ret
      exact ⟨rfl, HC.out, HB.out⟩

end

end Go.Proofs.YtobmdifledegbaaGreatDoor

namespace Go.Proofs.YtobmdifledegbaaGreatDoor
open Go.RowKit

theorem assertErrno (v : Value) (xT : TypeId) (w : World) : (Instr.typeAssert (.iface 26 v) xT 26 false).run Tryz.prog w = .ok v w := by kernel_rfl

section
variable {w : World} {D : Nat} {s : ByteArray} {at_ e : Nat}

set_option maxHeartbeats 2000000 in
theorem catch_att (b c k f : Nat) (older : List PanicEntry) (h : Cur w D s at_ 0) (hb : w.cell? ⟨b, 0, none⟩ = some (.int .i64 (k : Int))) (hc : w.cell? ⟨c, 0, none⟩ = some (.pointer (some ⟨D, 0, none⟩))) :
    CallsD Tryz.prog 108 #[.pointer (some ⟨b, 0, none⟩), .pointer (some ⟨c, 0, none⟩)] (.panicking ({ v := .iface 26 (.int .i64 (f : Int)), recovered := false } :: older)) w fun x u' w' =>
      x = .returned (.tuple #[]) ∧ u' = .panicking ({ v := .iface 26 (.int .i64 (f : Int)), recovered := true } :: older) ∧ Cur w' D s k f ∧ But D w w' := by
  refine callsD_of_wpS Tryz.func108 rfl fun c₀ cs hu => ?_
  have hfr : (#[Value.pointer (some ⟨b, 0, none⟩), Value.pointer (some ⟨c, 0, none⟩)] ++ Array.replicate (Tryz.f108.ntmps - (#[Value.pointer (some ⟨b, 0, none⟩), Value.pointer (some ⟨c, 0, none⟩)] : Array Value).size) undef) = #[Value.pointer (some ⟨b, 0, none⟩), Value.pointer (some ⟨c, 0, none⟩), undef, undef, undef, undef, undef, undef, undef, undef, undef, undef, undef, undef, undef] := by rw [Tryz.ntmps108]; rfl
  rw [hfr]
  clear hfr
  have c1 := Blk.cell h 1
  have f1 := Blk.free h 1
  have c2 := Blk.cell h 2
  have f2 := Blk.free h 2
  apply wpS_seq
  apply wpS_region
  simp [wpOpsS, go_sem, recoverD, hu, Exit.thenS]
  have HC := hide h
  have hta := assertErrno
  clear h
  refine wpS_of_wp ?_
  go_wp2_with fail
  go_region
  have h9 : Cur ((w.setCell ⟨D, 1, none⟩ (.int .i64 (k : Int))).setCell ⟨D, 2, none⟩ (.int .i64 (f : Int))) D s k f := Blk.set2of3 (Blk.set1of3 HC.out _) _
  exact ⟨rfl, _, rfl, .tuple #[], by simp [results, Tryz.results108, go_sem], rfl, rfl, h9.below ((Below.refl _ _).drew), (((But.refl D w).set 1 _).set 2 _).trans (But.of_below (Below.refl _ _).drew)⟩

theorem idle_att (b c : Nat) (w : World) :
    CallsD Tryz.prog 108 #[.pointer (some ⟨b, 0, none⟩), .pointer (some ⟨c, 0, none⟩)] .returning w fun x u' w' => x = .returned (.tuple #[]) ∧ u' = .returning ∧ w' = w := by
  refine callsD_of_wpS Tryz.func108 rfl fun c₀ cs hu => ?_
  apply wpS_seq
  apply wpS_region
  simp [wpOpsS, go_sem, recoverD, hu, Tryz.ntmps108, Exit.thenS]
  refine wpS_of_wp ?_
  go_wp2
  cases c₀
  simp_all [bodyPostS, results, Tryz.results108]

set_option maxHeartbeats 1000000 in
theorem attempt_idle (fv : Value) (h : Cur w D s at_ e) (he : e ≠ 0) : Calls Tryz.prog 83 #[.pointer (some ⟨D, 0, none⟩), fv] w fun x w' => x = .returned (.tuple #[]) ∧ Below w.heap.size w w' := by
  have h0' : ¬ (e : Int) = 0 := by omega
  have HC := hide (h.below ((Below.refl _ _).alloc (Nat.le_refl _) (.cells #[.pointer (some ⟨D, 0, none⟩)] 72)))
  have c2 := Blk.cell HC.out 2
  clear h
  go_enter_defers Tryz.func83, Tryz.ntmps83
  go_wp2
  simp [bodyPostD, Leaves, results, Tryz.results83, go_sem]
  exact (Below.refl _ _).alloc (Nat.le_refl _) _

set_option maxHeartbeats 1000000 in
theorem attempt_ok (fno : FuncId) (caps : Array Value) (Q : World → World → Prop) (h : Cur w D s at_ 0) (hent : ∀ args w, (callFunc fno args).run Tryz.prog w = .ok (.enter fno args) w)
    (HT : ∀ X, Below w.heap.size w X → Calls Tryz.prog fno caps X fun x X' => x = .returned (.tuple #[]) ∧ Q X X') :
    Calls Tryz.prog 83 #[.pointer (some ⟨D, 0, none⟩), .func (.func fno) #[] caps] w fun x w' => x = .returned (.tuple #[]) ∧ ∃ X, Below w.heap.size w X ∧ Q X w' := by
  have hmf : ∀ (fn : Fn) (first cap : Array Value) (w : World), (Instr.makeFunc fn first cap).run Tryz.prog w = .ok (.func fn first cap) w := fun _ _ _ _ => rfl
  have HB1 : Hid (Below w.heap.size w (w.alloc (.cells #[.pointer (some ⟨D, 0, none⟩)] 72))) := (Below.refl _ _).alloc (Nat.le_refl _) _
  have HC := hide (h.below HB1.out)
  have c1 := Blk.cell HC.out 1
  have c2 := Blk.cell HC.out 2
  have HTT := hide HT
  clear h HT
  go_enter_defers Tryz.func83, Tryz.ntmps83
  go_wp2_with fail
  refine (HTT.out _ (HB1.out.alloc HB1.out.size _)).mono ?_
  rintro x w1 ⟨rfl, hq⟩
  have HQ := hide hq
  clear hq
  go_wp2
  refine leaves_cons (f := 108) (args := #[.pointer (some ⟨w.heap.size + 1, 0, none⟩), .pointer (some ⟨w.heap.size, 0, none⟩)]) (by simp) (by simp [go_sem]) ?_
  refine (idle_att _ _ _).mono ?_
  rintro x u' w'' ⟨rfl, rfl, rfl⟩
  simp [Leaves, settle, results, Tryz.results83, go_sem]
  exact ⟨_, HB1.out.alloc HB1.out.size _, HQ.out⟩

set_option maxHeartbeats 1000000 in
theorem attempt_no (fno : FuncId) (caps : Array Value) (f : Nat) (h : Cur w D s at_ 0) (hent : ∀ args w, (callFunc fno args).run Tryz.prog w = .ok (.enter fno args) w)
    (HT : ∀ X, Below w.heap.size w X → Calls Tryz.prog fno caps X fun x X' => Pan f x ∧ (∃ k, Cur X' D s k 0) ∧ But D X X') :
    Calls Tryz.prog 83 #[.pointer (some ⟨D, 0, none⟩), .func (.func fno) #[] caps] w fun x w' => x = .returned (.tuple #[]) ∧ Cur w' D s at_ f ∧ But D w w' := by
  have hmf : ∀ (fn : Fn) (first cap : Array Value) (w : World), (Instr.makeFunc fn first cap).run Tryz.prog w = .ok (.func fn first cap) w := fun _ _ _ _ => rfl
  have HB1 : Hid (Below w.heap.size w (w.alloc (.cells #[.pointer (some ⟨D, 0, none⟩)] 72))) := (Below.refl _ _).alloc (Nat.le_refl _) _
  have HC := hide (h.below HB1.out)
  have c1 := Blk.cell HC.out 1
  have c2 := Blk.cell HC.out 2
  have HTT := hide HT
  have hDl := h.lt
  have HK1 : Hid (Blk ((w.alloc (.cells #[.pointer (some ⟨D, 0, none⟩)] 72)).alloc (.cells #[.int .i64 (at_ : Int)] 3)) w.heap.size #[.pointer (some ⟨D, 0, none⟩)] 72) := (Blk.new _ _ _).alloc _
  have HK2 : Hid (Blk ((w.alloc (.cells #[.pointer (some ⟨D, 0, none⟩)] 72)).alloc (.cells #[.int .i64 (at_ : Int)] 3)) (w.heap.size + 1) #[.int .i64 (at_ : Int)] 3) := Blk.newAt _ _ (by simp) _ _
  clear h HT
  go_enter_defers Tryz.func83, Tryz.ntmps83
  go_wp2_with fail
  refine (HTT.out _ (HB1.out.alloc HB1.out.size _)).mono ?_
  rintro x w1 ⟨rfl, ⟨k, hk⟩, hb⟩
  have q1 := (hb.blk HK1.out (by omega)).cell 0
  have q2 := (hb.blk HK2.out (by omega)).cell 0
  have HB2 := hide ((But.of_below (HB1.out.alloc HB1.out.size (.cells #[.int .i64 (at_ : Int)] 3))).trans hb)
  have HKK := hide hk
  have HQ1 := hide q1
  have HQ2 := hide q2
  clear hk hb q1 q2
  go_wp2
  refine leaves_cons (f := 108) (args := #[.pointer (some ⟨w.heap.size + 1, 0, none⟩), .pointer (some ⟨w.heap.size, 0, none⟩)]) (by simp) (by simp [go_sem]) ?_
  refine (catch_att _ _ at_ f [] HKK.out HQ2.out HQ1.out).mono ?_
  rintro x u' w'' ⟨rfl, rfl, hc, hb⟩
  simp [Leaves, settle, results, Tryz.results83, go_sem]
  exact ⟨hc, HB2.out.trans hb⟩

end

end Go.Proofs.YtobmdifledegbaaGreatDoor

namespace Go.Proofs.YtobmdifledegbaaGreatDoor
open Go.RowKit Go.Shelf

theorem But.setNew {D g i : Nat} {a b : World} (h : But D a b) (hg : a.heap.size ≤ g) (v : Value) : But D a (b.setCell ⟨g, i, none⟩ v) := by
  refine ⟨h.os, h.tape, h.output, by simpa [World.setCell] using h.size, fun k hk hn => ?_⟩
  rw [← h.block k hk hn]
  have : g ≠ k := by omega
  simp [World.setCell, Array.getElem?_modify, this]

theorem Blk.one {w : World} {b : Nat} {x : Value} {t : TypeId} (h : Blk w b #[x] t) (v : Value) : Blk (w.setCell ⟨b, 0, none⟩ v) b #[v] t := by
  unfold Blk at *
  simp only [World.setCell, Array.getElem?_modify, if_true, h, Option.map_some]
  rfl

def getV (s : ByteArray) (at_ e k : Nat) : Nat := if e = 0 ∧ at_ + k ≤ s.size then beA (bys s) at_ k else 0
def getA (s : ByteArray) (at_ e k : Nat) : Nat := if e = 0 ∧ at_ + k ≤ s.size then at_ + k else at_
def getE (s : ByteArray) (at_ e k : Nat) : Nat := if e = 0 then (if at_ + k ≤ s.size then 0 else 110) else e

section
variable {w : World} {D : Nat} {s : ByteArray} {at_ e : Nat}

set_option maxHeartbeats 1000000 in
theorem clo1_ok {X : World} (a b : Nat) (hs : s.size ≤ 4611686018427387904) (h : Cur X D s at_ 0) (hn : at_ + 1 ≤ s.size) (ha : Blk X a #[.pointer (some ⟨D, 0, none⟩)] 72) (hb : Blk X b #[.int .i64 0] 3) (hbD : b ≠ D) (hw : But D w X) (hwb : w.heap.size ≤ b) :
    Calls Tryz.prog 87 #[.pointer (some ⟨a, 0, none⟩), .pointer (some ⟨b, 0, none⟩)] X fun x X' => x = .returned (.tuple #[]) ∧ Cur X' D s (at_ + 1) 0 ∧ Blk X' b #[.int .i64 (beA (bys s) at_ 1 : Int)] 3 ∧ But D w X' := by
  have HN := hide (number1_ok hs h hn)
  have ca := ha.cell 0
  have HBB := hide hb
  have HW := hide hw
  clear h ha hb hw hn
  go_enter Tryz.func87, Tryz.ntmps87
  go_wp2_with fail
  refine HN.out.mono ?_
  rintro x w1 ⟨rfl, hc, ht⟩
  have q := ht.blk HBB.out hbD
  have q0 := q.cell 0
  have f0 := q.free 0
  have Q1 := hide (q.one (.int .i64 (beA (bys s) at_ 1 : Int)))
  have HC := hide hc
  have HT := hide ht
  clear hc ht q
  go_wp2
  simp [bodyPost, results, Tryz.results87, go_sem]
  exact ⟨Blk.other HC.out (a := ⟨b, 0, none⟩) hbD _, Q1.out, (HW.out.trans HT.out).setNew hwb _⟩

set_option maxHeartbeats 1000000 in
theorem clo1_no {X : World} (a b : Nat) (hs : s.size ≤ 4611686018427387904) (h : Cur X D s at_ 0) (ha' : at_ ≤ s.size) (hn : s.size < at_ + 1) (ha : Blk X a #[.pointer (some ⟨D, 0, none⟩)] 72) :
    Calls Tryz.prog 87 #[.pointer (some ⟨a, 0, none⟩), .pointer (some ⟨b, 0, none⟩)] X fun x X' => Pan 110 x ∧ (∃ k, Cur X' D s k 0) ∧ But D X X' := by
  have HN := hide (number1_no hs ha' h hn)
  have ca := ha.cell 0
  have HC := hide h
  clear h ha hn ha'
  go_enter Tryz.func87, Tryz.ntmps87
  go_wp2_with fail
  refine HN.out.mono ?_
  rintro x w1 ⟨rfl, hb⟩
  have HB := hide hb
  clear hb
  go_wp2
  exact ⟨rfl, rfl, ⟨at_, HC.out.below HB.out⟩, But.of_below HB.out⟩

set_option maxHeartbeats 1000000 in
theorem Get8_any (hs : s.size ≤ 4611686018427387904) (ha : at_ ≤ s.size) (h : Cur w D s at_ e) : Calls Tryz.prog 65 #[.pointer (some ⟨D, 0, none⟩)] w fun x w' => x = .returned (.int .i64 (getV s at_ e 1 : Int)) ∧ Cur w' D s (getA s at_ e 1) (getE s at_ e 1) ∧ But D w w' := by
  have hmf : ∀ (fn : Fn) (first cap : Array Value) (w : World), (Instr.makeFunc fn first cap).run Tryz.prog w = .ok (.func fn first cap) w := fun _ _ _ _ => rfl
  have hDl := h.lt
  have HB2 : Hid (Below w.heap.size w ((w.alloc (.cells #[.pointer (some ⟨D, 0, none⟩)] 72)).alloc (.cells #[.int .i64 0] 3))) := ((Below.refl _ _).alloc (Nat.le_refl _) _).alloc ((Below.refl _ _).alloc (Nat.le_refl _) _).size _
  have HC := hide (h.below HB2.out)
  have K1 : Hid (Blk ((w.alloc (.cells #[.pointer (some ⟨D, 0, none⟩)] 72)).alloc (.cells #[.int .i64 0] 3)) w.heap.size #[.pointer (some ⟨D, 0, none⟩)] 72) := (Blk.new _ _ _).alloc _
  have K2 : Hid (Blk ((w.alloc (.cells #[.pointer (some ⟨D, 0, none⟩)] 72)).alloc (.cells #[.int .i64 0] 3)) (w.heap.size + 1) #[.int .i64 0] 3) := Blk.newAt _ _ (by simp) _ _
  have hz1 : w.heap.size < ((w.alloc (.cells #[.pointer (some ⟨D, 0, none⟩)] 72)).alloc (.cells #[.int .i64 0] 3)).heap.size := K1.out.lt
  have hz2 : w.heap.size + 1 < ((w.alloc (.cells #[.pointer (some ⟨D, 0, none⟩)] 72)).alloc (.cells #[.int .i64 0] 3)).heap.size := K2.out.lt
  have hent : ∀ args w, (callFunc 87 args).run Tryz.prog w = .ok (.enter 87 args) w := enters_of Tryz.func87 (by kernel_rfl) rfl
  clear h
  by_cases h0 : e = 0
  · subst h0
    by_cases hn : at_ + 1 ≤ s.size
    · have e1 : getV s at_ 0 1 = beA (bys s) at_ 1 := by unfold getV; rw [if_pos ⟨rfl, hn⟩]
      have e2 : getA s at_ 0 1 = at_ + 1 := by unfold getA; rw [if_pos ⟨rfl, hn⟩]
      have e3 : getE s at_ 0 1 = 0 := by unfold getE; rw [if_pos rfl, if_pos hn]
      rw [e1, e2, e3]
      have HA := hide (attempt_ok 87 #[.pointer (some ⟨w.heap.size, 0, none⟩), .pointer (some ⟨w.heap.size + 1, 0, none⟩)] (fun _ X' => Cur X' D s (at_ + 1) 0 ∧ Blk X' (w.heap.size + 1) #[.int .i64 (beA (bys s) at_ 1 : Int)] 3 ∧ But D w X') HC.out hent
        (fun X hX => clo1_ok w.heap.size (w.heap.size + 1) hs (HC.out.below hX) hn (K1.out.below hX hz1) (K2.out.below hX hz2) (by omega) ((But.of_below HB2.out).trans (But.of_below hX)) (by omega)))
      clear e1 e2 e3 hent HC K1 K2
      go_enter Tryz.func65, Tryz.ntmps65
      go_wp2_with fail
      refine HA.out.mono ?_
      rintro x w1 ⟨rfl, X, hX, hc, hq, hb⟩
      have q0 := hq.cell 0
      have f0 := hq.free 0
      have Q1 := hide (hq.one (.int .i64 (beA (bys s) at_ 1 : Int)))
      have r0 := Q1.out.cell 0
      have HCC := hide hc
      have HBB := hide hb
      clear hc hq hb hX HA
      go_wp2
      simp [bodyPost, results, Tryz.results65, go_sem, r0]
      exact ⟨Blk.other HCC.out (a := ⟨w.heap.size + 1, 0, none⟩) (by show w.heap.size + 1 ≠ D; omega) _, HBB.out.setNew (by omega) _⟩
    · have e1 : getV s at_ 0 1 = 0 := by unfold getV; rw [if_neg (by omega)]
      have e2 : getA s at_ 0 1 = at_ := by unfold getA; rw [if_neg (by omega)]
      have e3 : getE s at_ 0 1 = 110 := by unfold getE; rw [if_pos rfl, if_neg hn]
      rw [e1, e2, e3]
      have HA := hide (attempt_no 87 #[.pointer (some ⟨w.heap.size, 0, none⟩), .pointer (some ⟨w.heap.size + 1, 0, none⟩)] 110 HC.out hent
        (fun X hX => clo1_no w.heap.size (w.heap.size + 1) hs (HC.out.below hX) ha (by omega) (K1.out.below hX hz1)))
      clear e1 e2 e3 hent HC K1
      go_enter Tryz.func65, Tryz.ntmps65
      go_wp2_with fail
      refine HA.out.mono ?_
      rintro x w1 ⟨rfl, hc, hb⟩
      have hq := hb.blk K2.out (by omega)
      have q0 := hq.cell 0
      have f0 := hq.free 0
      have Q1 := hide (hq.one (.int .i64 0))
      have r0 := Q1.out.cell 0
      have HCC := hide hc
      have HBB := hide ((But.of_below HB2.out).trans hb)
      clear hc hq hb HA K2
      go_wp2
      simp [bodyPost, results, Tryz.results65, go_sem, r0]
      exact ⟨Blk.other HCC.out (a := ⟨w.heap.size + 1, 0, none⟩) (by show w.heap.size + 1 ≠ D; omega) _, HBB.out.setNew (by omega) _⟩
  · have e1 : getV s at_ e 1 = 0 := by unfold getV; rw [if_neg (by omega)]
    have e2 : getA s at_ e 1 = at_ := by unfold getA; rw [if_neg (by omega)]
    have e3 : getE s at_ e 1 = e := by unfold getE; rw [if_neg h0]
    rw [e1, e2, e3]
    have HA := hide (attempt_idle (.func (.func 87) #[] #[.pointer (some ⟨w.heap.size, 0, none⟩), .pointer (some ⟨w.heap.size + 1, 0, none⟩)]) HC.out h0)
    clear e1 e2 e3 hent K1
    go_enter Tryz.func65, Tryz.ntmps65
    go_wp2_with fail
    refine HA.out.mono ?_
    rintro x w1 ⟨rfl, hb⟩
    have hq := K2.out.below hb hz2
    have q0 := hq.cell 0
    have f0 := hq.free 0
    have Q1 := hide (hq.one (.int .i64 0))
    have r0 := Q1.out.cell 0
    have HCC := hide (HC.out.below hb)
    have HBB := hide ((But.of_below (D := D) HB2.out).trans (But.of_below hb))
    clear hq hb HA K2 HC
    go_wp2
    simp [bodyPost, results, Tryz.results65, go_sem, r0]
    exact ⟨Blk.other HCC.out (a := ⟨w.heap.size + 1, 0, none⟩) (by show w.heap.size + 1 ≠ D; omega) _, HBB.out.setNew (by omega) _⟩

set_option maxHeartbeats 1000000 in
theorem clo2_ok {X : World} (a b : Nat) (hs : s.size ≤ 4611686018427387904) (h : Cur X D s at_ 0) (hn : at_ + 2 ≤ s.size) (ha : Blk X a #[.pointer (some ⟨D, 0, none⟩)] 72) (hb : Blk X b #[.int .i64 0] 3) (hbD : b ≠ D) (hw : But D w X) (hwb : w.heap.size ≤ b) :
    Calls Tryz.prog 84 #[.pointer (some ⟨a, 0, none⟩), .pointer (some ⟨b, 0, none⟩)] X fun x X' => x = .returned (.tuple #[]) ∧ Cur X' D s (at_ + 2) 0 ∧ Blk X' b #[.int .i64 (beA (bys s) at_ 2 : Int)] 3 ∧ But D w X' := by
  have HN := hide (number2_ok hs h hn)
  have ca := ha.cell 0
  have HBB := hide hb
  have HW := hide hw
  clear h ha hb hw hn
  go_enter Tryz.func84, Tryz.ntmps84
  go_wp2_with fail
  refine HN.out.mono ?_
  rintro x w1 ⟨rfl, hc, ht⟩
  have q := ht.blk HBB.out hbD
  have q0 := q.cell 0
  have f0 := q.free 0
  have Q1 := hide (q.one (.int .i64 (beA (bys s) at_ 2 : Int)))
  have HC := hide hc
  have HT := hide ht
  clear hc ht q
  go_wp2
  simp [bodyPost, results, Tryz.results84, go_sem]
  exact ⟨Blk.other HC.out (a := ⟨b, 0, none⟩) hbD _, Q1.out, (HW.out.trans HT.out).setNew hwb _⟩

set_option maxHeartbeats 1000000 in
theorem clo2_no {X : World} (a b : Nat) (hs : s.size ≤ 4611686018427387904) (h : Cur X D s at_ 0) (ha' : at_ ≤ s.size) (hn : s.size < at_ + 2) (ha : Blk X a #[.pointer (some ⟨D, 0, none⟩)] 72) :
    Calls Tryz.prog 84 #[.pointer (some ⟨a, 0, none⟩), .pointer (some ⟨b, 0, none⟩)] X fun x X' => Pan 110 x ∧ (∃ k, Cur X' D s k 0) ∧ But D X X' := by
  have HN := hide (number2_no hs ha' h hn)
  have ca := ha.cell 0
  have HC := hide h
  clear h ha hn ha'
  go_enter Tryz.func84, Tryz.ntmps84
  go_wp2_with fail
  refine HN.out.mono ?_
  rintro x w1 ⟨rfl, hb⟩
  have HB := hide hb
  clear hb
  go_wp2
  exact ⟨rfl, rfl, ⟨at_, HC.out.below HB.out⟩, But.of_below HB.out⟩

set_option maxHeartbeats 1000000 in
theorem Get16_any (hs : s.size ≤ 4611686018427387904) (ha : at_ ≤ s.size) (h : Cur w D s at_ e) : Calls Tryz.prog 62 #[.pointer (some ⟨D, 0, none⟩)] w fun x w' => x = .returned (.int .i64 (getV s at_ e 2 : Int)) ∧ Cur w' D s (getA s at_ e 2) (getE s at_ e 2) ∧ But D w w' := by
  have hmf : ∀ (fn : Fn) (first cap : Array Value) (w : World), (Instr.makeFunc fn first cap).run Tryz.prog w = .ok (.func fn first cap) w := fun _ _ _ _ => rfl
  have hDl := h.lt
  have HB2 : Hid (Below w.heap.size w ((w.alloc (.cells #[.pointer (some ⟨D, 0, none⟩)] 72)).alloc (.cells #[.int .i64 0] 3))) := ((Below.refl _ _).alloc (Nat.le_refl _) _).alloc ((Below.refl _ _).alloc (Nat.le_refl _) _).size _
  have HC := hide (h.below HB2.out)
  have K1 : Hid (Blk ((w.alloc (.cells #[.pointer (some ⟨D, 0, none⟩)] 72)).alloc (.cells #[.int .i64 0] 3)) w.heap.size #[.pointer (some ⟨D, 0, none⟩)] 72) := (Blk.new _ _ _).alloc _
  have K2 : Hid (Blk ((w.alloc (.cells #[.pointer (some ⟨D, 0, none⟩)] 72)).alloc (.cells #[.int .i64 0] 3)) (w.heap.size + 1) #[.int .i64 0] 3) := Blk.newAt _ _ (by simp) _ _
  have hz1 : w.heap.size < ((w.alloc (.cells #[.pointer (some ⟨D, 0, none⟩)] 72)).alloc (.cells #[.int .i64 0] 3)).heap.size := K1.out.lt
  have hz2 : w.heap.size + 1 < ((w.alloc (.cells #[.pointer (some ⟨D, 0, none⟩)] 72)).alloc (.cells #[.int .i64 0] 3)).heap.size := K2.out.lt
  have hent : ∀ args w, (callFunc 84 args).run Tryz.prog w = .ok (.enter 84 args) w := enters_of Tryz.func84 (by kernel_rfl) rfl
  clear h
  by_cases h0 : e = 0
  · subst h0
    by_cases hn : at_ + 2 ≤ s.size
    · have e1 : getV s at_ 0 2 = beA (bys s) at_ 2 := by unfold getV; rw [if_pos ⟨rfl, hn⟩]
      have e2 : getA s at_ 0 2 = at_ + 2 := by unfold getA; rw [if_pos ⟨rfl, hn⟩]
      have e3 : getE s at_ 0 2 = 0 := by unfold getE; rw [if_pos rfl, if_pos hn]
      rw [e1, e2, e3]
      have HA := hide (attempt_ok 84 #[.pointer (some ⟨w.heap.size, 0, none⟩), .pointer (some ⟨w.heap.size + 1, 0, none⟩)] (fun _ X' => Cur X' D s (at_ + 2) 0 ∧ Blk X' (w.heap.size + 1) #[.int .i64 (beA (bys s) at_ 2 : Int)] 3 ∧ But D w X') HC.out hent
        (fun X hX => clo2_ok w.heap.size (w.heap.size + 1) hs (HC.out.below hX) hn (K1.out.below hX hz1) (K2.out.below hX hz2) (by omega) ((But.of_below HB2.out).trans (But.of_below hX)) (by omega)))
      clear e1 e2 e3 hent HC K1 K2
      go_enter Tryz.func62, Tryz.ntmps62
      go_wp2_with fail
      refine HA.out.mono ?_
      rintro x w1 ⟨rfl, X, hX, hc, hq, hb⟩
      have q0 := hq.cell 0
      have f0 := hq.free 0
      have Q1 := hide (hq.one (.int .i64 (beA (bys s) at_ 2 : Int)))
      have r0 := Q1.out.cell 0
      have HCC := hide hc
      have HBB := hide hb
      clear hc hq hb hX HA
      go_wp2
      simp [bodyPost, results, Tryz.results62, go_sem, r0]
      exact ⟨Blk.other HCC.out (a := ⟨w.heap.size + 1, 0, none⟩) (by show w.heap.size + 1 ≠ D; omega) _, HBB.out.setNew (by omega) _⟩
    · have e1 : getV s at_ 0 2 = 0 := by unfold getV; rw [if_neg (by omega)]
      have e2 : getA s at_ 0 2 = at_ := by unfold getA; rw [if_neg (by omega)]
      have e3 : getE s at_ 0 2 = 110 := by unfold getE; rw [if_pos rfl, if_neg hn]
      rw [e1, e2, e3]
      have HA := hide (attempt_no 84 #[.pointer (some ⟨w.heap.size, 0, none⟩), .pointer (some ⟨w.heap.size + 1, 0, none⟩)] 110 HC.out hent
        (fun X hX => clo2_no w.heap.size (w.heap.size + 1) hs (HC.out.below hX) ha (by omega) (K1.out.below hX hz1)))
      clear e1 e2 e3 hent HC K1
      go_enter Tryz.func62, Tryz.ntmps62
      go_wp2_with fail
      refine HA.out.mono ?_
      rintro x w1 ⟨rfl, hc, hb⟩
      have hq := hb.blk K2.out (by omega)
      have q0 := hq.cell 0
      have f0 := hq.free 0
      have Q1 := hide (hq.one (.int .i64 0))
      have r0 := Q1.out.cell 0
      have HCC := hide hc
      have HBB := hide ((But.of_below HB2.out).trans hb)
      clear hc hq hb HA K2
      go_wp2
      simp [bodyPost, results, Tryz.results62, go_sem, r0]
      exact ⟨Blk.other HCC.out (a := ⟨w.heap.size + 1, 0, none⟩) (by show w.heap.size + 1 ≠ D; omega) _, HBB.out.setNew (by omega) _⟩
  · have e1 : getV s at_ e 2 = 0 := by unfold getV; rw [if_neg (by omega)]
    have e2 : getA s at_ e 2 = at_ := by unfold getA; rw [if_neg (by omega)]
    have e3 : getE s at_ e 2 = e := by unfold getE; rw [if_neg h0]
    rw [e1, e2, e3]
    have HA := hide (attempt_idle (.func (.func 84) #[] #[.pointer (some ⟨w.heap.size, 0, none⟩), .pointer (some ⟨w.heap.size + 1, 0, none⟩)]) HC.out h0)
    clear e1 e2 e3 hent K1
    go_enter Tryz.func62, Tryz.ntmps62
    go_wp2_with fail
    refine HA.out.mono ?_
    rintro x w1 ⟨rfl, hb⟩
    have hq := K2.out.below hb hz2
    have q0 := hq.cell 0
    have f0 := hq.free 0
    have Q1 := hide (hq.one (.int .i64 0))
    have r0 := Q1.out.cell 0
    have HCC := hide (HC.out.below hb)
    have HBB := hide ((But.of_below (D := D) HB2.out).trans (But.of_below hb))
    clear hq hb HA K2 HC
    go_wp2
    simp [bodyPost, results, Tryz.results62, go_sem, r0]
    exact ⟨Blk.other HCC.out (a := ⟨w.heap.size + 1, 0, none⟩) (by show w.heap.size + 1 ≠ D; omega) _, HBB.out.setNew (by omega) _⟩

set_option maxHeartbeats 1000000 in
theorem clo4_ok {X : World} (a b : Nat) (hs : s.size ≤ 4611686018427387904) (h : Cur X D s at_ 0) (hn : at_ + 4 ≤ s.size) (ha : Blk X a #[.pointer (some ⟨D, 0, none⟩)] 72) (hb : Blk X b #[.int .i64 0] 3) (hbD : b ≠ D) (hw : But D w X) (hwb : w.heap.size ≤ b) :
    Calls Tryz.prog 121 #[.pointer (some ⟨a, 0, none⟩), .pointer (some ⟨b, 0, none⟩)] X fun x X' => x = .returned (.tuple #[]) ∧ Cur X' D s (at_ + 4) 0 ∧ Blk X' b #[.int .i64 (beA (bys s) at_ 4 : Int)] 3 ∧ But D w X' := by
  have HN := hide (number4_ok hs h hn)
  have ca := ha.cell 0
  have HBB := hide hb
  have HW := hide hw
  clear h ha hb hw hn
  go_enter Tryz.func121, Tryz.ntmps121
  go_wp2_with fail
  refine HN.out.mono ?_
  rintro x w1 ⟨rfl, hc, ht⟩
  have q := ht.blk HBB.out hbD
  have q0 := q.cell 0
  have f0 := q.free 0
  have Q1 := hide (q.one (.int .i64 (beA (bys s) at_ 4 : Int)))
  have HC := hide hc
  have HT := hide ht
  clear hc ht q
  go_wp2
  simp [bodyPost, results, Tryz.results121, go_sem]
  exact ⟨Blk.other HC.out (a := ⟨b, 0, none⟩) hbD _, Q1.out, (HW.out.trans HT.out).setNew hwb _⟩

set_option maxHeartbeats 1000000 in
theorem clo4_no {X : World} (a b : Nat) (hs : s.size ≤ 4611686018427387904) (h : Cur X D s at_ 0) (ha' : at_ ≤ s.size) (hn : s.size < at_ + 4) (ha : Blk X a #[.pointer (some ⟨D, 0, none⟩)] 72) :
    Calls Tryz.prog 121 #[.pointer (some ⟨a, 0, none⟩), .pointer (some ⟨b, 0, none⟩)] X fun x X' => Pan 110 x ∧ (∃ k, Cur X' D s k 0) ∧ But D X X' := by
  have HN := hide (number4_no hs ha' h hn)
  have ca := ha.cell 0
  have HC := hide h
  clear h ha hn ha'
  go_enter Tryz.func121, Tryz.ntmps121
  go_wp2_with fail
  refine HN.out.mono ?_
  rintro x w1 ⟨rfl, hb⟩
  have HB := hide hb
  clear hb
  go_wp2
  exact ⟨rfl, rfl, ⟨at_, HC.out.below HB.out⟩, But.of_below HB.out⟩

set_option maxHeartbeats 1000000 in
theorem Get32_any (hs : s.size ≤ 4611686018427387904) (ha : at_ ≤ s.size) (h : Cur w D s at_ e) : Calls Tryz.prog 112 #[.pointer (some ⟨D, 0, none⟩)] w fun x w' => x = .returned (.int .i64 (getV s at_ e 4 : Int)) ∧ Cur w' D s (getA s at_ e 4) (getE s at_ e 4) ∧ But D w w' := by
  have hmf : ∀ (fn : Fn) (first cap : Array Value) (w : World), (Instr.makeFunc fn first cap).run Tryz.prog w = .ok (.func fn first cap) w := fun _ _ _ _ => rfl
  have hDl := h.lt
  have HB2 : Hid (Below w.heap.size w ((w.alloc (.cells #[.pointer (some ⟨D, 0, none⟩)] 72)).alloc (.cells #[.int .i64 0] 3))) := ((Below.refl _ _).alloc (Nat.le_refl _) _).alloc ((Below.refl _ _).alloc (Nat.le_refl _) _).size _
  have HC := hide (h.below HB2.out)
  have K1 : Hid (Blk ((w.alloc (.cells #[.pointer (some ⟨D, 0, none⟩)] 72)).alloc (.cells #[.int .i64 0] 3)) w.heap.size #[.pointer (some ⟨D, 0, none⟩)] 72) := (Blk.new _ _ _).alloc _
  have K2 : Hid (Blk ((w.alloc (.cells #[.pointer (some ⟨D, 0, none⟩)] 72)).alloc (.cells #[.int .i64 0] 3)) (w.heap.size + 1) #[.int .i64 0] 3) := Blk.newAt _ _ (by simp) _ _
  have hz1 : w.heap.size < ((w.alloc (.cells #[.pointer (some ⟨D, 0, none⟩)] 72)).alloc (.cells #[.int .i64 0] 3)).heap.size := K1.out.lt
  have hz2 : w.heap.size + 1 < ((w.alloc (.cells #[.pointer (some ⟨D, 0, none⟩)] 72)).alloc (.cells #[.int .i64 0] 3)).heap.size := K2.out.lt
  have hent : ∀ args w, (callFunc 121 args).run Tryz.prog w = .ok (.enter 121 args) w := enters_of Tryz.func121 (by kernel_rfl) rfl
  clear h
  by_cases h0 : e = 0
  · subst h0
    by_cases hn : at_ + 4 ≤ s.size
    · have e1 : getV s at_ 0 4 = beA (bys s) at_ 4 := by unfold getV; rw [if_pos ⟨rfl, hn⟩]
      have e2 : getA s at_ 0 4 = at_ + 4 := by unfold getA; rw [if_pos ⟨rfl, hn⟩]
      have e3 : getE s at_ 0 4 = 0 := by unfold getE; rw [if_pos rfl, if_pos hn]
      rw [e1, e2, e3]
      have HA := hide (attempt_ok 121 #[.pointer (some ⟨w.heap.size, 0, none⟩), .pointer (some ⟨w.heap.size + 1, 0, none⟩)] (fun _ X' => Cur X' D s (at_ + 4) 0 ∧ Blk X' (w.heap.size + 1) #[.int .i64 (beA (bys s) at_ 4 : Int)] 3 ∧ But D w X') HC.out hent
        (fun X hX => clo4_ok w.heap.size (w.heap.size + 1) hs (HC.out.below hX) hn (K1.out.below hX hz1) (K2.out.below hX hz2) (by omega) ((But.of_below HB2.out).trans (But.of_below hX)) (by omega)))
      clear e1 e2 e3 hent HC K1 K2
      go_enter Tryz.func112, Tryz.ntmps112
      go_wp2_with fail
      refine HA.out.mono ?_
      rintro x w1 ⟨rfl, X, hX, hc, hq, hb⟩
      have q0 := hq.cell 0
      have f0 := hq.free 0
      have Q1 := hide (hq.one (.int .i64 (beA (bys s) at_ 4 : Int)))
      have r0 := Q1.out.cell 0
      have HCC := hide hc
      have HBB := hide hb
      clear hc hq hb hX HA
      go_wp2
      simp [bodyPost, results, Tryz.results112, go_sem, r0]
      exact ⟨Blk.other HCC.out (a := ⟨w.heap.size + 1, 0, none⟩) (by show w.heap.size + 1 ≠ D; omega) _, HBB.out.setNew (by omega) _⟩
    · have e1 : getV s at_ 0 4 = 0 := by unfold getV; rw [if_neg (by omega)]
      have e2 : getA s at_ 0 4 = at_ := by unfold getA; rw [if_neg (by omega)]
      have e3 : getE s at_ 0 4 = 110 := by unfold getE; rw [if_pos rfl, if_neg hn]
      rw [e1, e2, e3]
      have HA := hide (attempt_no 121 #[.pointer (some ⟨w.heap.size, 0, none⟩), .pointer (some ⟨w.heap.size + 1, 0, none⟩)] 110 HC.out hent
        (fun X hX => clo4_no w.heap.size (w.heap.size + 1) hs (HC.out.below hX) ha (by omega) (K1.out.below hX hz1)))
      clear e1 e2 e3 hent HC K1
      go_enter Tryz.func112, Tryz.ntmps112
      go_wp2_with fail
      refine HA.out.mono ?_
      rintro x w1 ⟨rfl, hc, hb⟩
      have hq := hb.blk K2.out (by omega)
      have q0 := hq.cell 0
      have f0 := hq.free 0
      have Q1 := hide (hq.one (.int .i64 0))
      have r0 := Q1.out.cell 0
      have HCC := hide hc
      have HBB := hide ((But.of_below HB2.out).trans hb)
      clear hc hq hb HA K2
      go_wp2
      simp [bodyPost, results, Tryz.results112, go_sem, r0]
      exact ⟨Blk.other HCC.out (a := ⟨w.heap.size + 1, 0, none⟩) (by show w.heap.size + 1 ≠ D; omega) _, HBB.out.setNew (by omega) _⟩
  · have e1 : getV s at_ e 4 = 0 := by unfold getV; rw [if_neg (by omega)]
    have e2 : getA s at_ e 4 = at_ := by unfold getA; rw [if_neg (by omega)]
    have e3 : getE s at_ e 4 = e := by unfold getE; rw [if_neg h0]
    rw [e1, e2, e3]
    have HA := hide (attempt_idle (.func (.func 121) #[] #[.pointer (some ⟨w.heap.size, 0, none⟩), .pointer (some ⟨w.heap.size + 1, 0, none⟩)]) HC.out h0)
    clear e1 e2 e3 hent K1
    go_enter Tryz.func112, Tryz.ntmps112
    go_wp2_with fail
    refine HA.out.mono ?_
    rintro x w1 ⟨rfl, hb⟩
    have hq := K2.out.below hb hz2
    have q0 := hq.cell 0
    have f0 := hq.free 0
    have Q1 := hide (hq.one (.int .i64 0))
    have r0 := Q1.out.cell 0
    have HCC := hide (HC.out.below hb)
    have HBB := hide ((But.of_below (D := D) HB2.out).trans (But.of_below hb))
    clear hq hb HA K2 HC
    go_wp2
    simp [bodyPost, results, Tryz.results112, go_sem, r0]
    exact ⟨Blk.other HCC.out (a := ⟨w.heap.size + 1, 0, none⟩) (by show w.heap.size + 1 ≠ D; omega) _, HBB.out.setNew (by omega) _⟩

end

end Go.Proofs.YtobmdifledegbaaGreatDoor

namespace Go.Proofs.YtobmdifledegbaaGreatDoor
open Go.RowKit Go.Shelf

def OffT (D : Nat) : Prop := 0 ≠ D ∧ 1 ≠ D

theorem lt_of_cell {w : World} {g i : Nat} {v : Value} (h : w.cell? ⟨g, i, none⟩ = some v) : g < w.heap.size := by
  by_cases hg : g < w.heap.size
  · exact hg
  · unfold World.cell? at h
    rw [Array.getElem?_eq_none (by show w.heap.size ≤ g; omega)] at h
    simp at h

theorem U8.lt {w : World} (h : U8 w) : 0 < w.heap.size ∧ 1 < w.heap.size := ⟨lt_of_cell (h.1 0 (by decide)), lt_of_cell (h.2 0 (by decide)).1⟩
theorem U8.off {w : World} (h : U8 w) {D : Nat} (hD : w.heap.size ≤ D) : OffT D := by
  have := h.lt
  exact ⟨by omega, by omega⟩
theorem U8.but {D : Nat} {w w' : World} (h : U8 w) (hb : But D w w') (hD : OffT D) : U8 w' := by
  obtain ⟨l1, l2⟩ := h.lt
  refine ⟨fun c hc => ?_, fun i hi => ⟨?_, ?_⟩⟩
  · rw [hb.cell l1 hD.1]; exact h.1 c hc
  · rw [hb.cell l2 hD.2]; exact (h.2 i hi).1
  · rw [hb.cell l2 hD.2]; exact (h.2 i hi).2

def txtF (s : ByteArray) (at_ : Nat) (most : Int) : Nat :=
  if s.size < at_ + 2 then 110 else if most < (beA (bys s) at_ 2 : Int) then 112 else if s.size < at_ + 2 + beA (bys s) at_ 2 then 110
  else if (runesL (bys (s.extract (at_ + 2) (at_ + 2 + beA (bys s) at_ 2)))).isSome = false then 111 else 0
def txtS (s : ByteArray) (at_ : Nat) : ByteArray := s.extract (at_ + 2) (at_ + 2 + beA (bys s) at_ 2)

section
variable {w : World} {D : Nat} {s : ByteArray} {at_ e : Nat}

set_option maxHeartbeats 1000000 in
theorem text_no (most : Int) (f : Nat) (hs : s.size ≤ 140737488355328) (ha : at_ ≤ s.size) (h : Cur w D s at_ 0) (hT : U8 w) (hD : OffT D) (hf : txtF s at_ most = f) (h0 : f ≠ 0) :
    Calls Tryz.prog 111 #[.pointer (some ⟨D, 0, none⟩), .int .i64 most] w fun x w' => Pan f x ∧ (∃ k, Cur w' D s k 0) ∧ But D w w' := by
  unfold txtF at hf
  by_cases h1 : s.size < at_ + 2
  · rw [if_pos h1] at hf
    subst hf
    have HN := hide (number2_no (by omega) ha h h1)
    have HC := hide h
    clear h hT hD
    go_enter Tryz.func111, Tryz.ntmps111
    go_wp2_with fail
    refine HN.out.mono ?_
    rintro x w1 ⟨rfl, hb⟩
    have HB := hide hb
    clear hb
    go_wp2
    exact ⟨rfl, rfl, ⟨at_, HC.out.below HB.out⟩, But.of_below HB.out⟩
  rw [if_neg h1] at hf
  have HN := hide (number2_ok (by omega) h (by omega))
  have hNl := beA_lt (bys s) at_ 2
  have HT := hide hT
  clear hT h
  have HVV : Hid (∀ X, U8 X → Calls Tryz.prog 75 #[.string (s.extract (at_ + 2) (at_ + 2 + beA (bys s) at_ 2))] X fun x w' => x = .returned (.bool (runesL (bys (s.extract (at_ + 2) (at_ + 2 + beA (bys s) at_ 2)))).isSome) ∧ Below X.heap.size X w') := fun X hX => Valid_any _ X (by rw [ByteArray.size_extract]; omega) hX
  generalize beA (bys s) at_ 2 = N at *
  by_cases h2 : most < (N : Int)
  · rw [if_pos h2] at hf
    subst hf
    clear HVV
    go_enter Tryz.func111, Tryz.ntmps111
    go_wp2_with fail
    refine HN.out.mono ?_
    rintro x w1 ⟨rfl, hc, hb⟩
    have HC := hide hc
    have HB := hide hb
    clear hc hb
    go_wp2
    exact ⟨rfl, rfl, ⟨_, HC.out⟩, HB.out⟩
  rw [if_neg h2] at hf
  by_cases h3 : s.size < at_ + 2 + N
  · rw [if_pos h3] at hf
    subst hf
    clear HVV
    go_enter Tryz.func111, Tryz.ntmps111
    go_wp2_with fail
    refine HN.out.mono ?_
    rintro x w1 ⟨rfl, hc, hb⟩
    have HK := hide (take_no N (by omega) (by omega) hc h3)
    have HC := hide hc
    have HB := hide hb
    clear hc hb
    go_wp2_with fail
    refine HK.out.mono ?_
    rintro x w2 ⟨rfl, hb2⟩
    have HB2 := hide hb2
    clear hb2 HK
    go_wp2
    exact ⟨rfl, rfl, ⟨_, HC.out.below HB2.out⟩, HB.out.trans (But.of_below HB2.out)⟩
  rw [if_neg h3] at hf
  by_cases h4 : (runesL (bys (s.extract (at_ + 2) (at_ + 2 + N)))).isSome = false
  · rw [if_pos h4] at hf
    subst hf
    rw [h4] at HVV
    go_enter Tryz.func111, Tryz.ntmps111
    go_wp2_with fail
    refine HN.out.mono ?_
    rintro x w1 ⟨rfl, hc, hb⟩
    have HK := hide (take_ok N (by omega) hc (by omega))
    have HB := hide hb
    clear hc hb
    go_wp2_with fail
    refine HK.out.mono ?_
    rintro x w2 ⟨rfl, hc2, hb2⟩
    have HB2 := hide (HB.out.trans hb2)
    have HC2 := hide hc2
    clear hb2 HK HB hc2
    go_wp2_with fail
    refine (HVV.out _ (HT.out.but HB2.out hD)).mono ?_
    rintro x w3 ⟨rfl, hb3⟩
    have HB3 := hide hb3
    clear hb3
    go_wp2
    exact ⟨rfl, rfl, ⟨_, HC2.out.below HB3.out⟩, HB2.out.trans (But.of_below HB3.out)⟩
  · rw [if_neg h4] at hf
    exact absurd hf.symm h0

set_option maxHeartbeats 1000000 in
theorem text_ok (most : Int) (hs : s.size ≤ 140737488355328) (h : Cur w D s at_ 0) (hT : U8 w) (hD : OffT D) (hf : txtF s at_ most = 0) :
    Calls Tryz.prog 111 #[.pointer (some ⟨D, 0, none⟩), .int .i64 most] w fun x w' => x = .returned (.string (txtS s at_)) ∧ Cur w' D s (at_ + 2 + beA (bys s) at_ 2) 0 ∧ But D w w' := by
  unfold txtF at hf
  unfold txtS
  by_cases h1 : s.size < at_ + 2
  · rw [if_pos h1] at hf; omega
  rw [if_neg h1] at hf
  have HN := hide (number2_ok (by omega) h (by omega))
  have hNl := beA_lt (bys s) at_ 2
  have HT := hide hT
  clear hT h
  have HVV : Hid (∀ X, U8 X → Calls Tryz.prog 75 #[.string (s.extract (at_ + 2) (at_ + 2 + beA (bys s) at_ 2))] X fun x w' => x = .returned (.bool (runesL (bys (s.extract (at_ + 2) (at_ + 2 + beA (bys s) at_ 2)))).isSome) ∧ Below X.heap.size X w') := fun X hX => Valid_any _ X (by rw [ByteArray.size_extract]; omega) hX
  generalize beA (bys s) at_ 2 = N at *
  by_cases h2 : most < (N : Int)
  · rw [if_pos h2] at hf; omega
  rw [if_neg h2] at hf
  by_cases h3 : s.size < at_ + 2 + N
  · rw [if_pos h3] at hf; omega
  rw [if_neg h3] at hf
  cases h4 : (runesL (bys (s.extract (at_ + 2) (at_ + 2 + N)))).isSome with
  | false => rw [if_pos h4] at hf; omega
  | true =>
    rw [h4] at HVV
    clear hf
    go_enter Tryz.func111, Tryz.ntmps111
    go_wp2_with fail
    refine HN.out.mono ?_
    rintro x w1 ⟨rfl, hc, hb⟩
    have HK := hide (take_ok N (by omega) hc (by omega))
    have HB := hide hb
    clear hc hb
    go_wp2_with fail
    refine HK.out.mono ?_
    rintro x w2 ⟨rfl, hc2, hb2⟩
    have HB2 := hide (HB.out.trans hb2)
    have HC2 := hide hc2
    clear hb2 HK HB hc2
    go_wp2_with fail
    refine (HVV.out _ (HT.out.but HB2.out hD)).mono ?_
    rintro x w3 ⟨rfl, hb3⟩
    have HB3 := hide hb3
    clear hb3
    go_wp2
    go_ret
    exact ⟨rfl, HC2.out.below HB3.out, HB2.out.trans (But.of_below HB3.out)⟩


set_option maxHeartbeats 1000000 in
theorem cloT_ok {X : World} (a m b : Nat) (most : Int) (hs : s.size ≤ 140737488355328) (h : Cur X D s at_ 0) (hT : U8 X) (hD : OffT D) (hf : txtF s at_ most = 0) (ha : Blk X a #[.pointer (some ⟨D, 0, none⟩)] 72) (hm : Blk X m #[.int .i64 most] 3) (hb : Blk X b #[.string ⟨#[]⟩] 9) (hbD : b ≠ D) (hw : But D w X) (hwb : w.heap.size ≤ b) :
    Calls Tryz.prog 110 #[.pointer (some ⟨a, 0, none⟩), .pointer (some ⟨m, 0, none⟩), .pointer (some ⟨b, 0, none⟩)] X fun x X' => x = .returned (.tuple #[]) ∧ Cur X' D s (at_ + 2 + beA (bys s) at_ 2) 0 ∧ Blk X' b #[.string (txtS s at_)] 9 ∧ But D w X' := by
  have HN := hide (text_ok most hs h hT hD hf)
  have ca := ha.cell 0
  have cm := hm.cell 0
  have HBB := hide hb
  have HW := hide hw
  clear h ha hb hw hm hf hT hD
  go_enter Tryz.func110, Tryz.ntmps110
  go_wp2_with fail
  refine HN.out.mono ?_
  rintro x w1 ⟨rfl, hc, ht⟩
  have q := ht.blk HBB.out hbD
  have q0 := q.cell 0
  have f0 := q.free 0
  have Q1 := hide (q.one (.string (txtS s at_)))
  have HC := hide hc
  have HT := hide ht
  clear hc ht q
  go_wp2
  simp [bodyPost, results, Tryz.results110, go_sem]
  exact ⟨Blk.other HC.out (a := ⟨b, 0, none⟩) hbD _, Q1.out, (HW.out.trans HT.out).setNew hwb _⟩

set_option maxHeartbeats 1000000 in
theorem cloT_no {X : World} (a m b : Nat) (most : Int) (f : Nat) (hs : s.size ≤ 140737488355328) (ha' : at_ ≤ s.size) (h : Cur X D s at_ 0) (hT : U8 X) (hD : OffT D) (hf : txtF s at_ most = f) (h0 : f ≠ 0) (ha : Blk X a #[.pointer (some ⟨D, 0, none⟩)] 72) (hm : Blk X m #[.int .i64 most] 3) :
    Calls Tryz.prog 110 #[.pointer (some ⟨a, 0, none⟩), .pointer (some ⟨m, 0, none⟩), .pointer (some ⟨b, 0, none⟩)] X fun x X' => Pan f x ∧ (∃ k, Cur X' D s k 0) ∧ But D X X' := by
  have HN := hide (text_no most f hs ha' h hT hD hf h0)
  have ca := ha.cell 0
  have cm := hm.cell 0
  clear h ha hm ha' hf hT hD
  go_enter Tryz.func110, Tryz.ntmps110
  go_wp2_with fail
  refine HN.out.mono ?_
  rintro x w1 ⟨rfl, ⟨k, hc⟩, hb⟩
  have HB := hide hb
  have HC := hide hc
  clear hb hc
  go_wp2
  exact ⟨rfl, rfl, ⟨k, HC.out⟩, HB.out⟩

def tgtV (s : ByteArray) (at_ e : Nat) (most : Int) : ByteArray := if e = 0 ∧ txtF s at_ most = 0 then txtS s at_ else ⟨#[]⟩
def tgtA (s : ByteArray) (at_ e : Nat) (most : Int) : Nat := if e = 0 ∧ txtF s at_ most = 0 then at_ + 2 + beA (bys s) at_ 2 else at_
def tgtE (s : ByteArray) (at_ e : Nat) (most : Int) : Nat := if e = 0 then txtF s at_ most else e

set_option maxHeartbeats 1000000 in
theorem Text_any (most : Int) (hs : s.size ≤ 140737488355328) (ha : at_ ≤ s.size) (h : Cur w D s at_ e) (hT : U8 w) (hD : OffT D) : Calls Tryz.prog 86 #[.pointer (some ⟨D, 0, none⟩), .int .i64 most] w fun x w' => x = .returned (.string (tgtV s at_ e most)) ∧ Cur w' D s (tgtA s at_ e most) (tgtE s at_ e most) ∧ But D w w' := by
  have hmf : ∀ (fn : Fn) (first cap : Array Value) (w : World), (Instr.makeFunc fn first cap).run Tryz.prog w = .ok (.func fn first cap) w := fun _ _ _ _ => rfl
  have hDl := h.lt
  have HB1 : Hid (Below w.heap.size w ((w.alloc (.cells #[.pointer (some ⟨D, 0, none⟩)] 72)).alloc (.cells #[.int .i64 most] 3))) := ((Below.refl _ _).alloc (Nat.le_refl _) _).alloc ((Below.refl _ _).alloc (Nat.le_refl _) _).size _
  have HB2 : Hid (Below w.heap.size w (((w.alloc (.cells #[.pointer (some ⟨D, 0, none⟩)] 72)).alloc (.cells #[.int .i64 most] 3)).alloc (.cells #[.string ⟨#[]⟩] 9))) := HB1.out.alloc HB1.out.size _
  have HC := hide (h.below HB2.out)
  have HT := hide (hT.below HB2.out)
  have K1 : Hid (Blk (((w.alloc (.cells #[.pointer (some ⟨D, 0, none⟩)] 72)).alloc (.cells #[.int .i64 most] 3)).alloc (.cells #[.string ⟨#[]⟩] 9)) w.heap.size #[.pointer (some ⟨D, 0, none⟩)] 72) := ((Blk.new _ _ _).alloc _).alloc _
  have K2 : Hid (Blk (((w.alloc (.cells #[.pointer (some ⟨D, 0, none⟩)] 72)).alloc (.cells #[.int .i64 most] 3)).alloc (.cells #[.string ⟨#[]⟩] 9)) (w.heap.size + 1) #[.int .i64 most] 3) := (Blk.newAt _ _ (by simp) _ _).alloc _
  have K3 : Hid (Blk (((w.alloc (.cells #[.pointer (some ⟨D, 0, none⟩)] 72)).alloc (.cells #[.int .i64 most] 3)).alloc (.cells #[.string ⟨#[]⟩] 9)) (w.heap.size + 2) #[.string ⟨#[]⟩] 9) := Blk.newAt _ _ (by simp) _ _
  have hz1 : w.heap.size < (((w.alloc (.cells #[.pointer (some ⟨D, 0, none⟩)] 72)).alloc (.cells #[.int .i64 most] 3)).alloc (.cells #[.string ⟨#[]⟩] 9)).heap.size := K1.out.lt
  have hz2 : w.heap.size + 1 < (((w.alloc (.cells #[.pointer (some ⟨D, 0, none⟩)] 72)).alloc (.cells #[.int .i64 most] 3)).alloc (.cells #[.string ⟨#[]⟩] 9)).heap.size := K2.out.lt
  have hz3 : w.heap.size + 2 < (((w.alloc (.cells #[.pointer (some ⟨D, 0, none⟩)] 72)).alloc (.cells #[.int .i64 most] 3)).alloc (.cells #[.string ⟨#[]⟩] 9)).heap.size := K3.out.lt
  have hent : ∀ args w, (callFunc 110 args).run Tryz.prog w = .ok (.enter 110 args) w := enters_of Tryz.func110 (by kernel_rfl) rfl
  clear h hT
  by_cases h0 : e = 0
  · subst h0
    by_cases hn : txtF s at_ most = 0
    · have e1 : tgtV s at_ 0 most = txtS s at_ := by unfold tgtV; rw [if_pos ⟨rfl, hn⟩]
      have e2 : tgtA s at_ 0 most = at_ + 2 + beA (bys s) at_ 2 := by unfold tgtA; rw [if_pos ⟨rfl, hn⟩]
      have e3 : tgtE s at_ 0 most = 0 := by unfold tgtE; rw [if_pos rfl, hn]
      rw [e1, e2, e3]
      have HA := hide (attempt_ok 110 #[.pointer (some ⟨w.heap.size, 0, none⟩), .pointer (some ⟨w.heap.size + 1, 0, none⟩), .pointer (some ⟨w.heap.size + 2, 0, none⟩)] (fun _ X' => Cur X' D s (at_ + 2 + beA (bys s) at_ 2) 0 ∧ Blk X' (w.heap.size + 2) #[.string (txtS s at_)] 9 ∧ But D w X') HC.out hent
        (fun X hX => cloT_ok w.heap.size (w.heap.size + 1) (w.heap.size + 2) most hs (HC.out.below hX) (HT.out.below hX) hD hn (K1.out.below hX hz1) (K2.out.below hX hz2) (K3.out.below hX hz3) (by omega) ((But.of_below HB2.out).trans (But.of_below hX)) (by omega)))
      clear e1 e2 e3 hent HC K1 K2 K3 hn HT hD
      go_enter Tryz.func86, Tryz.ntmps86
      go_wp2_with fail
      refine HA.out.mono ?_
      rintro x w1 ⟨rfl, X, hX, hc, hq, hb⟩
      have q0 := hq.cell 0
      have f0 := hq.free 0
      have Q1 := hide (hq.one (.string (txtS s at_)))
      have r0 := Q1.out.cell 0
      have HCC := hide hc
      have HBB := hide hb
      clear hc hq hb hX HA
      go_wp2
      simp [bodyPost, results, Tryz.results86, go_sem, r0]
      exact ⟨Blk.other HCC.out (a := ⟨w.heap.size + 2, 0, none⟩) (by show w.heap.size + 2 ≠ D; omega) _, HBB.out.setNew (by omega) _⟩
    · have e1 : tgtV s at_ 0 most = ⟨#[]⟩ := by unfold tgtV; rw [if_neg (by omega)]
      have e2 : tgtA s at_ 0 most = at_ := by unfold tgtA; rw [if_neg (by omega)]
      have e3 : tgtE s at_ 0 most = txtF s at_ most := by unfold tgtE; rw [if_pos rfl]
      rw [e1, e2, e3]
      have HA := hide (attempt_no 110 #[.pointer (some ⟨w.heap.size, 0, none⟩), .pointer (some ⟨w.heap.size + 1, 0, none⟩), .pointer (some ⟨w.heap.size + 2, 0, none⟩)] (txtF s at_ most) HC.out hent
        (fun X hX => cloT_no w.heap.size (w.heap.size + 1) (w.heap.size + 2) most _ hs ha (HC.out.below hX) (HT.out.below hX) hD rfl hn (K1.out.below hX hz1) (K2.out.below hX hz2)))
      generalize txtF s at_ most = f at *
      clear e1 e2 e3 hent HC K1 K2 hn HT hD
      go_enter Tryz.func86, Tryz.ntmps86
      go_wp2_with fail
      refine HA.out.mono ?_
      rintro x w1 ⟨rfl, hc, hb⟩
      have hq := hb.blk K3.out (by omega)
      have q0 := hq.cell 0
      have f0 := hq.free 0
      have Q1 := hide (hq.one (.string ⟨#[]⟩))
      have r0 := Q1.out.cell 0
      have HCC := hide hc
      have HBB := hide ((But.of_below HB2.out).trans hb)
      clear hc hq hb HA K3
      go_wp2
      simp [bodyPost, results, Tryz.results86, go_sem, r0]
      exact ⟨Blk.other HCC.out (a := ⟨w.heap.size + 2, 0, none⟩) (by show w.heap.size + 2 ≠ D; omega) _, HBB.out.setNew (by omega) _⟩
  · have e1 : tgtV s at_ e most = ⟨#[]⟩ := by unfold tgtV; rw [if_neg (by omega)]
    have e2 : tgtA s at_ e most = at_ := by unfold tgtA; rw [if_neg (by omega)]
    have e3 : tgtE s at_ e most = e := by unfold tgtE; rw [if_neg h0]
    rw [e1, e2, e3]
    have HA := hide (attempt_idle (.func (.func 110) #[] #[.pointer (some ⟨w.heap.size, 0, none⟩), .pointer (some ⟨w.heap.size + 1, 0, none⟩), .pointer (some ⟨w.heap.size + 2, 0, none⟩)]) HC.out h0)
    clear e1 e2 e3 hent K1 K2 HT hD
    go_enter Tryz.func86, Tryz.ntmps86
    go_wp2_with fail
    refine HA.out.mono ?_
    rintro x w1 ⟨rfl, hb⟩
    have hq := K3.out.below hb hz3
    have q0 := hq.cell 0
    have f0 := hq.free 0
    have Q1 := hide (hq.one (.string ⟨#[]⟩))
    have r0 := Q1.out.cell 0
    have HCC := hide (HC.out.below hb)
    have HBB := hide ((But.of_below (D := D) HB2.out).trans (But.of_below hb))
    clear hq hb HA K3 HC
    go_wp2
    simp [bodyPost, results, Tryz.results86, go_sem, r0]
    exact ⟨Blk.other HCC.out (a := ⟨w.heap.size + 2, 0, none⟩) (by show w.heap.size + 2 ≠ D; omega) _, HBB.out.setNew (by omega) _⟩

end

end Go.Proofs.YtobmdifledegbaaGreatDoor

namespace Go.Proofs.YtobmdifledegbaaGreatDoor
open Go.RowKit

theorem mkByB (t : ByteArray) : (⟨(bys t).toArray⟩ : ByteArray) = t := by
  unfold bys
  cases t
  simp
theorem txtF_ok (s : ByteArray) (p : Nat) (m : Int) (h : txtF s p m = 0) : p + 2 + beA (bys s) p 2 ≤ s.size ∧ (beA (bys s) p 2 : Int) ≤ m ∧ (runesL (bys (txtS s p))).isSome = true := by
  unfold txtF at h
  split at h
  · omega
  split at h
  · omega
  split at h
  · omega
  split at h
  · omega
  · rename_i h1
    refine ⟨by omega, by omega, ?_⟩
    unfold txtS
    cases hb : (runesL (bys (s.extract (p + 2) (p + 2 + beA (bys s) p 2)))).isSome with
    | true => rfl
    | false => exact absurd hb h1

theorem getA_le (s : ByteArray) (p e k : Nat) (h : p ≤ s.size) : getA s p e k ≤ s.size := by
  unfold getA
  split <;> omega

theorem tgtA_le (s : ByteArray) (p e : Nat) (m : Int) (h : p ≤ s.size) : tgtA s p e m ≤ s.size := by
  unfold tgtA
  split
  · rename_i he
    exact (txtF_ok s p m he.2).1
  · exact h

end Go.Proofs.YtobmdifledegbaaGreatDoor

namespace Go.Proofs.YtobmdifledegbaaGreatDoor
open Go.RowKit

abbrev St := Nat × Nat
def gV (s : ByteArray) (st : St) (k : Nat) : Nat := getV s st.1 st.2 k
def gS (s : ByteArray) (st : St) (k : Nat) : St := (getA s st.1 st.2 k, getE s st.1 st.2 k)
def xV (s : ByteArray) (st : St) : ByteArray := tgtV s st.1 st.2 1024
def xS (s : ByteArray) (st : St) : St := (tgtA s st.1 st.2 1024, tgtE s st.1 st.2 1024)

structure Rd (w : World) (R D : Nat) (tx : Value) (s : ByteArray) (st : St) : Prop where
  blk : Blk w R #[.pointer (some ⟨D, 0, none⟩), tx] 75
  cur : Cur w D s st.1 st.2
  ne : R ≠ D
  le : st.1 ≤ s.size
  small : s.size ≤ 140737488355328

theorem Rd.below {w w' : World} {R D : Nat} {tx : Value} {s : ByteArray} {st : St} (h : Rd w R D tx s st) (hb : Below w.heap.size w w') : Rd w' R D tx s st := ⟨h.blk.below hb h.blk.lt, h.cur.below hb, h.ne, h.le, h.small⟩
theorem Rd.go {w w' : World} {R D : Nat} {tx : Value} {s : ByteArray} {st : St} (h : Rd w R D tx s st) {st' : St} (hb : But D w w') (hc : Cur w' D s st'.1 st'.2) (hl : st'.1 ≤ s.size) : Rd w' R D tx s st' := ⟨hb.blk h.blk h.ne, hc, h.ne, hl, h.small⟩

theorem gS_le (s : ByteArray) (st : St) (k : Nat) (h : st.1 ≤ s.size) : (gS s st k).1 ≤ s.size := getA_le s st.1 st.2 k h
theorem xS_le (s : ByteArray) (st : St) (h : st.1 ≤ s.size) : (xS s st).1 ≤ s.size := tgtA_le s st.1 st.2 1024 h

section
variable {w : World} {R D : Nat} {tx : Value} {s : ByteArray} {st : St}

theorem rget1 (h : Rd w R D tx s st) : Calls Tryz.prog 65 #[.pointer (some ⟨D, 0, none⟩)] w fun x w' => x = .returned (.int .i64 (gV s st 1 : Int)) ∧ Rd w' R D tx s (gS s st 1) ∧ But D w w' :=
  (Get8_any (by have := h.small; omega) h.le h.cur).mono (fun _ _ q => ⟨q.1, h.go q.2.2 q.2.1 (gS_le s st 1 h.le), q.2.2⟩)
theorem rget2 (h : Rd w R D tx s st) : Calls Tryz.prog 62 #[.pointer (some ⟨D, 0, none⟩)] w fun x w' => x = .returned (.int .i64 (gV s st 2 : Int)) ∧ Rd w' R D tx s (gS s st 2) ∧ But D w w' :=
  (Get16_any (by have := h.small; omega) h.le h.cur).mono (fun _ _ q => ⟨q.1, h.go q.2.2 q.2.1 (gS_le s st 2 h.le), q.2.2⟩)
theorem rget4 (h : Rd w R D tx s st) : Calls Tryz.prog 112 #[.pointer (some ⟨D, 0, none⟩)] w fun x w' => x = .returned (.int .i64 (gV s st 4 : Int)) ∧ Rd w' R D tx s (gS s st 4) ∧ But D w w' :=
  (Get32_any (by have := h.small; omega) h.le h.cur).mono (fun _ _ q => ⟨q.1, h.go q.2.2 q.2.1 (gS_le s st 4 h.le), q.2.2⟩)

set_option maxHeartbeats 1000000 in
theorem rtext (h : Rd w R D tx s st) (hT : U8 w) (hD : OffT D) : Calls Tryz.prog 63 #[.pointer (some ⟨R, 0, none⟩)] w fun x w' => x = .returned (.string (xV s st)) ∧ Rd w' R D tx s (xS s st) ∧ But D w w' := by
  have HC : Hid (Calls Tryz.prog 86 #[.pointer (some ⟨D, 0, none⟩), .int .i64 1024] w fun x w' => x = .returned (.string (xV s st)) ∧ Rd w' R D tx s (xS s st) ∧ But D w w') := hide ((Text_any 1024 h.small h.le h.cur hT hD).mono (fun _ _ q => ⟨q.1, h.go q.2.2 q.2.1 (xS_le s st h.le), q.2.2⟩))
  have c0 := h.blk.cell 0
  generalize xV s st = V at *
  generalize xS s st = st' at *
  clear h
  go_enter Tryz.func63, Tryz.ntmps63
  go_wp2_with fail
  refine HC.out.mono ?_
  rintro x w1 ⟨rfl, h1, h2⟩
  have H1 := hide h1
  have H2 := hide h2
  clear h1 h2 HC
  go_wp2
  go_ret
  exact ⟨rfl, H1.out, H2.out⟩

def TxAt (w : World) (D : Nat) (v : Value) (ps : List ByteArray) : Prop := (ps = [] ∧ ∃ ao cap, v = .slice ao 0 cap) ∨ ∃ g, v = .slice (some ⟨g, 0, none⟩) ps.length ps.length ∧ g ≠ D ∧ Blk w g (ps.map Value.string).toArray 9
theorem TxAt.but {w w' : World} {D : Nat} {v : Value} {ps : List ByteArray} (h : TxAt w D v ps) (hb : But D w w') : TxAt w' D v ps := by
  rcases h with h | ⟨g, h1, h2, h3⟩
  · exact .inl h
  · exact .inr ⟨g, h1, h2, hb.blk h3 h2⟩
theorem TxAt.below {w w' : World} {D : Nat} {v : Value} {ps : List ByteArray} (h : TxAt w D v ps) (hb : Below w.heap.size w w') : TxAt w' D v ps := h.but (.of_below hb)

def txN (ps : List ByteArray) (p : Nat) : ByteArray := ps[p]?.getD ⟨#[]⟩

set_option maxHeartbeats 2000000 in
theorem rtextAt2 {ps : List ByteArray} (h : Rd w R D tx s st) (ht : TxAt w D tx ps) (hp : ps.length ≤ 4096) : Calls Tryz.prog 89 #[.pointer (some ⟨R, 0, none⟩), .func (.func 62) #[.pointer (some ⟨D, 0, none⟩)] #[]] w fun x w' => x = .returned (.string (txN ps (gV s st 2))) ∧ Rd w' R D tx s (gS s st 2) ∧ But D w w' := by
  have HC := hide (rget2 h)
  obtain ⟨V, hV⟩ : ∃ V, V = gV s st 2 := ⟨_, rfl⟩
  rw [← hV] at HC
  rw [← hV]
  have HT := hide ht
  generalize gS s st 2 = st' at *
  clear hV h
  by_cases hlt : V < ps.length
  · obtain ⟨g, rfl, hg, hb⟩ : ∃ g, tx = .slice (some ⟨g, 0, none⟩) ps.length ps.length ∧ g ≠ D ∧ Blk w g (ps.map Value.string).toArray 9 := by
      rcases ht with ⟨h0, _⟩ | h
      · rw [h0] at hlt; simp at hlt
      · exact h
    have cV : Hid (∀ w', But D w w' → w'.cell? ⟨g, V, none⟩ = some (.string (txN ps V))) := hide (fun w' hw => by
      rw [(hw.blk hb hg).cell V]
      simp [txN, hlt])
    obtain ⟨L, hL⟩ : ∃ L, L = ps.length := ⟨_, rfl⟩
    rw [← hL] at hlt hp HC
    rw [← hL]
    have hlt' : ¬ (L : Int) ≤ (V : Int) := by omega
    have hlt2 : (V : Int) < (L : Int) := by omega
    generalize txN ps V = T at *
    clear ht hb HT hL
    go_enter Tryz.func89, Tryz.ntmps89
    go_wp2_with fail
    refine HC.out.mono ?_
    rintro x w1 ⟨rfl, h1, h2⟩
    have c0 := h1.blk.cell 0
    have c1 := h1.blk.cell 1
    have cc := cV.out w1 h2
    have H1 := hide h1
    have H2 := hide h2
    clear h1 h2 HC cV
    go_wp2
    go_ret
    exact ⟨rfl, H1.out, H2.out⟩
  · have e : txN ps V = ⟨#[]⟩ := by unfold txN; rw [List.getElem?_eq_none (by omega)]; rfl
    rw [e]
    obtain ⟨ao, n, cap, rfl, hn⟩ : ∃ ao n cap, tx = .slice ao n cap ∧ n = ps.length := by
      rcases ht with ⟨h0, ao, cap, h1⟩ | ⟨g, h1, _⟩
      · exact ⟨ao, 0, cap, h1, by rw [h0]; rfl⟩
      · exact ⟨_, _, _, h1, rfl⟩
    have hlt' : (n : Int) ≤ (V : Int) := by omega
    have hn2 : n ≤ 4096 := by omega
    clear ht HT hn e hlt
    go_enter Tryz.func89, Tryz.ntmps89
    go_wp2_with fail
    refine HC.out.mono ?_
    rintro x w1 ⟨rfl, h1, h2⟩
    have c0 := h1.blk.cell 0
    have c1 := h1.blk.cell 1
    have H1 := hide h1
    have H2 := hide h2
    clear h1 h2 HC
    go_wp2
    go_ret
    exact ⟨rfl, H1.out, H2.out⟩

set_option maxHeartbeats 2000000 in
theorem rtextAt4 {ps : List ByteArray} (h : Rd w R D tx s st) (ht : TxAt w D tx ps) (hp : ps.length ≤ 4096) : Calls Tryz.prog 89 #[.pointer (some ⟨R, 0, none⟩), .func (.func 112) #[.pointer (some ⟨D, 0, none⟩)] #[]] w fun x w' => x = .returned (.string (txN ps (gV s st 4))) ∧ Rd w' R D tx s (gS s st 4) ∧ But D w w' := by
  have HC := hide (rget4 h)
  obtain ⟨V, hV⟩ : ∃ V, V = gV s st 4 := ⟨_, rfl⟩
  rw [← hV] at HC
  rw [← hV]
  have HT := hide ht
  generalize gS s st 4 = st' at *
  clear hV h
  by_cases hlt : V < ps.length
  · obtain ⟨g, rfl, hg, hb⟩ : ∃ g, tx = .slice (some ⟨g, 0, none⟩) ps.length ps.length ∧ g ≠ D ∧ Blk w g (ps.map Value.string).toArray 9 := by
      rcases ht with ⟨h0, _⟩ | h
      · rw [h0] at hlt; simp at hlt
      · exact h
    have cV : Hid (∀ w', But D w w' → w'.cell? ⟨g, V, none⟩ = some (.string (txN ps V))) := hide (fun w' hw => by
      rw [(hw.blk hb hg).cell V]
      simp [txN, hlt])
    obtain ⟨L, hL⟩ : ∃ L, L = ps.length := ⟨_, rfl⟩
    rw [← hL] at hlt hp HC
    rw [← hL]
    have hlt' : ¬ (L : Int) ≤ (V : Int) := by omega
    have hlt2 : (V : Int) < (L : Int) := by omega
    generalize txN ps V = T at *
    clear ht hb HT hL
    go_enter Tryz.func89, Tryz.ntmps89
    go_wp2_with fail
    refine HC.out.mono ?_
    rintro x w1 ⟨rfl, h1, h2⟩
    have c0 := h1.blk.cell 0
    have c1 := h1.blk.cell 1
    have cc := cV.out w1 h2
    have H1 := hide h1
    have H2 := hide h2
    clear h1 h2 HC cV
    go_wp2
    go_ret
    exact ⟨rfl, H1.out, H2.out⟩
  · have e : txN ps V = ⟨#[]⟩ := by unfold txN; rw [List.getElem?_eq_none (by omega)]; rfl
    rw [e]
    obtain ⟨ao, n, cap, rfl, hn⟩ : ∃ ao n cap, tx = .slice ao n cap ∧ n = ps.length := by
      rcases ht with ⟨h0, ao, cap, h1⟩ | ⟨g, h1, _⟩
      · exact ⟨ao, 0, cap, h1, by rw [h0]; rfl⟩
      · exact ⟨_, _, _, h1, rfl⟩
    have hlt' : (n : Int) ≤ (V : Int) := by omega
    have hn2 : n ≤ 4096 := by omega
    clear ht HT hn e hlt
    go_enter Tryz.func89, Tryz.ntmps89
    go_wp2_with fail
    refine HC.out.mono ?_
    rintro x w1 ⟨rfl, h1, h2⟩
    have c0 := h1.blk.cell 0
    have c1 := h1.blk.cell 1
    have H1 := hide h1
    have H2 := hide h2
    clear h1 h2 HC
    go_wp2
    go_ret
    exact ⟨rfl, H1.out, H2.out⟩

def parV (n : Nat) : Int := if n = 255 then -1 else (n : Int)

set_option maxHeartbeats 1000000 in
theorem rparent (h : Rd w R D tx s st) : Calls Tryz.prog 90 #[.pointer (some ⟨R, 0, none⟩)] w fun x w' => x = .returned (.int .i64 (parV (gV s st 1))) ∧ Rd w' R D tx s (gS s st 1) ∧ But D w w' := by
  have HC := hide (rget1 h)
  have c0 := h.blk.cell 0
  generalize gV s st 1 = V at *
  generalize gS s st 1 = st' at *
  clear h
  by_cases hv : V = 255
  · subst hv
    go_enter Tryz.func90, Tryz.ntmps90
    go_wp2_with fail
    refine HC.out.mono ?_
    rintro x w1 ⟨rfl, h1, h2⟩
    have H1 := hide h1
    have H2 := hide h2
    clear h1 h2 HC
    go_wp2
    go_ret
    exact ⟨rfl, H1.out, H2.out⟩
  · have e : Hid (parV V = (V : Int)) := hide (if_neg hv)
    have hv' : ((V : Int) == 255) = false := beq_eq_false_iff_ne.2 (by omega)
    go_enter Tryz.func90, Tryz.ntmps90
    go_wp2_with fail
    refine HC.out.mono ?_
    rintro x w1 ⟨rfl, h1, h2⟩
    have H1 := hide h1
    have H2 := hide h2
    clear h1 h2 HC
    go_wp2
    go_ret
    exact ⟨by rw [e.out]; rfl, H1.out, H2.out⟩

end

end Go.Proofs.YtobmdifledegbaaGreatDoor

namespace Go.Proofs.YtobmdifledegbaaGreatDoor
open Go.RowKit

def rdE (ps : List ByteArray) (s : ByteArray) (st : St) : Ent × St :=
  (if gV s (gS s st 2) 1 = 1 then ⟨txN ps (gV s st 2), 1, ⟨#[]⟩, (gV s (gS s (gS s st 2) 1) 4 : Int)⟩ else ⟨txN ps (gV s st 2), (gV s (gS s st 2) 1 : Int), txN ps (gV s (gS s (gS s st 2) 1) 4), 0⟩, gS s (gS s (gS s st 2) 1) 4)

theorem results_ent1 {fn : Func} {a : Tmp} (h : fn.results = #[.cell a 39]) (tmps : Array Value) (H : Nat) (x0 x1 x2 x3 : Value) (w : World) (ht : tmps.getD a undef = .pointer (some ⟨H, 0, none⟩)) (hp : Blk w H #[x0, x1, x2, x3] 39) :
    (results fn tmps).run Tryz.prog w = .ok (.agg #[x0, x1, x2, x3]) w := by
  have c0 := hp.cell 0
  have c1 := hp.cell 1
  have c2 := hp.cell 2
  have c3 := hp.cell 3
  simp at c0 c1 c2 c3
  rw [Array.getD_eq_getD_getElem?] at ht
  simp [results, h, ht, go_sem, c0, c1, c2, c3]

theorem Blk.set1of4 {w : World} {b : Nat} {x0 x1 x2 x3 : Value} {t : TypeId} (h : Blk w b #[x0, x1, x2, x3] t) (v : Value) : Blk (w.setCell ⟨b, 1, none⟩ v) b #[x0, v, x2, x3] t := by
  unfold Blk at *
  simp only [World.setCell, Array.getElem?_modify, if_true, h, Option.map_some]
  rfl
theorem Blk.set2of4 {w : World} {b : Nat} {x0 x1 x2 x3 : Value} {t : TypeId} (h : Blk w b #[x0, x1, x2, x3] t) (v : Value) : Blk (w.setCell ⟨b, 2, none⟩ v) b #[x0, x1, v, x3] t := by
  unfold Blk at *
  simp only [World.setCell, Array.getElem?_modify, if_true, h, Option.map_some]
  rfl
theorem Blk.set3of4 {w : World} {b : Nat} {x0 x1 x2 x3 : Value} {t : TypeId} (h : Blk w b #[x0, x1, x2, x3] t) (v : Value) : Blk (w.setCell ⟨b, 3, none⟩ v) b #[x0, x1, x2, v] t := by
  unfold Blk at *
  simp only [World.setCell, Array.getElem?_modify, if_true, h, Option.map_some]
  rfl

theorem Rd.other {w : World} {R D : Nat} {tx : Value} {s : ByteArray} {st : St} (h : Rd w R D tx s st) {E i : Nat} (h1 : E ≠ R) (h2 : E ≠ D) (v : Value) : Rd (w.setCell ⟨E, i, none⟩ v) R D tx s st :=
  ⟨h.blk.other (a := ⟨E, i, none⟩) h1 v, Blk.other h.cur (a := ⟨E, i, none⟩) h2 v, h.ne, h.le, h.small⟩
theorem TxAt.other {w : World} {D : Nat} {v : Value} {ps : List ByteArray} (h : TxAt w D v ps) {E i : Nat} {w0 : World} (h0 : TxAt w0 D v ps) (hE : w0.heap.size ≤ E) (u : Value) : TxAt (w.setCell ⟨E, i, none⟩ u) D v ps := by
  rcases h with h | ⟨g, h1, h2, h3⟩
  · exact .inl h
  · rcases h0 with ⟨rfl, _⟩ | ⟨g', k1, _, k3⟩
    · refine .inl ⟨rfl, _, _, h1⟩
    · rw [h1] at k1
      simp only [Value.slice.injEq, Option.some.injEq, Addr.mk.injEq] at k1
      have := k3.lt
      exact .inr ⟨g, h1, h2, h3.other (a := ⟨E, i, none⟩) (by show E ≠ g; omega) u⟩

theorem But.put4 {D H : Nat} {a b : World} (h : But D a b) (hH : a.heap.size ≤ H) (y0 y1 y2 y3 : Value) : But D a ((((b.setCell ⟨H, 0, none⟩ y0).setCell ⟨H, 1, none⟩ y1).setCell ⟨H, 2, none⟩ y2).setCell ⟨H, 3, none⟩ y3) :=
  (((h.setNew hH _).setNew hH _).setNew hH _).setNew hH _

section
variable {w : World} {R D : Nat} {tx : Value} {s : ByteArray} {st : St}

set_option maxRecDepth 100000 in
set_option maxHeartbeats 4000000 in
theorem rentry {ps : List ByteArray} (h : Rd w R D tx s st) (ht : TxAt w D tx ps) (hp : ps.length ≤ 4096) : Calls Tryz.prog 92 #[.pointer (some ⟨R, 0, none⟩)] w fun x w' => x = .returned (entV (rdE ps s st).1) ∧ Rd w' R D tx s (rdE ps s st).2 ∧ But D w w' := by
  have hmf : ∀ (fn : Fn) (first cap : Array Value) (w : World), (Instr.makeFunc fn first cap).run Tryz.prog w = .ok (.func fn first cap) w := fun _ _ _ _ => rfl
  obtain ⟨WA, hWA⟩ : ∃ WA, WA = w.alloc (.cells #[.string ⟨#[]⟩, .int .i64 0, .string ⟨#[]⟩, .int .i64 0] 39) := ⟨_, rfl⟩
  have BA : Hid (Below w.heap.size w WA) := hide (by rw [hWA]; exact (Below.refl _ _).alloc (Nat.le_refl _) _)
  have QH : Hid (Blk WA w.heap.size #[.string ⟨#[]⟩, .int .i64 0, .string ⟨#[]⟩, .int .i64 0] 39) := hide (by rw [hWA]; exact Blk.newAt w w.heap.size rfl _ _)
  have HWA := hide hWA.symm
  have RA := hide (h.below BA.out)
  have TA := hide (ht.below BA.out)
  have hDw := Blk.lt h.cur
  have hRw := h.blk.lt
  have hHD : w.heap.size ≠ D := Nat.ne_of_gt hDw
  have hHR : w.heap.size ≠ R := Nat.ne_of_gt hRw
  have HT0 := hide ht
  have C1 := hide (rtextAt2 RA.out TA.out hp)
  have RE : Hid (rdE ps s st = (if gV s (gS s st 2) 1 = 1 then ⟨txN ps (gV s st 2), 1, ⟨#[]⟩, (gV s (gS s (gS s st 2) 1) 4 : Int)⟩ else ⟨txN ps (gV s st 2), (gV s (gS s st 2) 1 : Int), txN ps (gV s (gS s (gS s st 2) 1) 4), 0⟩, gS s (gS s (gS s st 2) 1) 4)) := hide rfl
  generalize rdE ps s st = RR at *
  have c0 := RA.out.blk.cell 0
  generalize txN ps (gV s st 2) = K at *
  generalize gS s st 2 = st1 at *
  clear hWA h ht
  go_enter Tryz.func92, Tryz.ntmps92
  go_wp2_with (simp only [HWA.out])
  refine C1.out.mono ?_
  rintro x w1 ⟨rfl, hr1, hb1⟩
  obtain ⟨WB, hWB⟩ : ∃ WB, WB = w1.alloc (.cells #[.string K, .int .i64 0, .string ⟨#[]⟩, .int .i64 0] 39) := ⟨_, rfl⟩
  have BB : Hid (Below w1.heap.size w1 WB) := hide (by rw [hWB]; exact (Below.refl _ _).alloc (Nat.le_refl _) _)
  have QE : Hid (Blk WB w1.heap.size #[.string K, .int .i64 0, .string ⟨#[]⟩, .int .i64 0] 39) := hide (by rw [hWB]; exact Blk.newAt w1 w1.heap.size rfl _ _)
  have HWB := hide hWB.symm
  have RB := hide (hr1.below BB.out)
  have TB := hide ((TA.out.but hb1).below BB.out)
  have U1 : Hid (But D w WB) := hide (((But.of_below BA.out).trans hb1).trans (.of_below BB.out))
  have QH1 := hide ((hb1.blk QH.out hHD).below BB.out (Blk.lt (hb1.blk QH.out hHD)))
  have hE0 : w.heap.size < w1.heap.size := Nat.lt_of_lt_of_le QH.out.lt hb1.size
  have c1 := RB.out.blk.cell 0
  have C2 := hide (rget1 RB.out)
  obtain ⟨V, hV⟩ : ∃ V, V = gV s st1 1 := ⟨_, rfl⟩
  rw [← hV] at C2 RE
  generalize gS s st1 1 = st2 at *
  clear hr1 hb1 C1 hWB hV c0 RA TA QH BA
  go_wp2_with (simp only [HWB.out])
  refine C2.out.mono ?_
  rintro x w2 ⟨rfl, hr2, hb2⟩
  have hED : w1.heap.size ≠ D := by omega
  have hER : w1.heap.size ≠ R := by omega
  have hEH : w1.heap.size ≠ w.heap.size := by omega
  have Q2 := hide (hb2.blk QE.out hED)
  have QS := hide (Q2.out.set1of4 (.int .i64 (V : Int)))
  have RS := hide (hr2.other (E := w1.heap.size) (i := 1) hER hED (.int .i64 (V : Int)))
  have U2 := hide ((U1.out.trans hb2).setNew (g := w1.heap.size) (i := 1) (Nat.le_of_lt hE0) (.int .i64 (V : Int)))
  have TS := hide ((TB.out.but hb2).other (E := w1.heap.size) (i := 1) HT0.out (Nat.le_of_lt hE0) (.int .i64 (V : Int)))
  have QH2 := hide ((hb2.blk QH1.out hHD).other (a := ⟨w1.heap.size, 1, none⟩) hEH (.int .i64 (V : Int)))
  have y1 := Q2.out.cell 1
  have f1 := Q2.out.free 1
  obtain ⟨W2, hW2⟩ : ∃ W2, W2 = w2.setCell ⟨w1.heap.size, 1, none⟩ (.int .i64 (V : Int)) := ⟨_, rfl⟩
  have HW2 := hide hW2.symm
  rw [← hW2] at QS RS U2 TS QH2
  clear hr2 hb2 C2 Q2 RB TB U1 QH1 hW2 QE c1
  have z1 := QS.out.cell 1
  have c2 := RS.out.blk.cell 0
  by_cases hv : V = 1
  · rw [if_pos hv] at RE
    have hv' : ((V : Int) == 1) = true := beq_iff_eq.2 (by omega)
    have HV := hide hv
    clear hv
    have C3 := hide (rget4 RS.out)
    generalize gV s st2 4 = X at *
    generalize gS s st2 4 = st3 at *
    clear TS HT0
    go_wp2_with (simp only [HW2.out])
    refine C3.out.mono ?_
    rintro x w3 ⟨rfl, hr3, hb3⟩
    have Q3 := hide (hb3.blk QS.out hED)
    have QT := hide (Q3.out.set3of4 (.int .i64 (X : Int)))
    have RT := hide (hr3.other (E := w1.heap.size) (i := 3) hER hED (.int .i64 (X : Int)))
    have U3 := hide ((U2.out.trans hb3).setNew (g := w1.heap.size) (i := 3) (Nat.le_of_lt hE0) (.int .i64 (X : Int)))
    have QH3 := hide ((hb3.blk QH2.out hHD).other (a := ⟨w1.heap.size, 3, none⟩) hEH (.int .i64 (X : Int)))
    have y3 := Q3.out.cell 3
    have f3 := Q3.out.free 3
    obtain ⟨W3, hW3⟩ : ∃ W3, W3 = w3.setCell ⟨w1.heap.size, 3, none⟩ (.int .i64 (X : Int)) := ⟨_, rfl⟩
    have HW3 := hide hW3.symm
    rw [← hW3] at QT RT U3 QH3
    have t0 := QT.out.cell 0
    have t1 := QT.out.cell 1
    have t2 := QT.out.cell 2
    have t3 := QT.out.cell 3
    have h0 := QH3.out.cell 0
    have h1 := QH3.out.cell 1
    have h2 := QH3.out.cell 2
    have h3 := QH3.out.cell 3
    have g0 := QH3.out.free 0
    have g1 := QH3.out.free 1
    have g2 := QH3.out.free 2
    have g3 := QH3.out.free 3
    clear hr3 hb3 C3 Q3 RS U2 QH2 hW3 QS c2 y1 f1
    go_wp2_with (simp only [HW3.out])
    refine bodyPost_ret (results_ent1 rfl _ _ _ _ _ _ _ rfl (QH3.out.put4 _ _ _ _)) rfl ?_
    refine ⟨by rw [RE.out, HV.out]; rfl, ?_, U3.out.put4 (Nat.le_refl _) _ _ _ _⟩
    rw [RE.out]
    exact (((RT.out.other hHR hHD _).other hHR hHD _).other hHR hHD _).other hHR hHD _
  · rw [if_neg hv] at RE
    have hv' : ((V : Int) == 1) = false := beq_eq_false_iff_ne.2 (by omega)
    have C3 := hide (rtextAt4 RS.out TS.out hp)
    generalize txN ps (gV s st2 4) = X at *
    generalize gS s st2 4 = st3 at *
    clear TS HT0
    go_wp2_with (simp only [HW2.out])
    refine C3.out.mono ?_
    rintro x w3 ⟨rfl, hr3, hb3⟩
    have Q3 := hide (hb3.blk QS.out hED)
    have QT := hide (Q3.out.set2of4 (.string X))
    have RT := hide (hr3.other (E := w1.heap.size) (i := 2) hER hED (.string X))
    have U3 := hide ((U2.out.trans hb3).setNew (g := w1.heap.size) (i := 2) (Nat.le_of_lt hE0) (.string X))
    have QH3 := hide ((hb3.blk QH2.out hHD).other (a := ⟨w1.heap.size, 2, none⟩) hEH (.string X))
    have y3 := Q3.out.cell 2
    have f3 := Q3.out.free 2
    obtain ⟨W3, hW3⟩ : ∃ W3, W3 = w3.setCell ⟨w1.heap.size, 2, none⟩ (.string X) := ⟨_, rfl⟩
    have HW3 := hide hW3.symm
    rw [← hW3] at QT RT U3 QH3
    have t0 := QT.out.cell 0
    have t1 := QT.out.cell 1
    have t2 := QT.out.cell 2
    have t3 := QT.out.cell 3
    have h0 := QH3.out.cell 0
    have h1 := QH3.out.cell 1
    have h2 := QH3.out.cell 2
    have h3 := QH3.out.cell 3
    have g0 := QH3.out.free 0
    have g1 := QH3.out.free 1
    have g2 := QH3.out.free 2
    have g3 := QH3.out.free 3
    clear hr3 hb3 C3 Q3 RS U2 QH2 hW3 QS c2 y1 f1
    go_wp2_with (simp only [HW3.out])
    refine bodyPost_ret (results_ent1 rfl _ _ _ _ _ _ _ rfl (QH3.out.put4 _ _ _ _)) rfl ?_
    refine ⟨by rw [RE.out]; rfl, ?_, U3.out.put4 (Nat.le_refl _) _ _ _ _⟩
    rw [RE.out]
    exact (((RT.out.other hHR hHD _).other hHR hHD _).other hHR hHD _).other hHR hHD _

end

end Go.Proofs.YtobmdifledegbaaGreatDoor
