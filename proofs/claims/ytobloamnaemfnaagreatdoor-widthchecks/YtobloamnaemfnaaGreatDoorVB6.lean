/-
  strconv.FormatUint to the base 10 at this dump: the number's decimal digits.
  What dec's amountText and Print do.
  What whole.Pow5 and whole.Pow10 do.
  What shortest's binary64, binary32, split, amount and powerOfTwo do.
  What nat.divLong does: the walk.
  nat.DivMod by nought and by one limb, whatever the dividend; literal lists, and what the numbers in them are.
  What nat.DivMod does, whatever the two numbers.
  Digits that a function gives.
  Plain mathematics of the reference's shifts.
  Plain mathematics of dividing bit by bit, with digits to the base 65536.
  Lists of limbs that are being built by append.
  What whole.cut does: the number's digits to the base 10^19.
  (*strings.Builder).WriteString at this dump: what it leaves in a builder.
-/
import Derived.Test.YtobloamnaemfnaaGreatDoorVShelf
import Derived.Test.YtobloamnaemfnaaGreatDoorVOwn
import Derived.Lib.AppendIntMem
import Derived.Laws.IdiomStrings
import Derived.Test.YtobloamnaemfnaaGreatDoorVB2
import Derived.Test.YtobloamnaemfnaaGreatDoorVB5
import Derived.Deep.RegionHeld3
import Derived.Test.YtobloamnaemfnaaGreatDoorVB4
import Derived.Test.YtobloamnaemfnaaGreatDoorVDown
import Derived.Laws.BitsLemmas
import Derived.Test.YtobloamnaemfnaaGreatDoorVSub
import Derived.Test.YtobloamnaemfnaaGreatDoorVSame
import Derived.Test.YtobloamnaemfnaaGreatDoorVB1
import Derived.Deep.AppendLies
import Derived.Test.YtobloamnaemfnaaGreatDoorVUintF
import Derived.Lib.Builder
import Derived.Lib.AppendStr
import Derived.Lib.UnsafeStr
import Derived.Laws.Externs
namespace Go.Proofs.YtobloamnaemfnaaGreatDoor
open Go.RowKit Go.Sort Go.Lib

def Tab (w : World) : Prop := Lib.TabIs Tryz.prog w "internal/strconv.uint64pow10" .u64 Lib.pow10Tab

theorem tab_some : (Tryz.prog.globalNamed "internal/strconv.uint64pow10").isSome = true := by kernel_rfl
theorem tab_glob : ∃ g, Tryz.prog.globalNamed "internal/strconv.uint64pow10" = some g := Option.isSome_iff_exists.1 tab_some

theorem Tab.below {w w' : World} (h : Tab w) (hb : Below w.heap.size w w') : Tab w' := by
  obtain ⟨g, hg⟩ := tab_glob
  unfold Tab Lib.TabIs World.var? at *
  rw [hg] at h ⊢
  simp only [Option.bind_some] at h ⊢
  have hlt : g < w.heap.size := by
    rcases Nat.lt_or_ge g w.heap.size with h' | h'
    · exact h'
    · rw [Array.getElem?_eq_none h'] at h; cases h
  rw [hb.block g hlt]
  exact h

theorem Tab.alloc {w : World} (h : Tab w) (o : Obj) : Tab (w.alloc o) := h.below ((Below.refl _ _).alloc (Nat.le_refl _) o)

theorem below_grow (w : World) (n : Nat) (os : Array Obj) : Below w.heap.size w (grow (w.drewN n) os) := by
  refine ⟨rfl, rfl, rfl, ?_, fun k hk => ?_⟩
  · show w.heap.size ≤ (w.heap ++ os).size
    rw [Array.size_append]; omega
  · show (w.heap ++ os)[k]? = w.heap[k]?
    rw [Array.getElem?_append_left hk]

theorem arr24 : Tryz.prog.arrayLen 172 = 24 := by simp [Program.arrayLen, Tryz.underlying172]

set_option maxRecDepth 100000 in
set_option maxHeartbeats 2000000 in
theorem ifmt_big (u : Nat) (h1 : 100 ≤ u) (hu : u < 18446744073709551616) (w : World) (htab : Tab w) :
    Calls Tryz.prog 197 #[.int .u64 (u : Int), .int .i64 10] w fun e w' => e = .returned (.string ⟨(Lib.decDigits u).toArray⟩) ∧ Below w.heap.size w w' := by
  have hnd : Lib.nDigits u ≤ 20 := by have := Lib.numDigits_eq u (by omega) hu; split at this <;> omega
  have hH0 := Lib.holds_zero0 w 172 (Lib.nDigits u) (by omega)
  have hfmt := Tryz.internal_strconv_formatBase10 w.heap.size 0 24 u (Array.replicate (Lib.nDigits u) 0) (w.alloc (.cells Lib.zeros24 172)) hH0 (by rw [Array.size_replicate]; exact Lib.lt_pow_nDigits u) hu (by rw [Array.size_replicate]; omega)
  rw [Array.size_replicate] at hfmt
  have nd := Tryz.internal_strconv_numDigits u (by omega) hu (w.alloc (.cells Lib.zeros24 172)) (htab.alloc _)
  have hsl : ∀ W, (Instr.sliceAt 172 (.pointer (some ⟨w.heap.size, 0, none⟩)) none (some (.int .i64 (Lib.nDigits u : Int))) none).run Tryz.prog W = .ok (.slice (some ⟨w.heap.size, 0, none⟩) (Lib.nDigits u) 24) W := fun W => by
    rw [run_sliceAt_array_h W 172 ⟨w.heap.size, 0, none⟩ (by simp [Program.arrayLen, Program.elem, Tryz.underlying172]) .i64 (Lib.nDigits u : Int) (by omega) (by rw [arr24]; omega)]
    go_simp
  have hlt : ¬ (u : Int) < 100 := by omega
  have HH : Hid (Holds (fun (b : UInt8) => Value.int .u8 (b.toNat : Int)) (w.alloc (.cells Lib.zeros24 172)) w.heap.size 0 (Array.replicate (Lib.nDigits u) (0 : UInt8))) := hH0
  have HF : Hid (Calls Tryz.prog 175 #[.slice (some ⟨w.heap.size, 0, none⟩) (Lib.nDigits u) 24, .int .u64 (u : Int)] (w.alloc (.cells Lib.zeros24 172)) fun e w' =>
      e = .returned (.tuple #[]) ∧ ∃ (n v' : Nat) (dk : Array UInt8), w' = (putRow (fun (b : UInt8) => Value.int .u8 (b.toNat : Int)) (w.alloc (.cells Lib.zeros24 172)) w.heap.size 0 dk).drewN n ∧ Lib.FmtInv (Lib.nDigits u) u 0 v' dk) := hfmt
  have HN : Hid (Calls Tryz.prog 174 #[.int .u64 (u : Int)] (w.alloc (.cells Lib.zeros24 172)) fun e w' => e = .returned (.int .i64 (Lib.nDigits u)) ∧ w' = (w.alloc (.cells Lib.zeros24 172))) := nd
  clear hH0 hfmt nd htab
  go_enter Tryz.func197, Tryz.ntmps197
  go_wp2_with fail
  refine HN.out.mono ?_
  rintro e w' ⟨rfl, rfl⟩
  go_wp2_with fail
  refine HF.out.mono ?_
  rintro e w' ⟨rfl, n, v', dk, rfl, hF⟩
  have hcv : (convert 50 9 (.slice (some ⟨w.heap.size, 0, none⟩) (Lib.nDigits u) 24)).run Tryz.prog ((putRow (fun (b : UInt8) => Value.int .u8 (b.toNat : Int)) (w.alloc (.cells Lib.zeros24 172)) w.heap.size 0 dk).drewN n) = .ok (.string ⟨(Lib.decDigits u).toArray⟩) ((putRow (fun (b : UInt8) => Value.int .u8 (b.toNat : Int)) (w.alloc (.cells Lib.zeros24 172)) w.heap.size 0 dk).drewN n) := by
    have h := run_convert_bytes_back (P := Tryz.prog) ((putRow (fun (b : UInt8) => Value.int .u8 (b.toNat : Int)) (w.alloc (.cells Lib.zeros24 172)) w.heap.size 0 dk).drewN n) 50 9 5 ⟨w.heap.size, 0, none⟩ 24 (Lib.decDigits u) Tryz.underlying50 Tryz.underlying5 Tryz.underlying9 (fun j hj => by
      rw [Lib.row_is_numeral hF j hj, Lib.add_plain, World.cell?_drewN]
      exact cell?_putRow (fun (b : UInt8) => Value.int .u8 (b.toNat : Int)) _ w.heap.size 0 _ dk HH.out (by rw [hF.size, Array.size_replicate]) j (by rw [hF.size]; rw [Lib.decDigits_length] at hj; exact hj))
    rw [Lib.decDigits_length] at h
    exact h
  obtain ⟨os, he⟩ : ∃ os, (putRow (fun (b : UInt8) => Value.int .u8 (b.toNat : Int)) (w.alloc (.cells Lib.zeros24 172)) w.heap.size 0 dk).drewN n = grow (w.drewN n) os := by
    rw [alloc_eq_grow]
    obtain ⟨os', _, e⟩ := putRow_grow_new (fun (b : UInt8) => Value.int .u8 (b.toNat : Int)) w #[.cells Lib.zeros24 172] w.heap.size 0 dk (Nat.le_refl _)
    exact ⟨os', by rw [e]; rfl⟩
  have HE := @id (Hid _) he
  clear he
  go_wp2
  go_ret
  refine ⟨rfl, ?_⟩
  rw [show (putRow (fun (b : UInt8) => Value.int .u8 (b.toNat : Int)) (w.alloc (.cells Lib.zeros24 172)) w.heap.size 0 dk).drewN n = grow (w.drewN n) os from HE]
  exact below_grow w n os

set_option maxRecDepth 100000 in
set_option maxHeartbeats 400000 in
theorem ifmt_small (u : Nat) (h1 : u < 100) (w : World) :
    Calls Tryz.prog 197 #[.int .u64 (u : Int), .int .i64 10] w fun e w' => e = .returned (.string ⟨(Lib.decDigits u).toArray⟩) ∧ Below w.heap.size w w' := by
  have hlt : (u : Int) < 100 := by omega
  have S := Tryz.internal_strconv_small u h1
  go_enter Tryz.func197, Tryz.ntmps197
  go_wp2_with fail
  refine (S _).mono ?_
  rintro e w' ⟨rfl, rfl⟩
  go_wp2
  go_ret
  exact ⟨rfl, Below.refl _ _⟩

theorem fmtUint_any (u : Nat) (hu : u < 18446744073709551616) (w : World) (htab : Tab w) :
    Calls Tryz.prog 157 #[.int .u64 (u : Int), .int .i64 10] w fun e w' => e = .returned (.string ⟨(Lib.decDigits u).toArray⟩) ∧ Below w.heap.size w w' := by
  have I : Calls Tryz.prog 197 #[.int .u64 (u : Int), .int .i64 10] w fun e w' => e = .returned (.string ⟨(Lib.decDigits u).toArray⟩) ∧ Below w.heap.size w w' := by
    by_cases h : u < 100
    · exact ifmt_small u h w
    · exact ifmt_big u (by omega) hu w htab
  go_enter Tryz.func157, Tryz.ntmps157
  go_wp2_with fail
  refine I.mono ?_
  rintro e w' ⟨rfl, hb⟩
  go_wp2
  go_ret
  exact ⟨rfl, hb⟩

end Go.Proofs.YtobloamnaemfnaaGreatDoor

namespace Go.Proofs.YtobloamnaemfnaaGreatDoor
open Go.RowKit

theorem itoa_len {e : Int} (h1 : -10000 ≤ e) (h2 : e ≤ 10000) : (Lib.itoa e).length ≤ 6 := by
  have h : ∀ n : Nat, n ≤ 10000 → (Lib.decDigits n).length ≤ 5 := fun n hn => sizeN_le (Nat.lt_of_le_of_lt hn (by decide)) (by omega)
  unfold Lib.itoa
  split
  · have := h e.natAbs (by omega); simp only [List.length_cons]; omega
  · have := h e.toNat (by omega); omega

theorem itoa_any (e : Int) (w : World) (h1 : -10000 ≤ e) (h2 : e ≤ 10000) (htab : Tab w) : Calls Tryz.prog 44 #[.int .i64 e] w fun e' w' => e' = .returned (.string ⟨(Lib.itoa e).toArray⟩) ∧ Below w.heap.size w w' := by
  refine (Tryz.strconv_Itoa e (by omega) (by omega) w htab).mono ?_
  rintro e' w' ⟨rfl, k, os, rfl⟩
  exact ⟨rfl, below_grow w k os⟩

end Go.Proofs.YtobloamnaemfnaaGreatDoor

namespace Go.Proofs.YtobloamnaemfnaaGreatDoor
open Go.RowKit

theorem i64_and1 (n : Int) : bits .and .i64 n 1 = n % 2 := by
  have h1 : (BitVec.ofInt 64 1).toNat = 2 ^ 1 - 1 := by decide
  have key : (BitVec.ofInt 64 n &&& BitVec.ofInt 64 1).toNat = (n % ((2 ^ 64 : Nat) : Int)).toNat % 2 ^ 1 := by
    rw [BitVec.toNat_and, BitVec.toNat_ofInt, h1, Nat.and_two_pow_sub_one_eq_mod]
  show IntKind.i64.wrap ((BitVec.ofInt 64 n &&& BitVec.ofInt 64 1).toNat : Nat) = n % 2
  rw [key, IntKind.wrap_i64]
  omega

set_option maxHeartbeats 400000 in
theorem blen_any (n : Nat) (w : World) (hn : n < 18446744073709551616) :
    Calls Tryz.prog 256 #[.int .u64 (n : Int)] w fun e w' => e = .returned (.int .i64 (bitsN n : Int)) ∧ w = w' := by
  have e : Lib.bitLen n = bitsN n := bitLen_bits n (by rw [show (2 : Nat) ^ 64 = 18446744073709551616 by decide +kernel]; exact hn)
  have L := len64 n
  rw [e] at L
  have HL := hide L
  clear L e
  go_enter Tryz.func256, Tryz.ntmps256
  go_wp2_with fail
  refine (HL.out _ hn).mono ?_
  rintro e w' ⟨rfl, rfl⟩
  go_wp2
  go_ret
  exact ⟨rfl, rfl⟩

theorem five_small : (5 : Nat) ^ 8192 < B64 ^ 400 := by decide +kernel

theorem five_len {r : List Nat} {e : Nat} (h : Is B64 r (5 ^ e)) (he : e ≤ 8192) : r.length ≤ 400 := by
  have h1 := Nat.pow_le_pow_right (show 0 < 5 by omega) he
  have h2 := five_small
  have h3 := trimmed_small (xs := r) (t := 400) (by rw [h.2.2]; omega)
  rw [trimmed_of_top h.2.1] at h3
  exact h3

structure PowInv (w : World) (n k : Nat) (v : Value) (wr : World) : Prop where
  bel : Below w.heap.size w wr
  own : ∃ r, Own .u64 134 wr w.heap.size 1000 v r ∧ Is B64 r (5 ^ (n / 2 ^ k))

theorem pow_bits (n k : Nat) : n / 2 ^ k = 2 * (n / 2 ^ (k + 1)) + n / 2 ^ k % 2 := by
  rw [Nat.pow_succ, ← Nat.div_div_eq_div_mul]; omega

set_option maxRecDepth 100000 in
set_option maxHeartbeats 1000000 in
theorem pow5_in (n : Nat) (w : World) (hn : n ≤ 8192) :
    Calls Tryz.prog 251 #[.int .i64 (n : Int)] w (ShPost w 1000 (5 ^ n) 0) := by
  have h0 : ¬ (n : Int) < 0 := by omega
  have h1 : ¬ 8192 < (n : Int) := by omega
  obtain ⟨m, hm⟩ : ∃ m, m = bitsN n := ⟨_, rfl⟩
  have hml : m ≤ 64 := by rw [hm]; exact bitsN_le (by show n < 18446744073709551616; omega)
  have HM : Hid (n / 2 ^ m = 0) := by
    show n / 2 ^ m = 0
    by_cases h : n = 0
    · subst h; exact Nat.zero_div _
    · obtain ⟨k, hk, _, h2⟩ := bitsN_spec h
      rw [hm, hk]; exact Nat.div_eq_of_lt h2
  have bl := fun w => blen_any n w (by omega)
  rw [← hm] at bl
  have BL := hide bl
  clear hm bl
  go_enter Tryz.func251, Tryz.ntmps251
  go_wp2_with fail
  refine (of_any 5 _ (by decide)).mono ?_
  rintro e w1 ⟨v, r5, rfl, ho5, io5, hb1⟩
  go_wp2_with fail
  refine (of_any 1 _ (by decide)).mono ?_
  rintro e w2 ⟨v2, r1, rfl, ho1, io1, hb2⟩
  have hb12 := hb1.trans (hb2.mono hb1.size)
  obtain ⟨o5, c5, rfl, hl5, hm5, at5⟩ := ho5.shape
  have at5' := at5.below hb2
  have hs1 : ∀ k, n / 2 ^ k = 0 → PowInv w n k v2 w2 := fun k hk => ⟨hb12, r1, ho1.mono hb1.size (by omega), by rw [hk]; exact io1⟩
  have HS1 := hide hs1
  have hsz := hb12.size
  have l5 : r5.length ≤ 1 := by omega
  clear hs1 ho5 ho1 at5 hb1 hb2
  go_wp2_with fail
  refine (BL.out _).mono ?_
  rintro e w' ⟨rfl, rfl⟩
  go_wp2
  go_loopw [5, 6] (fun v i wr => ∃ k : Nat, k ≤ 64 ∧ i = .int .i64 ((k : Int) - 1) ∧ PowInv w n k v wr ∧ At .u64 wr o5 r5) (fun _ i _ => (intOf i + 1).toNat)
  case atStart => exact ⟨m, hml, congrArg (Value.int IntKind.i64) (by omega), HS1.out _ HM.out, at5'⟩
  case round =>
    clear hb12 HS1 at5'
    obtain ⟨k, hk, rfl, hinv, hat5⟩ := hrel
    obtain ⟨r, hown, his⟩ := hinv.own
    have hbr := hinv.bel
    obtain ⟨op, cp, rfl, hlp, hmp, atp⟩ := hown.shape
    rcases k with _ | k
    · rw [Nat.pow_zero, Nat.div_one] at his
      clear hinv
      go_wp2
      go_ret2
      exact ⟨_, r, rfl, hown, his, hbr⟩
    · have hle : n / 2 ^ (k + 1) ≤ 8192 := Nat.le_trans (Nat.div_le_self _ _) hn
      have hrl := five_len his hle
      have pb := pow_bits n k
      have hlek : n / 2 ^ k ≤ 8192 := Nat.le_trans (Nat.div_le_self _ _) hn
      obtain ⟨u, hu⟩ : ∃ u, u = n / 2 ^ k := ⟨_, rfl⟩
      have m0 : (n : Int) / 2 ^ k = (u : Int) := by rw [hu]; push_cast; rfl
      have m1 : bits .and .i64 (u : Int) 1 = ((u % 2 : Nat) : Int) := by rw [i64_and1]; omega
      have hpw : ∀ (wr' : World) (v : Value) (r' : List Nat), Below wr.heap.size wr wr' → Own .u64 134 wr' wr.heap.size 1000 v r' → Is B64 r' (5 ^ u) → PowInv w n k v wr' := fun wr' v r' h1 h2 h3 =>
        ⟨hbr.trans (h1.mono hbr.size), r', h2.mono hbr.size (Nat.le_refl _), by rw [← hu]; exact h3⟩
      rw [← hu] at pb hlek
      have HPW := hide hpw
      have HPB : Hid (u = 2 * (n / 2 ^ (k + 1)) + u % 2) := pb
      have HU : Hid (u ≤ 8192) := hlek
      have hk63 : k ≤ 63 := by omega
      have h5k : 5 ^ (2 * (n / 2 ^ (k + 1))) = 5 ^ (n / 2 ^ (k + 1)) * 5 ^ (n / 2 ^ (k + 1)) := by rw [← Nat.pow_add]; congr 1; omega
      have H5 := hide h5k
      clear hinv hown hpw pb hu hlek h5k
      go_wp2_with fail
      refine (mul_any op op _ cp _ cp r r _ hlp (by omega) hlp (by omega) rfl rfl atp atp his.1 his.1).mono ?_
      rintro e w3 ⟨v3, r3, rfl, ho3, is3, hb3⟩
      rw [his.2.2, ← H5.out] at is3
      have hat3 := hat5.below hb3
      obtain ⟨o3, c3, rfl, hl3, hm3, at3⟩ := ho3.shape
      have hu2 : u % 2 = 0 ∨ u % 2 = 1 := by omega
      rcases hu2 with hu2 | hu2
      · rw [hu2] at m1
        have is3' : Is B64 r3 (5 ^ u) := by rw [HPB.out, hu2, Nat.add_zero]; exact is3
        have hst := HPW.out _ _ _ hb3 (ho3.mono (Nat.le_refl _) (by omega)) is3'
        have HST := hide hst
        have HAT := hide hat3
        clear hst hat3 hat5 at3 atp is3 is3' ho3 hb3 his hu2
        go_wp2
        go_roundw
        case rel => exact ⟨k, by omega, by go_num, HST.out, HAT.out⟩
        case measure => simp [intOf]
      · rw [hu2] at m1
        have hrl3 := five_len is3 (by have := HPB.out; have := HU.out; omega)
        clear hat5 atp his
        go_wp2_with fail
        refine (mul_any o3 o5 _ c3 _ c5 r3 r5 _ hl3 (by omega) hl5 (by omega) rfl rfl at3 hat3 is3.1 io5.1).mono ?_
        rintro e w4 ⟨v4, r4, rfl, ho4, is4, hb4⟩
        have is4' : Is B64 r4 (5 ^ u) := by
          rw [is3.2.2, io5.2.2, ← Nat.pow_succ] at is4
          rw [HPB.out, hu2]; exact is4
        have hst := HPW.out _ _ _ (hb3.trans (hb4.mono hb3.size)) (ho4.mono hb3.size (by omega)) is4'
        have HST := hide hst
        have HAT := hide (hat3.below hb4)
        clear hst hat3 at3 is3 is4 is4' ho3 ho4 hb3 hb4 hu2
        go_wp2
        go_roundw
        case rel => exact ⟨k, by omega, by go_num, HST.out, HAT.out⟩
        case measure => simp [intOf]

set_option maxHeartbeats 400000 in
theorem pow10_in (n : Nat) (w : World) (hn : n ≤ 8192) :
    Calls Tryz.prog 231 #[.int .i64 (n : Int)] w (ShPost w 3000 (10 ^ n) 0) := by
  go_enter Tryz.func231, Tryz.ntmps231
  go_wp2_with fail
  refine (pow5_in n _ hn).mono ?_
  rintro e w1 ⟨v, r, rfl, hown, his, hb⟩
  have hrl := five_len his hn
  obtain ⟨o, c, rfl, hl, hm, hat⟩ := hown.shape
  clear hown
  go_wp2_with fail
  refine (shl_any o _ c n r _ (by omega) hl (by omega) rfl hat his.1).mono ?_
  rintro e w2 ⟨v2, r2, rfl, hown2, his2, hb2⟩
  have h10 : 5 ^ n * 2 ^ n = 10 ^ n := by rw [← Nat.mul_pow]
  rw [his.2.2, h10] at his2
  have hbw := hb.trans (hb2.mono hb.size)
  have hsz := hb.size
  clear hb hb2 his hat h10
  go_wp2
  go_ret2
  exact ⟨_, r2, rfl, hown2.mono hsz (by omega), his2, hbw⟩

end Go.Proofs.YtobloamnaemfnaaGreatDoor

namespace Go.Proofs.YtobloamnaemfnaaGreatDoor
open Go.RowKit

end Go.Proofs.YtobloamnaemfnaaGreatDoor

namespace Go.Proofs.YtobloamnaemfnaaGreatDoor
open Go.RowKit

theorem shiftUp0 (ao : Option Addr) (len cap sh : Nat) (xs : List Nat) (w : World) (hl : len ≤ 100000000000) (hsh : sh ≤ 63) (hx : xs.length = len) (hax : At .u64 w ao xs) (ox : Ok B64 xs) :
    Calls Tryz.prog 246 #[.slice ao len cap, .int .i64 0, .int .i64 (sh : Int)] w (UpPost w (len + 1) (num B64 xs * 2 ^ sh)) := by
  have := shiftUp_any ao len cap 0 sh xs w hl (by omega) hsh hx hax ox
  rw [Nat.zero_add, Nat.pow_zero, Nat.mul_one] at this
  exact this

theorem shiftDown0 (ao : Option Addr) (len cap sh : Nat) (xs : List Nat) (w : World) (hl : len ≤ 100000000000) (hsh : sh ≤ 63) (hx : xs.length = len) (hax : At .u64 w ao xs) (ox : Ok B64 xs) :
    Calls Tryz.prog 250 #[.slice ao len cap, .int .i64 0, .int .i64 (sh : Int)] w (NatPost w len (num B64 xs / 2 ^ sh)) := by
  have := shiftDown_any ao len cap 0 sh xs w hl (by omega) hsh hx hax ox
  rw [Nat.pow_zero, Nat.div_one] at this
  exact this

theorem LongInv.fits {w wr : World} {Hd Hr Hq m c A k g p : Nat} {zs r q : List Nat} (hd : Hd ≠ Hq) (hrq : Hr ≠ Hq) (hdr : Hd ≠ Hr) (hq : w.heap.size ≤ Hq) (hrb : w.heap.size ≤ Hr) (hbel : Below w.heap.size w wr) (hdiv : At .u64 wr (some ⟨Hd, 0, none⟩) zs)
    (hl : r.length = m + 1) (hrq' : Row .u64 134 wr Hq q) (hlq : q.length = c) (hoq : Ok B64 q) (hz : ∀ j, j < k + 1 → dg q j = 0) (hA : num B64 r + num B64 zs * num B64 q = A) (hk : k < c)
    {U L : Nat} (hU : num B64 r = U * B64 ^ k + L) (hL : L < B64 ^ k) (hg : g < B64) (hlo : U < (g + 1) * num B64 zs) {w1 w2 : World} {r1 : List Nat} (h1 : Like w1 wr) (h2 : w1.grownBy w2 (some Hr)) (hr1 : Row .u64 134 w2 Hr r1) (hl1 : r1.length = r.length) (ho1 : Ok B64 r1)
    (hs : num B64 r1 + num B64 zs * g * B64 ^ k = num B64 r + 0 * B64 ^ (k + (p + 1))) {wr' : World} (hw : Like wr' (w2.setCell ⟨Hq, k, none⟩ (.int .u64 (g : Int)))) : LongInv w Hd Hr Hq m c zs A k wr' := by
  obtain ⟨a1, a2⟩ := round_fits hU hL hlo hs
  have hb1 := h1.below hbel
  exact LongInv.step hd hrq hq (hb1.grown h2 hb1.size (fun k hk => by simp only [Option.some.injEq] at hk; omega)) ((hdiv.like h1).gr h2 hdr) hr1 (by omega) ho1 a1 a2 ((hrq'.alike h1).gr h2 (Ne.symm hrq)) hlq hoq hz hA hk hg hw

theorem long_one {r r1 zs : List Nat} {g k t : Nat} (hr1 : num B64 r1 < B64 ^ t) (hs : num B64 r1 + num B64 zs * g * B64 ^ k = num B64 r + 1 * B64 ^ t) : 1 ≤ g := by
  rcases g with _ | g
  · simp at hs; omega
  · omega

theorem LongInv.back {w wr : World} {Hd Hr Hq m c A k g g' p : Nat} {zs r q : List Nat} (hd : Hd ≠ Hq) (hrq : Hr ≠ Hq) (hdr : Hd ≠ Hr) (hq : w.heap.size ≤ Hq) (hrb : w.heap.size ≤ Hr) (hbel : Below w.heap.size w wr) (hdiv : At .u64 wr (some ⟨Hd, 0, none⟩) zs)
    (hl : r.length = m + 1) (hrq' : Row .u64 134 wr Hq q) (hlq : q.length = c) (hoq : Ok B64 q) (hz : ∀ j, j < k + 1 → dg q j = 0) (hA : num B64 r + num B64 zs * num B64 q = A) (hk : k < c)
    {U L : Nat} (hU : num B64 r = U * B64 ^ k + L) (hg : g < B64) (hgg : g' + 1 = g) (hhi : g * num B64 zs ≤ U + num B64 zs) {w1 w2 w3 : World} {r1 r2 : List Nat} {cc : Nat} (h1 : Like w1 wr) (h2 : w1.grownBy w2 (some Hr)) (h3 : w2.grownBy w3 (some Hr))
    (hr2 : Row .u64 134 w3 Hr r2) (hl2 : r2.length = r.length) (ho2 : Ok B64 r2) (hE1 : num B64 r1 < B64 ^ (k + (p + 1))) (hE2 : num B64 r2 < B64 ^ (k + (p + 1))) (hcc : cc ≤ 1)
    (hs : num B64 r1 + num B64 zs * g * B64 ^ k = num B64 r + 1 * B64 ^ (k + (p + 1))) (hs2 : num B64 r2 + cc * B64 ^ (k + (p + 1)) = num B64 r1 + num B64 zs * B64 ^ k) {wr' : World} (hw : Like wr' (w3.setCell ⟨Hq, k, none⟩ (.int .u64 (g' : Int)))) : LongInv w Hd Hr Hq m c zs A k wr' := by
  obtain ⟨_, a1, a2⟩ := round_back hU hhi hE1 hs hE2 hcc hs2
  obtain rfl : g' = g - 1 := by omega
  have hb1 := h1.below hbel
  have hb2 := hb1.grown h2 hb1.size (fun k hk => by simp only [Option.some.injEq] at hk; omega)
  exact LongInv.step hd hrq hq (hb2.grown h3 hb2.size (fun k hk => by simp only [Option.some.injEq] at hk; omega)) (((hdiv.like h1).gr h2 hdr).gr h3 hdr) hr2 (by omega) ho2 a1 a2 (((hrq'.alike h1).gr h2 (Ne.symm hrq)).gr h3 (Ne.symm hrq)) hlq hoq hz hA hk (by omega) hw

set_option maxHeartbeats 1000000 in
theorem divLong_at (ao bo : Option Addr) (m ca n cb p d : Nat) (xs ys : List Nat) (w : World) (hn : n = p + 2) (hd : n + d = m) (hm : m ≤ 1000000000) (hx : xs.length = m) (hy : ys.length = n) (hax : At .u64 w ao xs) (hay : At .u64 w bo ys)
    (ox : Ok B64 xs) (oy : Ok B64 ys) (htop : dg ys (p + 1) ≠ 0) :
    Calls Tryz.prog 227 #[.slice ao m ca, .slice bo n cb] w (LongPost w m (num B64 xs / num B64 ys) (num B64 xs % num B64 ys)) := by
  obtain ⟨i0, hi, hz0, hz1, hz2⟩ := info_parts Tryz.infoU
  obtain ⟨b, o, rfl, hb, hcell⟩ : ∃ b o, bo = some ⟨b, o, none⟩ ∧ b < w.heap.size ∧ ∀ i, i < ys.length → w.cell? ⟨b, o + i, none⟩ = some (.int .u64 ((dg ys i : Nat) : Int)) := by
    rcases hay with h | h
    · rw [h] at hy; simp at hy; omega
    · exact h
  have c0 := hcell (p + 1) (by omega)
  obtain ⟨s, hs, hs63, hs1, hs2⟩ := lead_shift htop (oy (p + 1))
  have ld := fun w => lead64 (dg ys (p + 1)) w (oy (p + 1))
  rw [← hs] at ld
  have hdv := fun yu ou hn' => long_divisor (ys := ys) (yu := yu) (p := p) (s := s) oy (by omega) ou hs1 hs2 hn'
  obtain ⟨top, ht⟩ : ∃ t, t = dg ys (p + 1) := ⟨_, rfl⟩
  rw [← ht] at ld c0
  have LD : Hid (∀ w, Calls Tryz.prog 245 #[.int .u64 (top : Int)] w fun e w' => e = .returned (.int .i64 (s : Int)) ∧ w = w') := ld
  have DV : Hid (∀ yu, Ok B64 yu → num B64 yu = num B64 ys * 2 ^ s → (trimmed yu).length = p + 2 ∧ B64 ≤ 2 * dg (trimmed yu) (p + 1)) := hdv
  have HN : Hid (n = p + 2) := hn
  have hn1 : (n : Int) - 1 = ((p + 1 : Nat) : Int) := by omega
  have hn2 : ((p + 1 : Nat) : Int) < (n : Int) := by omega
  have hmn : (m : Int) - (n : Int) = (d : Int) := by omega
  have hdm : d ≤ 1000000000 ∧ n ≤ 1000000000 := by omega
  have HD : Hid (n + d = m) := hd
  have HT : Hid (dg ys (p + 1) ≠ 0) := htop
  clear hcell hs hs1 hs2 ld ht hdv hn hd htop
  go_enter Tryz.func227, Tryz.ntmps227
  go_wp2_with fail
  refine (LD.out _).mono ?_
  rintro e w' ⟨rfl, rfl⟩
  go_wp2_with fail
  refine (shiftUp0 (some ⟨b, o, none⟩) n cb s ys _ (by omega) hs63 hy hay oy).mono ?_
  rintro e w1 ⟨yu, rfl, hyr, hyl, hyo, hyn, hb1⟩
  obtain ⟨hzl, hzt⟩ := DV.out yu hyo hyn
  have HZ : Hid ((trimmed yu).length = n) := hzl.trans HN.out.symm
  have HZT : Hid (B64 ≤ 2 * dg (trimmed yu) (p + 1)) := hzt
  have HYL : Hid (yu.length = n + 1) := hyl
  clear hzl hzt hyl
  go_wp2_with fail
  refine (trim_to _ (n + 1) (n + 1) n yu _ (Nat.le_refl _) (by omega) HYL.out hyr.at HZ.out).mono ?_
  rintro e w' ⟨rfl, rfl⟩
  go_wp2_with fail
  refine (shiftUp0 ao m ca s xs _ (by omega) hs63 hx (hax.below hb1) ox).mono ?_
  rintro e w2 ⟨ru, rfl, hrr, hrl, hro, hrn, hb2⟩
  have hzdiv : At .u64 w2 (some ⟨w.heap.size, 0, none⟩) (trimmed yu) := (hyr.at.below hb2).trimmed
  have hlt1 := hyr.lt
  have hlt2 := hrr.lt
  obtain ⟨zs, hzs⟩ : ∃ zs, zs = trimmed yu := ⟨_, rfl⟩
  have hzo : Ok B64 zs := by rw [hzs]; exact trimmed_ok hyo
  have hzn : num B64 zs = num B64 ys * 2 ^ s := by rw [hzs, num_trimmed]; exact hyn
  rw [← hzs] at hzdiv
  have HZ' : Hid (zs.length = n) := by rw [hzs]; exact HZ.out
  have HZT' : Hid (B64 ≤ 2 * dg zs (p + 1)) := by rw [hzs]; exact HZT.out
  have hb12 : Below w.heap.size w w2 := hb1.trans (hb2.mono hb1.size)
  have HST : Hid (num B64 ru < num B64 zs * B64 ^ (d + 1)) := by
    rw [hrn]
    exact long_start ox hx (HZ'.out.trans HN.out) HZT'.out (by have := HN.out; have := HD.out; omega) hs63
  have HZN : Hid (num B64 zs = num B64 ys * 2 ^ s) := hzn
  have HRN : Hid (num B64 ru = num B64 xs * 2 ^ s) := hrn
  have HRL : Hid (ru.length = m + 1) := hrl
  have hgrow1 := hb1.size
  have hgrow2 := hb2.size
  clear hzs HZ HZT HYL hyr hyo hyn hb1 hb2 hzn hrn hrl DV LD c0
  go_wp2_with (at_make; refine wpList_make_full _ rfl _ _ 118 rfl w2.heap.size 134 i0 (.int .u64 0) 1 Tryz.underlying118 hi hz0 hz1 _ _ _ _ (d + 1) rfl rfl (by omega) (by omega) (by rw [hz2]; omega) (by unfold maxLen; omega) (Nat.le_refl _) ?_)
  intro w3 hown hgrow
  have hr3 : Row .u64 134 w3 w2.heap.size (List.replicate (d + 1) 0) := Row.made hown
  have hb3 : Below w2.heap.size w2 w3 := (Below.refl _ _).grown hgrow (Nat.le_refl _) (fun k hk => by cases hk)
  have hrr3 := hrr.below hb3 hlt2
  have hzd3 := hzdiv.below hb3
  have hbel3 : Below w.heap.size w w3 := hb12.trans (hb3.mono hb12.size)
  obtain ⟨Hd, hHd⟩ : ∃ z, z = w.heap.size := ⟨_, rfl⟩
  obtain ⟨Hr, hHr⟩ : ∃ z, z = w1.heap.size := ⟨_, rfl⟩
  obtain ⟨Hq, hHq⟩ : ∃ z, z = w2.heap.size := ⟨_, rfl⟩
  rw [← hHq] at hr3
  rw [← hHr] at hrr3
  rw [← hHd] at hzd3
  have hdr : Hd ≠ Hr := by omega
  have hdq : Hd ≠ Hq := by omega
  have hrq : Hr ≠ Hq := by omega
  have hqb : w.heap.size ≤ Hq := by omega
  have hrb : w.heap.size ≤ Hr := by omega
  have hqr : Hr < Hq := by omega
  clear hown hgrow hrr hzdiv
  simp only [← hHd, ← hHr, ← hHq]
  clear hHd hHr hHq
  go_wp2
  go_loopw [11, 12, 13] (fun i _ _ wr => ∃ k : Nat, k ≤ d + 1 ∧ i = .int .i64 ((k : Int) - 1) ∧ LongInv w Hd Hr Hq m (d + 1) zs (num B64 xs * 2 ^ s) k wr) (fun i _ _ _ => (intOf i + 1).toNat)
  case atStart =>
    refine ⟨d + 1, Nat.le_refl _, congrArg (Value.int IntKind.i64) (by omega), hbel3, hzd3, ru, _, hrr3, HRL.out, hro, HST.out, hr3, by simp, Ok.replicate (by decide) _, fun j _ => dg_replicate _ j, ?_⟩
    rw [num_replicate, Nat.mul_zero, Nat.add_zero]; exact HRN.out
  case round =>
    obtain ⟨k, hk, rfl, hinv⟩ := hrel
    rcases k with _ | k
    · obtain ⟨r, q, hr, hrl, hro, hrlt, hq, hql, hqo, _, hA⟩ := hinv.row
      have hbel := hinv.bel
      rw [Nat.pow_zero, Nat.mul_one, HZN.out] at hrlt
      rw [HZN.out] at hA
      obtain ⟨e1, e2, hY⟩ := long_end hrlt hA
      have hsm : num B64 r < B64 ^ n := by
        refine Nat.lt_trans hrlt ?_
        rw [← HZN.out, ← HZ'.out]; exact num_lt hzo
      obtain ⟨t1, ht1⟩ : ∃ q', q' = (trimmed q).length := ⟨_, rfl⟩
      obtain ⟨t2, ht2⟩ : ∃ q', q' = (trimmed r).length := ⟨_, rfl⟩
      have T1 : Hid ((trimmed q).length = t1) := ht1.symm
      have T2 : Hid ((trimmed r).length = t2) := ht2.symm
      have ht2n : t2 ≤ n := by rw [ht2]; exact trimmed_small hsm
      have HL : Hid (r.length = m + 1) := hrl
      have HLq : Hid (q.length = d + 1) := hql
      have E1 : Hid (num B64 q = num B64 xs / num B64 ys) := e1
      have E2 : Hid (num B64 r / 2 ^ s = num B64 xs % num B64 ys) := e2
      clear ht1 ht2 hrl hql e1 e2 hA hrlt hsm hinv hY
      go_wp2_with fail
      refine (trim_to _ (d + 1) (d + 1) t1 q _ (Nat.le_refl _) (by omega) HLq.out hq.at T1.out).mono ?_
      rintro e w' ⟨rfl, rfl⟩
      go_wp2_with fail
      refine (trim_to _ (m + 1) (m + 1) t2 r _ (Nat.le_refl _) (by omega) HL.out hr.at T2.out).mono ?_
      rintro e w' ⟨rfl, rfl⟩
      go_wp2_with fail
      refine (shiftDown0 _ t2 _ s (trimmed r) _ (by omega) hs63 T2.out hr.at.trimmed (trimmed_ok hro)).mono ?_
      rintro e w5 ⟨v2, r2, rfl, hown2, his2, hbel2⟩
      go_wp2
      go_ret2
      rw [num_trimmed, E2.out] at his2
      refine ⟨.slice (some ⟨Hq, 0, none⟩) t1 (d + 1), trimmed q, v2, r2, rfl, .inr ⟨Hq, q, ?_, hqb, hq.below hbel2 hq.lt, ?_, ?_⟩, hown2.mono hbel.size (by omega), ?_, his2, hbel.trans (hbel2.mono hbel.size), ?_⟩
      · rw [HLq.out, T1.out]
      · rw [length_trimmed]; rfl
      · rw [HLq.out]; omega
      · rw [← E1.out]; exact Is.trimmed hqo
      · refine .inr ?_
        have := hq.lt
        rcases hown2 with ⟨rfl, _⟩ | ⟨g2, full2, rfl, hg2, _⟩
        · simp [Value.ownBlock]
        · simp [Value.ownBlock]; omega
    · obtain ⟨r, q, hr, hrl, hro, hrlt, hq, hql, hqo, hqz, hA⟩ := hinv.row
      have hbr := hinv.bel
      have hdv := hinv.div
      have np := HN.out
      have nd := HD.out
      have hkd : k ≤ d := by omega
      obtain ⟨g, U, L, hg, hU, hL, hgb, hlo, hhi', hbig⟩ := guess_good (b := B64) (m := p) (k := k) (r := r) (ys := zs) (by decide) hro hzo (HZ'.out.trans np) HZT'.out hrlt
      have hzc : ∀ i, i < zs.length → wr.cell? ⟨Hd, 0 + i, none⟩ = some (.int .u64 ((dg zs i : Nat) : Int)) := by
        rcases hdv with h | ⟨b1, o1, h1, _, h3⟩
        · intro i hi; rw [h] at hi; simp at hi
        · simp only [Option.some.injEq, Addr.mk.injEq] at h1
          obtain ⟨rfl, rfl, _⟩ := h1
          exact h3
      have zl : zs.length = p + 2 := HZ'.out.trans np
      have gu := guessLimb_any Hr k p (m + 1 - k) Hd 0 (n + 1) _ _ _ _ _ wr (by omega) (hr.cell (k + (p + 2)) (by omega)) (hr.cell (k + (p + 1)) (by omega)) (hr.cell (k + p) (by omega)) (hzc (p + 1) (by omega)) (hzc p (by omega)) (hro _) (hro _) (hzo _) (hzo _)
      rw [← hg, show p + 2 = n by omega, show p + 3 = n + 1 by omega] at gu
      have hng : ∀ b o, zs ≠ [] → some (⟨Hd, 0, none⟩ : Addr) = some ⟨b, o, none⟩ → b ≠ Hr := by
        intro b o _ e; simp only [Option.some.injEq, Addr.mk.injEq] at e; omega
      have su : ∀ w1, Like w1 wr → Calls Tryz.prog 248 #[.slice (some ⟨Hr, k, none⟩) (n + 1) (m + 1 - k), .slice (some ⟨Hd, 0, none⟩) n (n + 1), .int .u64 (g : Int)] w1 (SubtPost w1 Hr r (num B64 zs * g * B64 ^ k) (k + (n + 1))) :=
        fun w1 h1 => subTimes_any Hr k n (m + 1 - k) (n + 1) g (some ⟨Hd, 0, none⟩) r zs w1 (by omega) HZ'.out (hdv.like h1) hzo hgb (hr.alike h1) hro (by omega) hng
      have ab : ∀ w1 w2 r1, Like w1 wr → w1.grownBy w2 (some Hr) → Row .u64 134 w2 Hr r1 → r1.length = r.length → Ok B64 r1 → Calls Tryz.prog 249 #[.slice (some ⟨Hr, k, none⟩) (n + 1) (m + 1 - k), .slice (some ⟨Hd, 0, none⟩) n (n + 1)] w2 (BackPost w2 Hr r1 (num B64 zs * B64 ^ k) (k + (n + 1))) :=
        fun w1 w2 r1 h1 h2 h3 h4 h5 => addBack_any Hr k n (m + 1 - k) (n + 1) (some ⟨Hd, 0, none⟩) r1 zs w2 (by omega) HZ'.out ((hdv.like h1).gr h2 hdr) hzo h3 h5 (by omega) hng
      have fi : ∀ w1 w2 r1 wr', Like w1 wr → w1.grownBy w2 (some Hr) → Row .u64 134 w2 Hr r1 → r1.length = r.length → Ok B64 r1 → num B64 r1 + num B64 zs * g * B64 ^ k = num B64 r + 0 * B64 ^ (k + (n + 1)) →
          Like wr' (w2.setCell ⟨Hq, k, none⟩ (.int .u64 (g : Int))) → LongInv w Hd Hr Hq m (d + 1) zs (num B64 xs * 2 ^ s) k wr' :=
        fun w1 w2 r1 wr' h1 h2 h3 h4 h5 h6 h7 => LongInv.fits hdq hrq hdr hqb hrb hbr hdv hrl hq hql hqo hqz hA (by omega) hU hL hgb hlo h1 h2 h3 h4 h5 h6 h7
      have sml : ∀ r1, Ok B64 r1 → (∀ j, k + (n + 1) ≤ j → dg r1 j = dg r j) → num B64 r1 < B64 ^ (k + (n + 1)) := fun r1 h1 h2 =>
        num_below h1 (fun j hj => by rw [h2 j hj]; exact dg_small (by decide) hbig (by omega))
      have ba : ∀ w1 w2 w3 r1 r2 cc g' wr', g' + 1 = g → Like w1 wr → w1.grownBy w2 (some Hr) → w2.grownBy w3 (some Hr) → Row .u64 134 w3 Hr r2 → r1.length = r.length → r2.length = r1.length → Ok B64 r1 → Ok B64 r2 → (∀ j, k + (n + 1) ≤ j → dg r1 j = dg r j) → (∀ j, k + (n + 1) ≤ j → dg r2 j = dg r1 j) → cc ≤ 1 →
          num B64 r1 + num B64 zs * g * B64 ^ k = num B64 r + 1 * B64 ^ (k + (n + 1)) → num B64 r2 + cc * B64 ^ (k + (n + 1)) = num B64 r1 + num B64 zs * B64 ^ k →
          Like wr' (w3.setCell ⟨Hq, k, none⟩ (.int .u64 (g' : Int))) → LongInv w Hd Hr Hq m (d + 1) zs (num B64 xs * 2 ^ s) k wr' :=
        fun w1 w2 w3 r1 r2 cc g' wr' hgg h1 h2 h3 h4 hl1 hl2 ho1 ho2 hz1 hz2 hc hs1 hs2 hw => LongInv.back hdq hrq hdr hqb hrb hbr hdv hrl hq hql hqo hqz hA (by omega) hU hgb hgg hhi' h1 h2 h3 h4 (by omega) ho2 (sml r1 ho1 hz1) (sml r2 ho2 (fun j hj => (hz2 j hj).trans (hz1 j hj))) hc hs1 hs2 hw
      have po : ∀ r1, Ok B64 r1 → (∀ j, k + (n + 1) ≤ j → dg r1 j = dg r j) → num B64 r1 + num B64 zs * g * B64 ^ k = num B64 r + 1 * B64 ^ (k + (n + 1)) → 1 ≤ g := fun r1 h1 h2 h3 => long_one (sml r1 h1 h2) h3
      have GU : Hid (Calls Tryz.prog 247 #[.slice (some ⟨Hr, k, none⟩) (n + 1) (m + 1 - k), .slice (some ⟨Hd, 0, none⟩) n (n + 1)] wr fun e w' => e = .returned (.int .u64 (g : Int)) ∧ Like w' wr) := gu
      have SU : Hid (∀ w1, Like w1 wr → Calls Tryz.prog 248 #[.slice (some ⟨Hr, k, none⟩) (n + 1) (m + 1 - k), .slice (some ⟨Hd, 0, none⟩) n (n + 1), .int .u64 (g : Int)] w1 (SubtPost w1 Hr r (num B64 zs * g * B64 ^ k) (k + (n + 1)))) := su
      have AB := hide ab
      have FI := hide fi
      have BA := hide ba
      have PO := hide po
      have QR : Hid (∀ w1 w2, Like w1 wr → w1.grownBy w2 (some Hr) → Row .u64 134 w2 Hq q) := fun w1 w2 h1 h2 => (hq.alike h1).gr h2 (Ne.symm hrq)
      have hne : ¬ (m + 1 = k) := by omega
      have hle : (k : Int) + (n : Int) + 1 ≤ ((m + 1 : Nat) : Int) := by omega
      have hkq : (k : Int) < ((d + 1 : Nat) : Int) := by omega
      have hkq' : k < q.length := by omega
      have hgb' : Hid (g < B64) := hgb
      clear hbr hdv np nd hg hU hL hgb hlo hhi' hbig hzc zl gu hng su ab fi sml ba po hinv hr hrl hro hrlt hq hql hqo hqz hA
      go_wp2_with fail
      rw [show k + n + 1 - k = n + 1 by omega]
      refine GU.out.mono ?_
      rintro e w4 ⟨rfl, hlike⟩
      have HK : Hid (Like w4 wr) := hlike
      clear hlike
      go_wp2_with fail
      refine (SU.out _ HK.out).mono ?_
      rintro e w5 ⟨dd, rfl, hd1, hgr, r1, a1, a2, a3, a4, a5⟩
      have hq5 := QR.out _ _ HK.out hgr
      have c5 := hq5.cell k hkq'
      have f5 := hq5.free k
      have hdd : dd = 0 ∨ dd = 1 := by omega
      rcases hdd with rfl | rfl
      · have hnx := fun wr' hw => FI.out _ _ _ wr' HK.out hgr a1 a2 a3 a5 hw
        have NX := hide hnx
        clear hgr a1 a2 a3 a4 a5 hnx hd1 hq5
        go_wp2
        go_roundw
        case rel => exact ⟨k, by omega, by go_num, NX.out _ ⟨rfl, rfl, rfl, rfl⟩⟩
        case measure => simp [intOf]
      · obtain ⟨g', rfl⟩ : ∃ g', g = g' + 1 := ⟨g - 1, by have := PO.out _ a3 a4 a5; omega⟩
        have hwg : IntKind.u64.wrap (((g' + 1 : Nat) : Int) - 1) = (g' : Int) := by
          rw [show ((g' + 1 : Nat) : Int) - 1 = (g' : Int) by omega, wrapLt _ (by have := hgb'.out; unfold B64 at this; omega)]
        have hwg2 : IntKind.u64.wrap (g' : Int) = (g' : Int) := wrapLt _ (by have := hgb'.out; unfold B64 at this; omega)
        have hab := AB.out _ _ _ HK.out hgr a1 a2 a3
        have ABK := hide hab
        have hnx := fun w3 r2 cc wr' b1 b2 b3 b4 b5 b6 b7 hw => BA.out _ _ w3 _ r2 cc g' wr' rfl HK.out hgr b1 b2 a2 b3 a3 b4 a4 b5 b6 a5 b7 hw
        have NX := hide hnx
        clear a1 a2 a3 a4 a5 hnx hd1 hab c5 f5
        go_wp2_with fail
        refine ABK.out.mono ?_
        rintro e w6 ⟨rfl, hgr2, r2, cc, b1, b2, b3, b4, b5, b6⟩
        have hq6 := hq5.gr hgr2 (Ne.symm hrq)
        have c6 := hq6.cell k hkq'
        have f6 := hq6.free k
        have hny := fun wr' hw => NX.out _ _ _ wr' hgr2 b1 b2 b3 b4 b5 b6 hw
        have NY := hide hny
        clear hgr hgr2 b1 b2 b3 b4 b5 b6 hny hq5 hq6 NX
        go_wp2
        go_roundw
        case rel => exact ⟨k, by omega, by go_num, NY.out _ ⟨rfl, rfl, rfl, rfl⟩⟩
        case measure => simp [intOf]

end Go.Proofs.YtobloamnaemfnaaGreatDoor

namespace Go.Proofs.YtobloamnaemfnaaGreatDoor
open Go.RowKit

theorem num_one {b : Nat} {xs : List Nat} (h : xs.length = 1) : num b xs = dg xs 0 := by
  unfold num; rw [h]; simp [V]

theorem divmod_by_limb (ao bo : Option Addr) (la ca lb cb : Nat) (xs ys : List Nat) (w : World) (hla : la ≤ ca) (hca : la ≤ 10000000000 ∧ ca ≤ 9223372036854775807) (hlb : lb ≤ cb) (hcb : lb ≤ 10000000000 ∧ cb ≤ 9223372036854775807)
    (hx : xs.length = la) (hy : ys.length = lb) (hax : At .u64 w ao xs) (hay : At .u64 w bo ys) (ox : Ok B64 xs) (oy : Ok B64 ys) (h1 : (trimmed ys).length = 1) (h2 : 1 ≤ (trimmed xs).length) :
    Calls Tryz.prog 194 #[.slice ao la ca, .slice bo lb cb] w (DivPost w la (num B64 xs / num B64 ys) (num B64 xs % num B64 ys) 0) := by
  have l1 := length_trimmed_le xs
  rcases hay.trimmed with h | ⟨b, o, rfl, hb, hc⟩
  · rw [h] at h1; simp at h1
  · rcases hax.trimmed with h | ⟨b', o', rfl, hb', hc'⟩
    · rw [h] at h2; simp at h2
    · have hn : num B64 ys = dg (trimmed ys) 0 := by rw [← num_trimmed, num_one h1]
      have hpos : 0 < dg (trimmed ys) 0 := by
        have := trimmed_top ys 0 (by rw [h1]); omega
      have hlt : num B64 xs % num B64 ys < B64 := by
        rw [hn]; exact Nat.lt_trans (Nat.mod_lt _ hpos) (trimmed_ok oy 0)
      have c3 := divLimb_at b' o' (trimmed xs).length ca (dg (trimmed ys) 0) (trimmed xs) w (by omega) hpos (trimmed_ok oy 0) rfl hb' hc' (trimmed_ok ox)
      rw [num_trimmed, ← hn] at c3
      have hc0 := hc 0 (by omega)
      have hc0' : w.cell? ⟨b, o, none⟩ = some (.int .u64 ((num B64 ys : Nat) : Int)) := by rw [hn]; exact hc0
      have key := divmod_limb (some ⟨b', o', none⟩) b o la ca lb cb (trimmed xs).length _ _ (num B64 ys) w h2 (by omega) (fun w' h => trim_to _ la ca _ xs w' hla (by omega) hx (hax.same h) rfl)
        (fun w' h => trim_to _ lb cb 1 ys w' hlb (by omega) hy (hay.same h) h1) hc0' c3 hlt
      refine key.mono ?_
      rintro e w' ⟨v1, r1, v2, r2, e1, o1, o2, i1, i2, hb, hd⟩
      exact ⟨v1, r1, v2, r2, e1, o1.mono (Nat.le_refl _) (by omega), o2.mono (Nat.le_refl _) (by omega), i1, i2, hb, hd⟩

end Go.Proofs.YtobloamnaemfnaaGreatDoor

namespace Go.Proofs.YtobloamnaemfnaaGreatDoor
open Go.RowKit

set_option maxHeartbeats 1000000 in
theorem divmod_long (ao bo : Option Addr) (la ca lb cb m p n q r : Nat) (w : World) (hpm : p ≤ m) (hp : 2 ≤ p) (_hm : m ≤ 10000000000)
    (c1 : ∀ w' : World, w'.heap = w.heap → Calls Tryz.prog 159 #[.slice ao la ca] w' fun e w'' => e = .returned (.slice ao m ca) ∧ w' = w'')
    (c2 : ∀ w' : World, w'.heap = w.heap → Calls Tryz.prog 159 #[.slice bo lb cb] w' fun e w'' => e = .returned (.slice bo p cb) ∧ w' = w'')
    (c3 : Calls Tryz.prog 227 #[.slice ao m ca, .slice bo p cb] w (LongPost w n q r)) :
    Calls Tryz.prog 194 #[.slice ao la ca, .slice bo lb cb] w (DivPost w n q r 0) := by
  have C1 : Hid (∀ w' : World, w'.heap = w.heap → Calls Tryz.prog 159 #[.slice ao la ca] w' fun e w'' => e = .returned (.slice ao m ca) ∧ w' = w'') := c1
  have C2 : Hid (∀ w' : World, w'.heap = w.heap → Calls Tryz.prog 159 #[.slice bo lb cb] w' fun e w'' => e = .returned (.slice bo p cb) ∧ w' = w'') := c2
  have C3 : Hid (Calls Tryz.prog 227 #[.slice ao m ca, .slice bo p cb] w (LongPost w n q r)) := c3
  have n1 : ((p : Int) == 0) = false := by rw [beq_eq_false_iff_ne]; omega
  have n2 : ¬ (m : Int) < (p : Int) := by omega
  have n3 : ((p : Int) == 1) = false := by rw [beq_eq_false_iff_ne]; omega
  clear c1 c2 c3
  go_enter Tryz.func194, Tryz.ntmps194
  go_wp2_with fail
  refine (C1.out _ rfl).mono ?_
  rintro e w' ⟨rfl, rfl⟩
  go_wp2_with fail
  refine (C2.out _ rfl).mono ?_
  rintro e w' ⟨rfl, rfl⟩
  go_wp2_with fail
  refine C3.out.mono ?_
  rintro e w1 ⟨v1, r1, v2, r2, rfl, o1, o2, i1, i2, hb, hne⟩
  go_wp2
  go_ret3
  exact ⟨v1, r1, v2, r2, rfl, o1, o2, i1, i2, hb, hne⟩

theorem divmod_any (ao bo : Option Addr) (la ca lb cb : Nat) (xs ys : List Nat) (w : World) (hla : la ≤ ca) (hca : la ≤ 100000000 ∧ ca ≤ 9223372036854775807) (hlb : lb ≤ cb) (hcb : lb ≤ 100000000 ∧ cb ≤ 9223372036854775807)
    (hx : xs.length = la) (hy : ys.length = lb) (hax : At .u64 w ao xs) (hay : At .u64 w bo ys) (ox : Ok B64 xs) (oy : Ok B64 ys) (h0 : num B64 ys ≠ 0) :
    Calls Tryz.prog 194 #[.slice ao la ca, .slice bo lb cb] w (DivPost w la (num B64 xs / num B64 ys) (num B64 xs % num B64 ys) 0) := by
  have hb0 : 0 < B64 := by decide
  have l1 := length_trimmed_le xs
  have l2 := length_trimmed_le ys
  have c1 : ∀ w' : World, w'.heap = w.heap → Calls Tryz.prog 159 #[.slice ao la ca] w' fun e w'' => e = .returned (.slice ao (trimmed xs).length ca) ∧ w' = w'' := fun w' h => trim_to _ la ca _ xs w' hla (by omega) hx (hax.same h) rfl
  have c2 : ∀ w' : World, w'.heap = w.heap → Calls Tryz.prog 159 #[.slice bo lb cb] w' fun e w'' => e = .returned (.slice bo (trimmed ys).length cb) ∧ w' = w'' := fun w' h => trim_to _ lb cb _ ys w' hlb (by omega) hy (hay.same h) rfl
  have wide : ∀ {m q r : Nat}, m ≤ la → ∀ e w', DivPost w m q r 0 e w' → DivPost w la q r 0 e w' := by
    rintro m q r hm e w' ⟨v1, r1, v2, r2, e1, o1, o2, i1, i2, hb, hd⟩
    exact ⟨v1, r1, v2, r2, e1, o1.mono (Nat.le_refl _) hm, o2.mono (Nat.le_refl _) hm, i1, i2, hb, hd⟩
  have p0 : (trimmed ys).length ≠ 0 := fun h => h0 (by rw [← num_trimmed, List.length_eq_zero_iff.1 h]; rfl)
  by_cases hlt : (trimmed xs).length < (trimmed ys).length
  · have nl : num B64 xs < num B64 ys := by
      rcases hn : (trimmed ys).length with _ | n
      · exact absurd hn p0
      · have a1 := num_lt (trimmed_ok ox)
        have a2 := num_ge (b := B64) (trimmed_top ys) hn
        have a3 := Nat.pow_le_pow_right hb0 (show (trimmed xs).length ≤ n by omega)
        rw [num_trimmed] at a1 a2
        omega
    have c3 := norm_any ao (trimmed xs).length ca (trimmed xs) w (by omega) (by omega) rfl hax.trimmed (trimmed_ok ox)
    have key := divmod_less ao bo la ca lb cb _ _ (num B64 xs) w hlt (by omega) c1 c2 (by rw [num_trimmed] at c3; exact c3)
    rw [Nat.div_eq_of_lt nl, Nat.mod_eq_of_lt nl]
    exact key.mono (wide (by omega))
  · by_cases h1 : (trimmed ys).length = 1
    · exact divmod_by_limb ao bo la ca lb cb xs ys w hla (by omega) hlb (by omega) hx hy hax hay ox oy h1 (by omega)
    · obtain ⟨p, hp⟩ : ∃ p, (trimmed ys).length = p + 2 := ⟨(trimmed ys).length - 2, by omega⟩
      have c3 := divLong_at ao bo (trimmed xs).length ca (trimmed ys).length cb p ((trimmed xs).length - (trimmed ys).length) (trimmed xs) (trimmed ys) w hp (by omega) (by omega) rfl rfl hax.trimmed hay.trimmed (trimmed_ok ox) (trimmed_ok oy) (trimmed_top ys (p + 1) hp)
      rw [num_trimmed, num_trimmed] at c3
      exact (divmod_long ao bo la ca lb cb _ _ _ _ _ w (by omega) (by omega) (by omega) c1 c2 c3).mono (wide (by omega))

end Go.Proofs.YtobloamnaemfnaaGreatDoor

namespace Go.Proofs.YtobloamnaemfnaaGreatDoor

theorem new_cell (w : World) (v : Value) (t : TypeId) : ∀ (j : Nat) (u : Value), [v][j]? = some u → (w.alloc (Obj.cells #[v] t)).cell? ((⟨w.heap.size, 0, none⟩ : Addr).add j) = some u := by
  intro j u hj
  match j, hj with
  | 0, hj =>
    simp at hj
    subst hj
    simp [Addr.add]

theorem one_one (k : IntKind) (n : Int) : ∀ u ∈ [Value.int k n], u.oneCell' = true := by
  intro u hu; simp at hu; subst hu; rfl

end Go.Proofs.YtobloamnaemfnaaGreatDoor

namespace Go.Proofs.YtobloamnaemfnaaGreatDoor

end Go.Proofs.YtobloamnaemfnaaGreatDoor

namespace Go.Proofs.YtobloamnaemfnaaGreatDoor

theorem dig_at {b : Nat} {xs : List Nat} (hb : 0 < b) (ox : Ok b xs) (j : Nat) : num b xs / b ^ j % b = dg xs j := by
  by_cases hj : j < xs.length
  · obtain ⟨t, ht⟩ : ∃ t, xs.length = j + (1 + t) := ⟨xs.length - j - 1, by omega⟩
    have h1 := V_split b (dg xs) j (1 + t)
    have h2 := V_split b (fun i => dg xs (j + i)) 1 t
    have h3 : V b (dg xs) j < b ^ j := V_lt j (fun i _ => ox i)
    have hp : 0 < b ^ j := Nat.pow_pos hb
    unfold num
    rw [ht, h1, Nat.add_comm, Nat.mul_add_div hp, Nat.div_eq_of_lt h3, Nat.add_zero, h2]
    simp only [V, Nat.pow_zero, Nat.mul_one, Nat.zero_add, Nat.pow_one, Nat.add_zero]
    rw [Nat.add_mul_mod_self_left]
    exact Nat.mod_eq_of_lt (ox j)
  · have h1 := num_lt ox
    have h2 := Nat.pow_le_pow_right hb (show xs.length ≤ j by omega)
    rw [Nat.div_eq_of_lt (by omega), dg_out (by omega), Nat.zero_mod]

end Go.Proofs.YtobloamnaemfnaaGreatDoor

namespace Go.Proofs.YtobloamnaemfnaaGreatDoor
open Go.RowKit

def Grw (w wr : World) (v : Value) (ys : List Nat) : Prop := Below w.heap.size w wr ∧ wr.ownsRow w.heap.size 134 1 v ys.length (vals .u64 ys)

theorem Grw.at {w wr : World} {v : Value} {ys : List Nat} (h : Grw w wr v ys) : ∃ ao cap, v = .slice ao ys.length cap ∧ ys.length ≤ cap ∧ At .u64 wr ao ys := by
  obtain ⟨hb, hl, ho⟩ := h
  rcases ho with ⟨rfl, h0⟩ | ⟨g, cap, cur, rfl, hg, hh, hn, _, hs, ht⟩
  · obtain rfl : ys = [] := List.length_eq_zero_iff.1 h0
    exact ⟨none, 0, rfl, Nat.le_refl _, At.nil _ _ _⟩
  · refine ⟨_, cap, rfl, hn, .inr ⟨g, 0, rfl, lt_of_block hh, fun i hi => ?_⟩⟩
    simp only [World.cell?, hh]
    have hc : cur[i]? = (vals .u64 ys)[i]? := by
      rw [← ht, List.getElem?_take_of_lt (by omega), Array.getElem?_toList]
    simp only [Option.isSome_none, Bool.false_eq_true, if_false, Nat.zero_add, hc]
    simp [vals, hi]

theorem Grw.step {w wr w1 : World} {v v' : Value} {ys : List Nat} {d : Nat} (o : Obj) (h : Grw w wr v ys) (ho : w1.ownsRow w.heap.size 134 1 v' (ys.length + 1) (vals .u64 ys ++ [.int .u64 (d : Int)])) (hg : (wr.alloc o).grownBy w1 v.ownBlock) :
    Grw w w1 v' (ys ++ [d]) := by
  have hb := h.1.alloc (h.1.size) o
  refine ⟨hb.grown hg hb.size ?_, ?_⟩
  · intro k hk
    rcases h.2.2 with ⟨rfl, _⟩ | ⟨g, cap, cur, rfl, hgb, _⟩
    · simp [Value.ownBlock] at hk
    · simp [Value.ownBlock] at hk; omega
  · rw [List.length_append]
    have : vals .u64 (ys ++ [d]) = vals .u64 ys ++ [.int .u64 (d : Int)] := by simp [vals]
    rw [this]; exact ho

theorem At.keep {wr w1 : World} {v : Value} {xs : List Nat} {ao : Option Addr} (o : Obj) (hg : (wr.alloc o).grownBy w1 v.ownBlock) (hat : At .u64 wr ao xs)
    (hne : ∀ b o, xs ≠ [] → ao = some ⟨b, o, none⟩ → v.ownBlock ≠ some b) : At .u64 w1 ao xs := by
  rcases hat with h' | ⟨b, o', h1, h2, h3⟩
  · exact .inl h'
  · by_cases hx : xs = []
    · exact .inl hx
    · refine .inr ⟨b, o', h1, Nat.lt_of_lt_of_le h2 (Nat.le_trans (by simp) hg.size), fun i hi => ?_⟩
      rw [World.cell?_of_block (w := wr) ((hg.block b (by simp; omega) (fun e => hne b o' hx h1 e.symm)).trans (Below.heap_alloc _ _ _ h2))]
      exact h3 i hi

theorem Grw.below {w wr w' : World} {v : Value} {ys : List Nat} (h : Grw w wr v ys) (hb : Below wr.heap.size wr w') : Grw w w' v ys := by
  refine ⟨h.1.trans (hb.mono h.1.size), h.2.kept (row := none) ⟨hb.os, hb.tape, hb.output, hb.size, fun k hk _ => hb.block k hk⟩ ?_⟩
  cases hv : v.ownBlock with
  | none => exact .inl rfl
  | some g => exact .inr (by simp)

end Go.Proofs.YtobloamnaemfnaaGreatDoor

namespace Go.Proofs.YtobloamnaemfnaaGreatDoor
open Go.RowKit

def U19 : Nat := 10000000000000000000

def chunkD (N j : Nat) : Nat := N / U19 ^ j % U19
def chunksOf (N k : Nat) : List Nat := (List.range k).map (chunkD N)

theorem chunks_len (N k : Nat) : (chunksOf N k).length = k := by simp [chunksOf]
theorem chunks_succ (N k : Nat) : chunksOf N (k + 1) = chunksOf N k ++ [chunkD N k] := by simp [chunksOf, List.range_succ]
theorem dg_chunks (N k j : Nat) (h : j < k) : dg (chunksOf N k) j = chunkD N j := by simp [dg, chunksOf, h]

theorem chunks_ok (N k : Nat) : Ok U19 (chunksOf N k) := by
  intro j
  by_cases h : j < k
  · rw [dg_chunks N k j h]; exact Nat.mod_lt _ (by decide)
  · rw [dg_out (by rw [chunks_len]; omega)]; decide

theorem chunks_val (N : Nat) : ∀ k, V U19 (chunkD N) k + N / U19 ^ k * U19 ^ k = N
  | 0 => by simp [V]
  | k + 1 => by
    have h := chunks_val N k
    simp only [V]
    have e1 : N / U19 ^ (k + 1) = N / U19 ^ k / U19 := by rw [Nat.pow_succ, Nat.div_div_eq_div_mul]
    have e2 := Nat.div_add_mod (N / U19 ^ k) U19
    rw [e1, Nat.pow_succ]
    rw [show chunkD N k = N / U19 ^ k % U19 from rfl]
    generalize N / U19 ^ k = M at *
    have e3 : M / U19 * (U19 ^ k * U19) = U19 * (M / U19) * U19 ^ k := by
      rw [Nat.mul_comm (U19 ^ k), ← Nat.mul_assoc, Nat.mul_comm (M / U19) U19]
    rw [e3]
    have e4 : (U19 * (M / U19) + M % U19) * U19 ^ k = M * U19 ^ k := by rw [e2]
    rw [Nat.add_mul] at e4
    omega

theorem chunks_is {N k : Nat} (h0 : N / U19 ^ k = 0) (ht : ∀ j, k = j + 1 → N / U19 ^ j ≠ 0) : Is U19 (chunksOf N k) N := by
  refine ⟨chunks_ok N k, ?_, ?_⟩
  · intro j hj
    rw [chunks_len] at hj
    rw [dg_chunks N k j (by omega)]
    unfold chunkD
    have h1 := ht j hj
    rw [hj, Nat.pow_succ, ← Nat.div_div_eq_div_mul] at h0
    have h2 : N / U19 ^ j < U19 := by
      rcases Nat.lt_or_ge (N / U19 ^ j) U19 with h | h
      · exact h
      · have := Nat.div_pos h (by decide : 0 < U19); omega
    rw [Nat.mod_eq_of_lt h2]; exact h1
  · unfold num
    rw [chunks_len, V_congr k (fun j hj => dg_chunks N k j hj)]
    have := chunks_val N k
    rw [h0] at this; omega

theorem chunks_few {N k la : Nat} (hN : N < B64 ^ la) (ht : ∀ j, k = j + 1 → N / U19 ^ j ≠ 0) : k ≤ 2 * la + 1 := by
  rcases k with _ | j
  · omega
  · have h := ht j rfl
    have h1 : U19 ^ j ≤ N := by
      rcases Nat.lt_or_ge N (U19 ^ j) with h' | h'
      · exact absurd (Nat.div_eq_of_lt h') h
      · exact h'
    have h2 : B64 ≤ U19 ^ 2 := by decide +kernel
    have h3 : B64 ^ la ≤ (U19 ^ 2) ^ la := Nat.pow_le_pow_left h2 la
    rw [← Nat.pow_mul] at h3
    rcases Nat.lt_or_ge j (2 * la) with h' | h'
    · omega
    · have := Nat.pow_le_pow_right (show 0 < U19 by decide) h'; omega

structure CutInv (w : World) (N la : Nat) (uo : Option Addr) (us : List Nat) (k : Nat) (av cv : Value) (wr : World) : Prop where
  gr : Grw w wr cv (chunksOf N k)
  rst : ∃ ao cap xs, av = .slice ao xs.length cap ∧ xs.length ≤ cap ∧ cap ≤ 10 * la + 100 ∧ At .u64 wr ao xs ∧ Ok B64 xs ∧ num B64 xs = N / U19 ^ k ∧ ∀ b o, xs ≠ [] → ao = some ⟨b, o, none⟩ → cv.ownBlock ≠ some b
  unit : At .u64 wr uo us ∧ ∀ b o, us ≠ [] → uo = some ⟨b, o, none⟩ → cv.ownBlock ≠ some b
  top : ∀ j, k = j + 1 → N / U19 ^ j ≠ 0

def CutPost (w : World) (m N : Nat) (e : Ending) (w' : World) : Prop :=
  ∃ ao cap cs, e = .returned (.slice ao (List.length cs) cap) ∧ cs.length ≤ cap ∧ At .u64 w' ao cs ∧ Is U19 cs N ∧ cs.length ≤ m ∧ Below w.heap.size w w'

def lenV : Value → Nat
  | .slice _ n _ => n
  | _ => 0

theorem u19_lt : U19 < B64 := by decide

set_option maxRecDepth 100000 in
set_option maxHeartbeats 2000000 in
theorem cut_any (ao : Option Addr) (la ca : Nat) (xs : List Nat) (w : World) (hla : la ≤ ca) (hca : ca ≤ 5000000) (hx : xs.length = la) (hax : At .u64 w ao xs) (ox : Ok B64 xs) :
    Calls Tryz.prog 155 #[.slice ao la ca] w (CutPost w (2 * la + 1) (num B64 xs)) := by
  obtain ⟨i0, hi, hz0, hz1, hz2⟩ := info_parts Tryz.infoU
  obtain ⟨N, hN⟩ : ∃ N, N = num B64 xs := ⟨_, rfl⟩
  have HN : Hid (N < B64 ^ la) := by rw [hN, ← hx]; exact num_lt ox
  have HNN : Hid (num B64 xs = N) := hN.symm
  rw [← hN]
  clear hN
  go_enter Tryz.func155, Tryz.ntmps155
  go_wp2_with fail
  refine (of_any U19 _ u19_lt).mono ?_
  rintro e w1 ⟨v, us, rfl, hou, isu, hb1⟩
  obtain ⟨uo, uc, rfl, hlu, hmu, atu⟩ := hou.shape
  have hst : CutInv w N ca uo us 0 (.slice ao la ca) (.slice none 0 0) w1 := by
    refine ⟨⟨hb1, World.ownsRow_nil _ _ _ _⟩, ⟨ao, ca, xs, by rw [hx], by omega, by omega, hax.below hb1, ox, by rw [HNN.out]; simp, fun b o _ _ => by simp [Value.ownBlock]⟩, ⟨atu, fun b o _ _ => by simp [Value.ownBlock]⟩, fun j hj => by omega⟩
  have HST : Hid (CutInv w N ca uo us 0 (.slice ao la ca) (.slice none 0 0) w1) := hst
  have HU : Hid (Is B64 us U19) := isu
  have lu : us.length ≤ 1 := by omega
  clear hst hou isu atu hax ox
  go_wp2
  go_loopw [0, 3, 5, 6, 7, 8, 9] (fun a c _ _ _ _ _ wr => ∃ k : Nat, CutInv w N ca uo us k a c wr) (fun _ c _ _ _ _ _ _ => 2 * la + 10 - lenV c)
  case atStart => exact ⟨0, HST.out⟩
  case round =>
    clear HST hb1
    obtain ⟨k, hinv⟩ := hrel
    obtain ⟨hgr, ⟨ro, rc, rs, rfl, hrc, hrca, hrat, hrok, hrn, hrne⟩, ⟨hut, hune⟩, htop⟩ := hinv
    have hkl := chunks_few HN.out htop
    obtain ⟨co, cc, rfl, hcl, hcat⟩ := hgr.at
    rw [chunks_len] at *
    by_cases h0 : num B64 rs = 0
    · have his := chunks_is (N := N) (k := k) (by rw [← hrn]; exact h0) htop
      have HIS := hide his
      have HK : Hid (k ≤ 2 * la + 1) := hkl
      have hbel := hgr.1
      have hb0 : bitsN (num B64 rs) = 0 := by rw [h0]; rfl
      clear his hkl htop hut hune hgr hrne
      go_wp2_with fail
      refine (bits_any ro rs.length rc rs _ hrc (by omega) rfl hrat hrok).mono ?_
      rintro e w' ⟨rfl, rfl⟩
      rw [hb0]
      clear hrat
      go_wp2
      go_ret
      exact ⟨co, cc, chunksOf N k, by rw [chunks_len]; rfl, by rw [chunks_len]; exact hcl, hcat, HIS.out, by rw [chunks_len]; exact HK.out, hbel⟩
    · obtain ⟨p, hp, _⟩ := bitsN_spec h0
      have hn0 : N / U19 ^ k ≠ 0 := by rw [← hrn]; exact h0
      have HTOP : Hid (∀ j, k + 1 = j + 1 → N / U19 ^ j ≠ 0) := by
        intro j hj
        rw [show j = k by omega]
        exact hn0
      have HGR := hide hgr
      have HRN := hide hrn
      have HUNE := hide hune
      have hsz := hgr.1.size
      have hgl := hgr.2.lt
      have HGL := hide hgl
      have huu : num B64 us ≠ 0 := by rw [HU.out.2.2]; decide
      have HCAT := hide hcat
      clear htop hune hgr hrne h0 hgl hcat hn0
      go_wp2_with fail
      refine (bits_any ro rs.length rc rs _ hrc (by omega) rfl hrat hrok).mono ?_
      rintro e w' ⟨rfl, rfl⟩
      rw [hp]
      go_wp2_with fail
      refine (divmod_any ro uo rs.length rc us.length uc rs us _ hrc (by omega) hlu (by omega) rfl rfl hrat hut hrok HU.out.1 huu).mono ?_
      rintro e w4 ⟨v1, rq, v2, rr, rfl, hq, hr, iq, ir, hb4, _⟩
      rw [HU.out.2.2, HRN.out, Nat.div_div_eq_div_mul, ← Nat.pow_succ] at iq
      rw [HU.out.2.2, HRN.out] at ir
      obtain ⟨qo, qc, rfl, hlq, hmq, atq⟩ := hq.shape
      obtain ⟨eo, ec, rfl, hle, hme, ate⟩ := hr.shape
      have hu4 := hut.below hb4
      have hel : (trimmed rr).length ≤ 1 := by
        refine trimmed_small (t := 1) ?_
        rw [ir.2.2, Nat.pow_one]
        exact Nat.lt_trans (Nat.mod_lt _ (by decide)) u19_lt
      have HQB : Hid (∀ b o, rq ≠ [] → qo = some ⟨b, o, none⟩ → wr.heap.size ≤ b ∧ b < w4.heap.size) := by
        intro b o hx' e
        rcases hq with ⟨h1, h2⟩ | ⟨g, full, h1, h2, h3, _⟩
        · exact absurd h2 hx'
        · simp only [Value.slice.injEq] at h1
          rw [e] at h1
          simp only [Option.some.injEq, Addr.mk.injEq] at h1
          have := h3.lt
          omega
      clear hq hr hrat hut
      go_wp2_with fail
      refine (uint_any eo rr.length ec rr _ hle (by omega) rfl ate).mono ?_
      rintro e w' ⟨rfl, rfl⟩
      rw [if_pos hel, ir.2.2, show N / U19 ^ k % U19 = chunkD N k from rfl, decide_eq_true hel]
      obtain ⟨d, hd⟩ : ∃ d, d = chunkD N k := ⟨_, rfl⟩
      rw [← hd]
      have hg4 := HGR.out.below hb4
      have hown := hg4.2
      rw [chunks_len] at hown
      have HG4 := hide hg4
      have HD : Hid (d = chunkD N k) := hd
      have hs4 := hb4.size
      have HIQ := hide iq
      clear hd ir hel ate hle hme HGR hg4 iq
      go_wp2_with (at_builtin; refine wpList_append_lies _ rfl _ _ 118 rfl w.heap.size 134 i0 (.int .u64 0) 1 8 Tryz.underlying118 hi hz0 hz1 hz2 rfl (by decide) _ _ _ rfl (hown.alloc _) ⟨w4.heap.size, 0, none⟩ 1 1 [.int .u64 (d : Int)] rfl rfl ?c1A ?c2A (by omega) ?c3A ?c4A ?c5A (w4.heap.size + 1) (by simp) ?_)
      try case c1A => exact new_cell w4 _ _
      case c2A => first | exact one_one _ _ | rfl
      case c3A => unfold maxLen; omega
      case c4A => omega
      case c5A => first | (simp; omega) | omega
      intro g cap w5 hown' hgrow hlies hlt
      have hne4 : ∀ b, (b < wr.heap.size → (Value.slice co k cc).ownBlock ≠ some b) → b < w4.heap.size → g ≠ b := by
        intro b hb1 hb2 e
        subst e
        rcases hlies with h | h
        · have := (HGL.out g h).2
          exact hb1 this h
        · omega
      have hst : CutInv w N ca uo us (k + 1) (.slice qo rq.length qc) (.slice (some ⟨g, 0, none⟩) (k + 1) cap) w5 := by
        have hgs := HG4.out.step _ (by rw [chunks_len]; exact hown') hgrow
        rw [HD.out, ← chunks_succ] at hgs
        refine ⟨hgs, ⟨qo, qc, rq, rfl, hlq, by omega, ?_, HIQ.out.1, HIQ.out.2.2, ?_⟩, ⟨?_, ?_⟩, HTOP.out⟩
        · refine At.keep _ hgrow atq (fun b o hx' e h => ?_)
          have h1 := HQB.out b o hx' e
          have := (HGL.out b h).2
          omega
        · intro b o hx' e
          have h1 := HQB.out b o hx' e
          show some g ≠ some b
          intro h2
          injection h2 with h2
          exact hne4 b (fun h => absurd h1.1 (by omega)) h1.2 h2
        · exact At.keep _ hgrow hu4 (fun b o hx' e => HUNE.out b o hx' e)
        · intro b o hx' e
          show some g ≠ some b
          intro h2
          injection h2 with h2
          have h3 : b < w4.heap.size := by
            rcases hu4 with h | ⟨b', o', h1, h4, _⟩
            · exact absurd h hx'
            · rw [e] at h1; simp only [Option.some.injEq, Addr.mk.injEq] at h1; omega
          exact hne4 b (fun _ => HUNE.out b o hx' e) h3 h2
      have HST := hide hst
      clear hst hown hown' hgrow hlies hlt hne4 atq hu4
      go_wp2
      go_roundw
      case rel => exact ⟨k + 1, HST.out⟩
      case measure => simp [lenV]; omega

end Go.Proofs.YtobloamnaemfnaaGreatDoor

namespace Go.Proofs.YtobloamnaemfnaaGreatDoor
open Go.RowKit

theorem bld_size : (Tryz.prog.info? 157).map (·.size) = some 2 := by kernel_rfl
theorem bld_lies : liesAt Tryz.prog Tryz.prog.depth 157 (2 / Tryz.prog.cellsOf 157) 0 157 1 = true := by kernel_rfl
theorem byte_info : (Tryz.prog.info? 5).map (fun i => (i.zero, i.size, i.bytes)) = some (some (.int .u8 0), 1, 1) := by kernel_rfl

set_option maxRecDepth 100000 in
set_option maxHeartbeats 1000000 in
theorem ccheck_used (b : Nat) (w : World) (h0 : w.cell? ⟨b, 0, none⟩ = some (.pointer (some ⟨b, 0, none⟩))) :
    Calls Tryz.prog 196 #[.pointer (some ⟨b, 0, none⟩)] w fun e w' => e = .returned (.tuple #[]) ∧ w' = w := by
  obtain ⟨j, hj, _⟩ := Option.map_eq_some_iff.1 bld_size
  have key := Lib.run_neq_ptr_same (P := Tryz.prog) w ⟨b, 0, none⟩ Tryz.underlying155 hj
  go_enter Tryz.func196, Tryz.ntmps196
  go_wp2
  go_end0
  exact ⟨rfl, rfl⟩

set_option maxRecDepth 100000 in
set_option maxHeartbeats 1000000 in
theorem ccheck_fresh (b : Nat) (w : World) (h0 : w.cell? ⟨b, 0, none⟩ = some (.pointer none)) (hsh : w.shape? b = some (157, 2)) (hfz : w.frozen? ⟨b, 0, none⟩ = false) :
    Calls Tryz.prog 196 #[.pointer (some ⟨b, 0, none⟩)] w fun e w' => e = .returned (.tuple #[]) ∧ w' = w.setCell ⟨b, 0, none⟩ (.pointer (some ⟨b, 0, none⟩)) := by
  obtain ⟨j, hj, hjs⟩ := Option.map_eq_some_iff.1 bld_size
  have k1 := Lib.run_to_unsafe (P := Tryz.prog) w ⟨b, 0, none⟩ Tryz.underlying155 Tryz.underlying230 hj (by rw [hjs]; decide) hsh (Nat.zero_lt_succ 1)
  have k2 := Lib.run_from_unsafe (P := Tryz.prog) w ⟨b, 0, none⟩ Tryz.underlying230 Tryz.underlying155 hj hsh bld_lies
  go_enter Tryz.func196, Tryz.ntmps196
  go_wp2
  rw [run_callFunc_extern Tryz.func229 (by kernel_rfl) (by kernel_rfl) (by kernel_rfl) (e := Extern.AbiNoEscape.same) (by kernel_rfl), Lib.run_noEscape]
  simp only [Result.andThen]
  rw [Oper.upon_value]
  go_wp2
  go_end0
  exact ⟨rfl, rfl⟩

theorem ccheck_any (B b : Nat) (bs : List Value) (w : World) (h : Lib.IsBuilder 157 5 B b bs w) :
    Calls Tryz.prog 196 #[.pointer (some ⟨b, 0, none⟩)] w fun e w' => e = .returned (.tuple #[]) ∧ Lib.BuilderAt 157 5 B b (.pointer (some ⟨b, 0, none⟩)) bs w' ∧ Below B w w' := by
  rcases h with h | h
  · refine (ccheck_fresh b w h.cell0 h.shape h.frozen0).mono ?_
    rintro e w' ⟨rfl, rfl⟩
    exact ⟨rfl, h.used _, (Below.refl B w).setCell (p := ⟨b, 0, none⟩) h.1 _⟩
  · refine (ccheck_used b w h.cell0).mono ?_
    rintro e w' ⟨rfl, rfl⟩
    exact ⟨rfl, h, Below.refl B _⟩

set_option maxRecDepth 100000 in
set_option maxHeartbeats 2000000 in
theorem writeString_any (B b : Nat) (bs : List Value) (s : ByteArray) (w : World) (h : Lib.IsBuilder 157 5 B b bs w) (hlen : bs.length + s.size ≤ 140737488355328) (hBw : B ≤ w.heap.size) :
    Calls Tryz.prog 156 #[.pointer (some ⟨b, 0, none⟩), .string s] w fun e w' => e = .returned (.tuple #[.int .i64 s.size, .nilIface]) ∧ Lib.BuilderAt 157 5 B b (.pointer (some ⟨b, 0, none⟩)) (bs ++ Lib.strCells s) w' ∧ Below B w w' := by
  obtain ⟨i0, hi, hz0, hz1, hz2⟩ := info_parts byte_info
  go_enter Tryz.func156, Tryz.ntmps156
  go_wp2_with fail
  refine (ccheck_any B b bs _ h).mono ?_
  rintro e w1 ⟨rfl, h1, hb1⟩
  have c0 := h1.cell0
  obtain ⟨hB, v, hbk, hown, hne⟩ := h1
  have c1 : w1.cell? ⟨b, 1, none⟩ = some v := by rw [Lib.cell_of_heap hbk]; rfl
  have hlt := lt_of_block hbk
  have hsz := hb1.size
  go_wp2_with (at_builtin; refine Lib.wpList_append_own_string _ rfl _ _ 50 9 rfl B 5 i0 Tryz.underlying50 Tryz.underlying9 hi hz0 hz1 hz2 _ _ _ rfl hown s rfl ?c3 ?c4 ?c5 ?_)
  case c3 => unfold maxLen; omega
  case c4 => omega
  case c5 => omega
  intro v' w2 hown' hgrow _
  have hb2 : w2.heap[b]? = some (.cells #[.pointer (some ⟨b, 0, none⟩), v] 157 (0, 0)) := by
    rw [hgrow.block b hlt (fun e => hne e.symm)]; exact hbk
  have d0 : w2.cell? ⟨b, 0, none⟩ = some (.pointer (some ⟨b, 0, none⟩)) := by rw [Lib.cell_of_heap hb2]; rfl
  have d1 : w2.cell? ⟨b, 1, none⟩ = some v := by rw [Lib.cell_of_heap hb2]; rfl
  have f1 : w2.frozen? ⟨b, 1, none⟩ = false := Lib.frozen_of_heap hb2 1
  obtain ⟨ao, n', cap, rfl⟩ : ∃ ao n' cap, v' = .slice ao n' cap := by
    rcases hown'.2 with ⟨hv, _⟩ | ⟨g, cap, cur, hv, _⟩
    · exact ⟨_, _, _, hv⟩
    · exact ⟨_, _, _, hv⟩
  go_wp2
  go_ret2
  refine ⟨rfl, Lib.BuilderAt.put hB hb2 (bs' := bs ++ Lib.strCells s) (by simpa [Lib.strCells_length] using hown') (by decide), ?_⟩
  exact (hb1.grown hgrow (by omega) (fun k hk => (hown.lt k hk).1)).setCell (p := ⟨b, 1, none⟩) hB _

end Go.Proofs.YtobloamnaemfnaaGreatDoor
