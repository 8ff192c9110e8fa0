/-
  strconv.FormatUint to the base 10 at this dump: the number's decimal digits.
  (*strings.Builder).WriteString at this dump: what it leaves in a builder.
  What whole.Text does: the number's decimal digits.
  What the rows' list of package variables gives, and a world that holds them.
-/
import Derived.Test.YtifpacgacbpalaaGreatDoorShelf
import Derived.Test.YtifpacgacbpalaaGreatDoorOwn
import Derived.Lib.AppendIntMem
import Derived.Laws.IdiomStrings
import Derived.Lib.Builder
import Derived.Lib.AppendStr
import Derived.Lib.UnsafeStr
import Derived.Laws.Externs
import Derived.Test.YtifpacgacbpalaaGreatDoorZQ17
import Derived.Test.YtifpacgacbpalaaGreatDoorZSM
import Derived.Test.YtifpacgacbpalaaGreatDoorRows
import Derived.Lib.LaidTab
import Derived.Deep.DeepHandedRow
namespace Go.Proofs.YtifpacgacbpalaaGreatDoor
open Go.RowKit Go.Sort Go.Lib

/-- The library's table of powers of 10 holds what its text lays. -/
def Tab (w : World) : Prop := Lib.TabIs Tryz.prog w "internal/strconv.uint64pow10" .u64 Lib.pow10Tab

theorem tab_some : (Tryz.prog.globalNamed "internal/strconv.uint64pow10").isSome = true := by kernel_rfl
theorem tab_glob : ∃ g, Tryz.prog.globalNamed "internal/strconv.uint64pow10" = some g := Option.isSome_iff_exists.1 tab_some

theorem Tab.below {w w' : World} (h : Tab w) (hb : Below w.heap.size w w') : Tab w' := by
  obtain ⟨g, hg⟩ := tab_glob
  unfold Tab Lib.TabIs World.var? at *
  rw [hg] at h ⊢
  simp only [Option.bind_some] at h ⊢
  have hlt : g < w.heap.size := by
    rcases Nat.lt_or_ge g w.heap.size with h' | h'
    · exact h'
    · rw [Array.getElem?_eq_none h'] at h; cases h
  rw [hb.block g hlt]
  exact h

theorem Tab.alloc {w : World} (h : Tab w) (o : Obj) : Tab (w.alloc o) := h.below ((Below.refl _ _).alloc (Nat.le_refl _) o)

theorem below_grow (w : World) (n : Nat) (os : Array Obj) : Below w.heap.size w (grow (w.drewN n) os) := by
  refine ⟨rfl, rfl, rfl, ?_, fun k hk => ?_⟩
  · show w.heap.size ≤ (w.heap ++ os).size
    rw [Array.size_append]; omega
  · show (w.heap ++ os)[k]? = w.heap[k]?
    rw [Array.getElem?_append_left hk]

theorem arr24 : Tryz.prog.arrayLen 161 = 24 := by simp [Program.arrayLen, Tryz.underlying161]

set_option maxRecDepth 100000 in
set_option maxHeartbeats 2000000 in
theorem ifmt_big (u : Nat) (h1 : 100 ≤ u) (hu : u < 18446744073709551616) (w : World) (htab : Tab w) :
    Calls Tryz.prog 132 #[.int .u64 (u : Int), .int .i64 10] w fun e w' => e = .returned (.string ⟨(Lib.decDigits u).toArray⟩) ∧ Below w.heap.size w w' := by
  have hnd : Lib.nDigits u ≤ 20 := by have := Lib.numDigits_eq u (by omega) hu; split at this <;> omega
  have hH0 := Lib.holds_zero0 w 161 (Lib.nDigits u) (by omega)
  have hfmt := Tryz.internal_strconv_formatBase10 w.heap.size 0 24 u (Array.replicate (Lib.nDigits u) 0) (w.alloc (.cells Lib.zeros24 161)) hH0 (by rw [Array.size_replicate]; exact Lib.lt_pow_nDigits u) hu (by rw [Array.size_replicate]; omega)
  rw [Array.size_replicate] at hfmt
  have nd := Tryz.internal_strconv_numDigits u (by omega) hu (w.alloc (.cells Lib.zeros24 161)) (htab.alloc _)
  have hsl : ∀ W, (Instr.sliceAt 161 (.pointer (some ⟨w.heap.size, 0, none⟩)) none (some (.int .i64 (Lib.nDigits u : Int))) none).run Tryz.prog W = .ok (.slice (some ⟨w.heap.size, 0, none⟩) (Lib.nDigits u) 24) W := fun W => by
    rw [run_sliceAt_array_h W 161 ⟨w.heap.size, 0, none⟩ (by simp [Program.arrayLen, Program.elem, Tryz.underlying161]) .i64 (Lib.nDigits u : Int) (by omega) (by rw [arr24]; omega)]
    go_simp
  have hlt : ¬ (u : Int) < 100 := by omega
  have HH : Hid (Holds (fun (b : UInt8) => Value.int .u8 (b.toNat : Int)) (w.alloc (.cells Lib.zeros24 161)) w.heap.size 0 (Array.replicate (Lib.nDigits u) (0 : UInt8))) := hH0
  have HF : Hid (Calls Tryz.prog 145 #[.slice (some ⟨w.heap.size, 0, none⟩) (Lib.nDigits u) 24, .int .u64 (u : Int)] (w.alloc (.cells Lib.zeros24 161)) fun e w' =>
      e = .returned (.tuple #[]) ∧ ∃ (n v' : Nat) (dk : Array UInt8), w' = (putRow (fun (b : UInt8) => Value.int .u8 (b.toNat : Int)) (w.alloc (.cells Lib.zeros24 161)) w.heap.size 0 dk).drewN n ∧ Lib.FmtInv (Lib.nDigits u) u 0 v' dk) := hfmt
  have HN : Hid (Calls Tryz.prog 144 #[.int .u64 (u : Int)] (w.alloc (.cells Lib.zeros24 161)) fun e w' => e = .returned (.int .i64 (Lib.nDigits u)) ∧ w' = (w.alloc (.cells Lib.zeros24 161))) := nd
  clear hH0 hfmt nd htab
  go_enter Tryz.func132, Tryz.ntmps132
  go_wp2_with fail
  refine HN.out.mono ?_
  rintro e w' ⟨rfl, rfl⟩
  go_wp2_with fail
  refine HF.out.mono ?_
  rintro e w' ⟨rfl, n, v', dk, rfl, hF⟩
  have hcv : (convert 46 9 (.slice (some ⟨w.heap.size, 0, none⟩) (Lib.nDigits u) 24)).run Tryz.prog ((putRow (fun (b : UInt8) => Value.int .u8 (b.toNat : Int)) (w.alloc (.cells Lib.zeros24 161)) w.heap.size 0 dk).drewN n) = .ok (.string ⟨(Lib.decDigits u).toArray⟩) ((putRow (fun (b : UInt8) => Value.int .u8 (b.toNat : Int)) (w.alloc (.cells Lib.zeros24 161)) w.heap.size 0 dk).drewN n) := by
    have h := run_convert_bytes_back (P := Tryz.prog) ((putRow (fun (b : UInt8) => Value.int .u8 (b.toNat : Int)) (w.alloc (.cells Lib.zeros24 161)) w.heap.size 0 dk).drewN n) 46 9 5 ⟨w.heap.size, 0, none⟩ 24 (Lib.decDigits u) Tryz.underlying46 Tryz.underlying5 Tryz.underlying9 (fun j hj => by
      rw [Lib.row_is_numeral hF j hj, Lib.add_plain, World.cell?_drewN]
      exact cell?_putRow (fun (b : UInt8) => Value.int .u8 (b.toNat : Int)) _ w.heap.size 0 _ dk HH.out (by rw [hF.size, Array.size_replicate]) j (by rw [hF.size]; rw [Lib.decDigits_length] at hj; exact hj))
    rw [Lib.decDigits_length] at h
    exact h
  obtain ⟨os, he⟩ : ∃ os, (putRow (fun (b : UInt8) => Value.int .u8 (b.toNat : Int)) (w.alloc (.cells Lib.zeros24 161)) w.heap.size 0 dk).drewN n = grow (w.drewN n) os := by
    rw [alloc_eq_grow]
    obtain ⟨os', _, e⟩ := putRow_grow_new (fun (b : UInt8) => Value.int .u8 (b.toNat : Int)) w #[.cells Lib.zeros24 161] w.heap.size 0 dk (Nat.le_refl _)
    exact ⟨os', by rw [e]; rfl⟩
  have HE := @id (Hid _) he
  clear he
  go_wp2
  go_ret
  refine ⟨rfl, ?_⟩
  rw [show (putRow (fun (b : UInt8) => Value.int .u8 (b.toNat : Int)) (w.alloc (.cells Lib.zeros24 161)) w.heap.size 0 dk).drewN n = grow (w.drewN n) os from HE]
  exact below_grow w n os

set_option maxRecDepth 100000 in
set_option maxHeartbeats 400000 in
theorem ifmt_small (u : Nat) (h1 : u < 100) (w : World) :
    Calls Tryz.prog 132 #[.int .u64 (u : Int), .int .i64 10] w fun e w' => e = .returned (.string ⟨(Lib.decDigits u).toArray⟩) ∧ Below w.heap.size w w' := by
  have hlt : (u : Int) < 100 := by omega
  have S := Tryz.internal_strconv_small u h1
  go_enter Tryz.func132, Tryz.ntmps132
  go_wp2_with fail
  refine (S _).mono ?_
  rintro e w' ⟨rfl, rfl⟩
  go_wp2
  go_ret
  exact ⟨rfl, Below.refl _ _⟩

/-- strconv.FormatUint at the base 10. -/
theorem fmtUint_any (u : Nat) (hu : u < 18446744073709551616) (w : World) (htab : Tab w) :
    Calls Tryz.prog 96 #[.int .u64 (u : Int), .int .i64 10] w fun e w' => e = .returned (.string ⟨(Lib.decDigits u).toArray⟩) ∧ Below w.heap.size w w' := by
  have I : Calls Tryz.prog 132 #[.int .u64 (u : Int), .int .i64 10] w fun e w' => e = .returned (.string ⟨(Lib.decDigits u).toArray⟩) ∧ Below w.heap.size w w' := by
    by_cases h : u < 100
    · exact ifmt_small u h w
    · exact ifmt_big u (by omega) hu w htab
  go_enter Tryz.func96, Tryz.ntmps96
  go_wp2_with fail
  refine I.mono ?_
  rintro e w' ⟨rfl, hb⟩
  go_wp2
  go_ret
  exact ⟨rfl, hb⟩

end Go.Proofs.YtifpacgacbpalaaGreatDoor

namespace Go.Proofs.YtifpacgacbpalaaGreatDoor
open Go.RowKit

theorem bld_size : (Tryz.prog.info? 115).map (·.size) = some 2 := by kernel_rfl
theorem bld_lies : liesAt Tryz.prog Tryz.prog.depth 115 (2 / Tryz.prog.cellsOf 115) 0 115 1 = true := by kernel_rfl
theorem byte_info : (Tryz.prog.info? 5).map (fun i => (i.zero, i.size, i.bytes)) = some (some (.int .u8 0), 1, 1) := by kernel_rfl

set_option maxRecDepth 100000 in
set_option maxHeartbeats 1000000 in
/-- A builder that was written before knows its own address already. -/
theorem ccheck_used (b : Nat) (w : World) (h0 : w.cell? ⟨b, 0, none⟩ = some (.pointer (some ⟨b, 0, none⟩))) :
    Calls Tryz.prog 131 #[.pointer (some ⟨b, 0, none⟩)] w fun e w' => e = .returned (.tuple #[]) ∧ w' = w := by
  obtain ⟨j, hj, _⟩ := Option.map_eq_some_iff.1 bld_size
  have key := Lib.run_neq_ptr_same (P := Tryz.prog) w ⟨b, 0, none⟩ Tryz.underlying113 hj
  go_enter Tryz.func131, Tryz.ntmps131
  go_wp2
  go_end0
  exact ⟨rfl, rfl⟩

set_option maxRecDepth 100000 in
set_option maxHeartbeats 1000000 in
/-- A fresh builder learns its own address. -/
theorem ccheck_fresh (b : Nat) (w : World) (h0 : w.cell? ⟨b, 0, none⟩ = some (.pointer none)) (hsh : w.shape? b = some (115, 2)) (hfz : w.frozen? ⟨b, 0, none⟩ = false) :
    Calls Tryz.prog 131 #[.pointer (some ⟨b, 0, none⟩)] w fun e w' => e = .returned (.tuple #[]) ∧ w' = w.setCell ⟨b, 0, none⟩ (.pointer (some ⟨b, 0, none⟩)) := by
  obtain ⟨j, hj, hjs⟩ := Option.map_eq_some_iff.1 bld_size
  have k1 := Lib.run_to_unsafe (P := Tryz.prog) w ⟨b, 0, none⟩ Tryz.underlying113 Tryz.underlying173 hj (by rw [hjs]; decide) hsh (Nat.zero_lt_succ 1)
  have k2 := Lib.run_from_unsafe (P := Tryz.prog) w ⟨b, 0, none⟩ Tryz.underlying173 Tryz.underlying113 hj hsh bld_lies
  go_enter Tryz.func131, Tryz.ntmps131
  go_wp2
  rw [run_callFunc_extern Tryz.func156 (by kernel_rfl) (by kernel_rfl) (by kernel_rfl) (e := Extern.AbiNoEscape.same) (by kernel_rfl), Lib.run_noEscape]
  simp only [Result.andThen]
  rw [Oper.upon_value]
  go_wp2
  go_end0
  exact ⟨rfl, rfl⟩

theorem ccheck_any (B b : Nat) (bs : List Value) (w : World) (h : Lib.IsBuilder 115 5 B b bs w) :
    Calls Tryz.prog 131 #[.pointer (some ⟨b, 0, none⟩)] w fun e w' => e = .returned (.tuple #[]) ∧ Lib.BuilderAt 115 5 B b (.pointer (some ⟨b, 0, none⟩)) bs w' ∧ Below B w w' := by
  rcases h with h | h
  · refine (ccheck_fresh b w h.cell0 h.shape h.frozen0).mono ?_
    rintro e w' ⟨rfl, rfl⟩
    exact ⟨rfl, h.used _, (Below.refl B w).setCell (p := ⟨b, 0, none⟩) h.1 _⟩
  · refine (ccheck_used b w h.cell0).mono ?_
    rintro e w' ⟨rfl, rfl⟩
    exact ⟨rfl, h, Below.refl B _⟩

set_option maxRecDepth 100000 in
set_option maxHeartbeats 2000000 in
theorem writeString_any (B b : Nat) (bs : List Value) (s : ByteArray) (w : World) (h : Lib.IsBuilder 115 5 B b bs w) (hlen : bs.length + s.size ≤ 140737488355328) (hBw : B ≤ w.heap.size) :
    Calls Tryz.prog 95 #[.pointer (some ⟨b, 0, none⟩), .string s] w fun e w' => e = .returned (.tuple #[.int .i64 s.size, .nilIface]) ∧ Lib.BuilderAt 115 5 B b (.pointer (some ⟨b, 0, none⟩)) (bs ++ Lib.strCells s) w' ∧ Below B w w' := by
  obtain ⟨i0, hi, hz0, hz1, hz2⟩ := info_parts byte_info
  go_enter Tryz.func95, Tryz.ntmps95
  go_wp2_with fail
  refine (ccheck_any B b bs _ h).mono ?_
  rintro e w1 ⟨rfl, h1, hb1⟩
  have c0 := h1.cell0
  obtain ⟨hB, v, hbk, hown, hne⟩ := h1
  have c1 : w1.cell? ⟨b, 1, none⟩ = some v := by rw [Lib.cell_of_heap hbk]; rfl
  have hlt := lt_of_block hbk
  have hsz := hb1.size
  go_wp2_with (at_builtin; refine Lib.wpList_append_own_string _ rfl _ _ 46 9 rfl B 5 i0 Tryz.underlying46 Tryz.underlying9 hi hz0 hz1 hz2 _ _ _ rfl hown s rfl ?c3 ?c4 ?c5 ?_)
  case c3 => unfold maxLen; omega
  case c4 => omega
  case c5 => omega
  intro v' w2 hown' hgrow _
  have hb2 : w2.heap[b]? = some (.cells #[.pointer (some ⟨b, 0, none⟩), v] 115 (0, 0)) := by
    rw [hgrow.block b hlt (fun e => hne e.symm)]; exact hbk
  have d0 : w2.cell? ⟨b, 0, none⟩ = some (.pointer (some ⟨b, 0, none⟩)) := by rw [Lib.cell_of_heap hb2]; rfl
  have d1 : w2.cell? ⟨b, 1, none⟩ = some v := by rw [Lib.cell_of_heap hb2]; rfl
  have f1 : w2.frozen? ⟨b, 1, none⟩ = false := Lib.frozen_of_heap hb2 1
  obtain ⟨ao, n', cap, rfl⟩ : ∃ ao n' cap, v' = .slice ao n' cap := by
    rcases hown'.2 with ⟨hv, _⟩ | ⟨g, cap, cur, hv, _⟩
    · exact ⟨_, _, _, hv⟩
    · exact ⟨_, _, _, hv⟩
  go_wp2
  go_ret2
  refine ⟨rfl, Lib.BuilderAt.put hB hb2 (bs' := bs ++ Lib.strCells s) (by simpa [Lib.strCells_length] using hown') (by decide), ?_⟩
  exact (hb1.grown hgrow (by omega) (fun k hk => (hown.lt k hk).1)).setCell (p := ⟨b, 1, none⟩) hB _

end Go.Proofs.YtifpacgacbpalaaGreatDoor

namespace Go.Proofs.YtifpacgacbpalaaGreatDoor
open Go.RowKit

/-- The m lowest decimal digits of r, noughts ahead of them too. -/
def padD : Nat → Nat → List UInt8
  | 0, _ => []
  | m + 1, r => padD m (r / 10) ++ [UInt8.ofNat (48 + r % 10)]

theorem dd_append : ∀ (m q r : Nat), q ≠ 0 → r < 10 ^ m → Lib.decDigits (q * 10 ^ m + r) = Lib.decDigits q ++ padD m r
  | 0, q, r, _, hr => by
    have : r = 0 := by simpa using hr
    subst this; simp [padD]
  | m + 1, q, r, hq, hr => by
    have hp : 0 < 10 ^ m := Nat.pow_pos (by omega)
    have h1 : 1 * 10 ^ m ≤ q * 10 ^ m := Nat.mul_le_mul_right _ (by omega)
    have e0 : q * 10 ^ (m + 1) = q * 10 ^ m * 10 := by rw [Nat.pow_succ, Nat.mul_assoc]
    have e1 : (q * 10 ^ (m + 1) + r) / 10 = q * 10 ^ m + r / 10 := by rw [e0]; omega
    have e2 : (q * 10 ^ (m + 1) + r) % 10 = r % 10 := by rw [e0]; omega
    have hb : ¬ q * 10 ^ (m + 1) + r < 10 := by rw [e0]; omega
    rw [dd_big hb, e1, e2, dd_append m q (r / 10) hq (by rw [Nat.pow_succ] at hr; omega)]
    simp [padD]

theorem padD_zero : ∀ m, padD m 0 = List.replicate m (48 : UInt8)
  | 0 => rfl
  | m + 1 => by
    show padD m (0 / 10) ++ [UInt8.ofNat (48 + 0 % 10)] = _
    rw [Nat.zero_div, padD_zero m, List.replicate_succ']
    rfl

theorem padD_eq : ∀ (m r : Nat), 1 ≤ m → r < 10 ^ m → padD m r = List.replicate (m - (Lib.decDigits r).length) (48 : UInt8) ++ Lib.decDigits r
  | 0, _, h, _ => absurd h (by omega)
  | m + 1, r, _, hr => by
    by_cases h : r < 10
    · show padD m (r / 10) ++ [UInt8.ofNat (48 + r % 10)] = _
      rw [Nat.div_eq_of_lt h, padD_zero, Nat.mod_eq_of_lt h, Lib.decDigits_one h]
      simp
    · have hm : 1 ≤ m := by
        rcases m with _ | m
        · simp at hr; omega
        · omega
      show padD m (r / 10) ++ [UInt8.ofNat (48 + r % 10)] = _
      rw [padD_eq m (r / 10) hm (by rw [Nat.pow_succ] at hr; omega), dd_big h]
      simp

theorem nd_lower : ∀ k u : Nat, 1 ≤ u → Lib.nDigits u = k + 1 → 10 ^ k ≤ u
  | 0, u, h, _ => by simpa using h
  | k + 1, u, h, hn => by
    by_cases h10 : u < 10
    · rw [Lib.nDigits_small h10] at hn; omega
    · rw [Lib.nDigits_big h10] at hn
      have := nd_lower k (u / 10) (by omega) (by omega)
      rw [Nat.pow_succ]; omega

theorem nd_le {u t : Nat} (h : u < 10 ^ t) (ht : 1 ≤ t) : Lib.nDigits u ≤ t := by
  by_cases h0 : u = 0
  · subst h0; rw [Lib.nDigits_small (by omega)]; exact ht
  · rcases hn : Lib.nDigits u with _ | k
    · omega
    · have := nd_lower k u (by omega) hn
      rcases Nat.lt_or_ge k t with h' | h'
      · omega
      · have := Nat.pow_le_pow_right (show 0 < 10 by omega) h'; omega

theorem text_len {N la : Nat} (h : N < B64 ^ la) (j : Nat) : (Lib.decDigits (N / U19 ^ j)).length ≤ 20 * la + 1 := by
  rw [Lib.decDigits_length]
  refine nd_le (t := 20 * la + 1) ?_ (by omega)
  have h1 : B64 ^ la ≤ (10 ^ 20) ^ la := Nat.pow_le_pow_left (by decide +kernel) la
  rw [← Nat.pow_mul] at h1
  have h2 := Nat.div_le_self N (U19 ^ j)
  have h3 : (10 : Nat) ^ (20 * la) ≤ 10 ^ (20 * la + 1) := Nat.pow_le_pow_right (by omega) (by omega)
  omega

theorem repeat0 (c : Nat) : Lib.repeatL [48] c = List.replicate c (48 : UInt8) := by
  induction c with
  | zero => rfl
  | succ c ih => rw [Lib.repeatL, ih]; rfl

theorem chunk_text {N k : Nat} (h : N / U19 ^ (k + 1) ≠ 0) : Lib.decDigits (N / U19 ^ k) = Lib.decDigits (N / U19 ^ (k + 1)) ++ (List.replicate (19 - (Lib.decDigits (chunkD N k)).length) (48 : UInt8) ++ Lib.decDigits (chunkD N k)) := by
  have hU : U19 = 10 ^ 19 := by decide +kernel
  have e : N / U19 ^ k = N / U19 ^ (k + 1) * 10 ^ 19 + chunkD N k := by
    unfold chunkD
    rw [Nat.pow_succ, ← Nat.div_div_eq_div_mul]
    have := Nat.div_add_mod (N / U19 ^ k) U19
    rw [← hU, Nat.mul_comm]; omega
  have hlt : chunkD N k < 10 ^ 19 := by rw [← hU]; exact Nat.mod_lt _ (by decide)
  rw [← padD_eq 19 _ (by omega) hlt, ← dd_append 19 _ _ h hlt, ← e]

theorem chunk_dd {N k : Nat} : (Lib.decDigits (chunkD N k)).length ≤ 19 := by
  rw [Lib.decDigits_length]
  refine nd_le ?_ (by omega)
  have hU : U19 = 10 ^ 19 := by decide +kernel
  rw [← hU]; exact Nat.mod_lt _ (by decide)

theorem chunk_lt (N k : Nat) : chunkD N k < 18446744073709551616 := Nat.lt_trans (Nat.mod_lt _ (by decide)) (show U19 < 18446744073709551616 by decide)

/-- A builder stays, where what it lies in stays. -/
theorem bld_below {T e : TypeId} {B b : Nat} {p : Value} {bs : List Value} {w w' : World} (h : Lib.BuilderAt T e B b p bs w) (hb : Below w.heap.size w w') : Lib.BuilderAt T e B b p bs w' := by
  obtain ⟨h1, v, h2, h3, h4⟩ := h
  refine ⟨h1, v, ?_, h3.kept (row := none) ⟨hb.os, hb.tape, hb.output, hb.size, fun k hk _ => hb.block k hk⟩ ?_, h4⟩
  · rw [hb.block b (lt_of_block h2)]; exact h2
  · cases hv : v.ownBlock with
    | none => exact .inl rfl
    | some g => exact .inr (by simp)

theorem bld_new (w : World) : Lib.IsBuilder 115 5 w.heap.size w.heap.size [] (w.alloc (.cells #[.pointer none, .slice none 0 0] 115)) :=
  .inl ⟨Nat.le_refl _, .slice none 0 0, heap_alloc_new _ _, World.ownsRow_nil _ _ _ _, by simp [Value.ownBlock]⟩

set_option maxRecDepth 100000 in
set_option maxHeartbeats 2000000 in
theorem text_any (ao : Option Addr) (la ca : Nat) (xs : List Nat) (w : World) (hla : la ≤ ca) (hca : ca ≤ 5000000) (hx : xs.length = la) (hax : At .u64 w ao xs) (ox : Ok B64 xs) (htab : Tab w) :
    Calls Tryz.prog 69 #[.slice ao la ca] w fun e w' => e = .returned (.string ⟨(Lib.decDigits (num B64 xs)).toArray⟩) ∧ Below w.heap.size w w' := by
  obtain ⟨N, hN⟩ : ∃ N, N = num B64 xs := ⟨_, rfl⟩
  have HN : Hid (N < B64 ^ la) := by rw [hN, ← hx]; exact num_lt ox
  have cu := cut_any ao la ca xs w hla hca hx hax ox
  rw [← hN] at cu ⊢
  have CU := hide cu
  have HTAB : Hid (Tab w) := htab
  clear cu hN hax ox htab
  go_enter Tryz.func69, Tryz.ntmps69
  go_wp2_with fail
  refine CU.out.mono ?_
  rintro e w1 ⟨co, cc, cs, rfl, hcl, hcat, his, hcm, hb1⟩
  rcases hcs : cs.length with _ | t
  · have hz : cs = [] := List.length_eq_zero_iff.1 hcs
    have hN0 : N = 0 := by rw [hz] at his; exact his.2.2.symm
    clear hcat his hcl hcm hz HN
    subst hN0
    go_wp2
    go_ret
    exact ⟨by rw [Lib.decDigits_one (by omega)]; rfl, hb1⟩
  · obtain ⟨cb, cf, rfl, hcb, hcell⟩ : ∃ cb cf, co = some ⟨cb, cf, none⟩ ∧ cb < w1.heap.size ∧ ∀ i, i < cs.length → w1.cell? ⟨cb, cf + i, none⟩ = some (.int .u64 ((dg cs i : Nat) : Int)) := by
      rcases hcat with h | h
      · rw [h] at hcs; simp at hcs
      · exact h
    have hdig : ∀ j, dg cs j = chunkD N j := fun j => by rw [← dig_at (by decide) his.1 j, his.2.2]; rfl
    have hcell' : ∀ j, j ≤ t → w1.cell? ⟨cb, cf + j, none⟩ = some (.int .u64 ((chunkD N j : Nat) : Int)) := fun j hj => by rw [hcell j (by omega), hdig]
    have htop : N / U19 ^ t ≠ 0 := by
      intro e
      have h1 := his.2.1 t hcs
      rw [hdig t] at h1
      unfold chunkD at h1
      rw [e, Nat.zero_mod] at h1
      exact h1 rfl
    have hall : ∀ j, j ≤ t → N / U19 ^ j ≠ 0 := by
      intro j hj e
      refine htop (Nat.div_eq_of_lt ?_)
      have h1 : N < U19 ^ j := by
        rcases Nat.lt_or_ge N (U19 ^ j) with h | h
        · exact h
        · have := Nat.div_pos h (Nat.pow_pos (show 0 < U19 by decide)); omega
      exact Nat.lt_of_lt_of_le h1 (Nat.pow_le_pow_right (by decide) hj)
    have hfirst : Lib.decDigits (chunkD N t) = Lib.decDigits (N / U19 ^ t) := by
      have h1 := num_lt his.1
      rw [his.2.2, hcs, Nat.pow_succ] at h1
      unfold chunkD
      rw [Nat.mod_eq_of_lt ((Nat.div_lt_iff_lt_mul (Nat.pow_pos (by decide))).2 (by rw [Nat.mul_comm]; exact h1))]
    have HC := hide hcell'
    have HALL := hide hall
    have htl : t ≤ 2 * la := by omega
    have c0 := HC.out t (Nat.le_refl _)
    have hlt : (t : Int) < ((t + 1 : Nat) : Int) := by omega
    have hnt : ¬ (t : Int) < 0 := by omega
    have c0' : (w1.alloc (Obj.cells #[Value.pointer none, Value.slice none 0 0] 115)).cell? ⟨cb, cf + t, none⟩ = some (.int .u64 ((chunkD N t : Nat) : Int)) := by
      rw [World.cell?_of_block (w := w1) (Below.heap_alloc _ _ _ hcb)]; exact c0
    obtain ⟨d0, hd0⟩ : ∃ d, d = chunkD N t := ⟨_, rfl⟩
    have fm := fun W hT => fmtUint_any (chunkD N t) (chunk_lt N t) W hT
    rw [← hd0] at c0' fm hfirst
    obtain ⟨ds, hds⟩ : ∃ ds : ByteArray, ds = ⟨(Lib.decDigits d0).toArray⟩ := ⟨_, rfl⟩
    rw [← hds] at fm
    have FM := hide fm
    have HDS := hide hds
    have HF := hide hfirst
    have hbn := bld_new w1
    have hT2 : Tab (w1.alloc (Obj.cells #[Value.pointer none, Value.slice none 0 0] 115)) := (HTAB.out.below hb1).alloc _
    have HT2 := hide hT2
    have HBN := hide hbn
    have hb12 : Below w1.heap.size w1 (w1.alloc (Obj.cells #[Value.pointer none, Value.slice none 0 0] 115)) := (Below.refl _ _).alloc (Nat.le_refl _) _
    have HB12 := hide hb12
    have HB1 := hide hb1
    have hlen : ∀ j, (Lib.decDigits (N / U19 ^ j)).length ≤ 20 * la + 1 := text_len HN.out
    have HLEN := hide hlen
    clear hcat hcell hdig hcell' htop hall hfirst fm hd0 hds c0 his hcl hcm hbn hT2 hb12 hb1 hlen hcs
    go_wp2_with fail
    refine (FM.out _ HT2.out).mono ?_
    rintro e w3 ⟨rfl, hb3⟩
    have hbu3 : Lib.IsBuilder 115 5 w1.heap.size w1.heap.size [] w3 := by
      rcases HBN.out with h | h
      · exact .inl (bld_below h hb3)
      · exact .inr (bld_below h hb3)
    have hb13 := HB12.out.trans (hb3.mono HB12.out.size)
    have hsz3 := hb13.size
    have hds0 : ds.size ≤ 200000000 := by
      rw [HDS.out]
      show (Lib.decDigits d0).length ≤ _
      rw [HF.out]
      have := HLEN.out t
      omega
    clear hb3 c0'
    go_wp2_with fail
    refine (writeString_any w1.heap.size w1.heap.size [] ds _ hbu3 (by simp; omega) hsz3).mono ?_
    rintro e w4 ⟨rfl, hbu4, hb4⟩
    have hbt : Lib.BuilderAt 115 5 w1.heap.size w1.heap.size (.pointer (some ⟨w1.heap.size, 0, none⟩)) (Lib.byteCells (Lib.decDigits (N / U19 ^ t))) w4 := by
      rw [← HF.out, ← Lib.strCells_toArray, ← HDS.out]; simpa using hbu4
    have hb14 := hb13.trans hb4
    have HBT := hide hbt
    have HB14 := hide hb14
    clear hbu3 hbu4 hb13 hb4 hsz3 hbt hb14
    go_wp2
    go_loopw [6, 7] (fun i _ wr => ∃ k : Nat, k ≤ t ∧ i = .int .i64 ((k : Int) - 1) ∧ Below w1.heap.size w1 wr ∧ Lib.BuilderAt 115 5 w1.heap.size w1.heap.size (.pointer (some ⟨w1.heap.size, 0, none⟩)) (Lib.byteCells (Lib.decDigits (N / U19 ^ k))) wr) (fun i _ _ => (intOf i + 1).toNat)
    case atStart => exact ⟨t, Nat.le_refl _, rfl, HB14.out, HBT.out⟩
    case round =>
      clear HBT HB14
      obtain ⟨k, hk, rfl, hbr, hbu⟩ := hrel
      have hszr := hbr.size
      rcases k with _ | k
      · rw [Nat.pow_zero, Nat.div_one] at hbu
        have hI : Lib.IsBuilder 115 5 w1.heap.size w1.heap.size (Lib.byteCells (Lib.decDigits N)) wr := .inr hbu
        clear hbu
        go_wp2_with fail
        refine (Tryz.Builder_String_any w1.heap.size w1.heap.size (Lib.decDigits N) _ hI hszr).mono ?_
        rintro e w5 ⟨rfl, hb5⟩
        have hbw := HB1.out.trans ((hbr.trans hb5).mono HB1.out.size)
        clear hI hb5 hbr
        go_wp2
        go_ret
        exact ⟨rfl, hbw⟩
      · have c0 : wr.cell? ⟨cb, cf + k, none⟩ = some (.int .u64 ((chunkD N k : Nat) : Int)) := (hbr.cell hcb).trans (HC.out k (by omega))
        have hct := chunk_text (N := N) (k := k) (HALL.out (k + 1) (by omega))
        have hd19 := chunk_dd (N := N) (k := k)
        have hlenk := HLEN.out k
        have hT : Tab wr := HTAB.out.below (HB1.out.trans (hbr.mono HB1.out.size))
        have fm := fun W hT => fmtUint_any (chunkD N k) (chunk_lt N k) W hT
        obtain ⟨d, hd⟩ : ∃ d, d = chunkD N k := ⟨_, rfl⟩
        rw [← hd] at c0 fm hct hd19
        obtain ⟨dz, hdz⟩ : ∃ dz : ByteArray, dz = ⟨(Lib.decDigits d).toArray⟩ := ⟨_, rfl⟩
        rw [← hdz] at fm
        obtain ⟨m, hm⟩ : ∃ m, m = (Lib.decDigits d).length := ⟨_, rfl⟩
        have hzs : dz.size = m := by rw [hdz, hm]; rfl
        obtain ⟨c, hc⟩ : ∃ c, c + m = 19 := ⟨19 - m, by omega⟩
        have hc1 : (19 : Int) - (m : Int) = (c : Int) := by omega
        have hcn : 19 - (Lib.decDigits d).length = c := by omega
        rw [hcn] at hct
        have FMk := hide fm
        have HDZ := hide hdz
        have HCT := hide hct
        have HZS := hide hzs
        have hkt : (k : Int) < ((t + 1 : Nat) : Int) := by omega
        have hbl : (Lib.decDigits (N / U19 ^ (k + 1))).length ≤ 20 * la + 1 := HLEN.out (k + 1)
        have HT := hide hT
        clear hct hd19 hlenk hd hdz hm hzs fm hcn hT
        go_wp2_with fail
        refine (FMk.out _ HT.out).mono ?_
        rintro e w5 ⟨rfl, hb5⟩
        have hbu5 := bld_below hbu hb5
        have hbr5 := hbr.trans (hb5.mono hszr)
        have hsz5 := hbr5.size
        have hzi : ((dz.size : Nat) : Int) = (m : Int) := by rw [HZS.out]
        clear hb5 hbu hbr c0 hszr
        obtain ⟨zs, hzs⟩ : ∃ zs : ByteArray, zs = ⟨(List.replicate c (48 : UInt8)).toArray⟩ := ⟨_, rfl⟩
        have rp : Calls Tryz.prog 92 #[.string ⟨#[48]⟩, .int .i64 (c : Int)] w5 fun e w' => e = .returned (.string zs) ∧ Below w5.heap.size w5 w' := by
          have h := Tryz.strings_Repeat ⟨#[48]⟩ c w5 (by omega) (by show 1 * c ≤ _; omega)
          rw [show (⟨#[48]⟩ : ByteArray).data.toList = [48] from rfl, repeat0, ← hzs] at h
          exact h
        have RP := hide rp
        have HZ0 := hide hzs
        have hz0 : zs.size = c := by rw [hzs]; show (List.replicate c (48 : UInt8)).length = c; simp
        clear rp hzs
        go_wp2_with fail
        refine RP.out.mono ?_
        rintro e w6 ⟨rfl, hb6⟩
        have hbu6 := bld_below hbu5 hb6
        have hbr6 := hbr5.trans (hb6.mono hsz5)
        have hsz6 := hbr6.size
        clear hb6 hbu5 hbr5 hsz5
        go_wp2_with fail
        refine (writeString_any w1.heap.size w1.heap.size _ zs _ (.inr hbu6) (by rw [Lib.byteCells_length]; omega) hsz6).mono ?_
        rintro e w7 ⟨rfl, hbu7, hb7⟩
        have hbr7 := hbr6.trans hb7
        have hsz7 := hbr7.size
        clear hb7 hbu6 hbr6 hsz6
        go_wp2_with fail
        refine (writeString_any w1.heap.size w1.heap.size _ dz _ (.inr hbu7) (by rw [List.length_append, Lib.byteCells_length, Lib.strCells_length, HZS.out]; omega) hsz7).mono ?_
        rintro e w8 ⟨rfl, hbu8, hb8⟩
        have hbr8 := hbr7.trans hb8
        rw [HZ0.out, HDZ.out, Lib.strCells_toArray, Lib.strCells_toArray, List.append_assoc, ← Lib.byteCells_append, ← Lib.byteCells_append, ← HCT.out] at hbu8
        have HB8 := hide hbu8
        have HBR8 := hide hbr8
        clear hb8 hbu7 hbr7 hsz7 hbu8 hbr8
        go_wp2
        go_roundw
        case rel => exact ⟨k, by omega, by go_num, HBR8.out, HB8.out⟩
        case measure => simp [intOf]

end Go.Proofs.YtifpacgacbpalaaGreatDoor

namespace Go.Proofs.YtifpacgacbpalaaGreatDoor
open Go.RowKit

theorem tg : Tryz.prog.globalNamed "internal/strconv.uint64pow10" = some 3 := by kernel_rfl
theorem tgt : (Tryz.prog.globals[3]?).map (·.type) = some 182 := by kernel_rfl
theorem tc20 : Tryz.prog.cellsOf 182 = 20 := by kernel_rfl
theorem tc1 : Tryz.prog.cellsOf 76 = 1 := by kernel_rfl

theorem table {W : World} (h : laidMetH Tryz.prog [("math/bits.deBruijn32tab", Rows.laid_math_bits_deBruijn32tab), ("math/bits.deBruijn64tab", Rows.laid_math_bits_deBruijn64tab), ("internal/strconv.uint64pow10", Rows.laid_internal_strconv_uint64pow10), ("unicode/utf8.acceptRanges", Rows.laid_unicode_utf8_acceptRanges), ("strconv.ErrRange", Rows.laid_strconv_ErrRange), ("strconv.ErrSyntax", Rows.laid_strconv_ErrSyntax), ("unicode/utf8.first", Rows.laid_unicode_utf8_first)] W) : Tab W := by
  have h' : laidMet Tryz.prog [("math/bits.deBruijn32tab", Rows.laid_math_bits_deBruijn32tab), ("math/bits.deBruijn64tab", Rows.laid_math_bits_deBruijn64tab), ("internal/strconv.uint64pow10", Rows.laid_internal_strconv_uint64pow10), ("unicode/utf8.acceptRanges", Rows.laid_unicode_utf8_acceptRanges), ("strconv.ErrRange", Rows.laid_strconv_ErrRange), ("strconv.ErrSyntax", Rows.laid_strconv_ErrSyntax), ("unicode/utf8.first", Rows.laid_unicode_utf8_first)] W := h
  obtain ⟨ps, ⟨_, _, _, _, _, q1, _, _, _, _, ⟨_, _, _, _, _, q2, _, _, _, _, ⟨g', t', cs, fuel, p3, q3, hg', ht', hvar, hd, _, _⟩, _⟩, _⟩, _⟩ := h'
  obtain rfl := Option.some.inj (tg.symm.trans hg')
  obtain rfl := Option.some.inj (tgt.symm.trans ht')
  unfold Tab Lib.TabIs
  have hd' : DataW.trod (fun _ => ()) Tryz.prog W 0 (fun _ => true) false fuel 182 cs.toList = some (Lib.tabData .u64 Lib.pow10Tab, p3) := hd
  rw [hvar, ← Lib.cells_of_tab Tryz.underlying182 Tryz.underlying76 tc1 tc20 hd']

theorem nat_of_u64 {z : Int} (h : (Lit.int .u64 z).wf = true) : ∃ n : Nat, n < 18446744073709551616 ∧ z = (n : Int) := by
  have h2 : IntKind.u64.min ≤ z ∧ z ≤ IntKind.u64.max := by simpa [Lit.wf] using h
  rw [show IntKind.u64.min = 0 by decide, show IntKind.u64.max = 18446744073709551615 by decide] at h2
  exact ⟨z.toNat, by omega, by omega⟩
theorem nat_of_u32 {z : Int} (h : (Lit.int .u32 z).wf = true) : ∃ n : Nat, n < 4294967296 ∧ z = (n : Int) := by
  have h2 : IntKind.u32.min ≤ z ∧ z ≤ IntKind.u32.max := by simpa [Lit.wf] using h
  rw [show IntKind.u32.min = 0 by decide, show IntKind.u32.max = 4294967295 by decide] at h2
  exact ⟨z.toNat, by omega, by omega⟩

/-- The values of a table's reading, whose places hold one number or a few. -/
def tabVals : DataW Unit → Array Value
  | .agg l => (l.flatMap fun
      | .lit (.int k z) => [Value.int k z]
      | .agg l2 => l2.map fun
        | .lit (.int k z) => Value.int k z
        | _ => .int .u8 0
      | _ => []).toArray
  | _ => #[]

/-- A block that holds other values, of the same type. -/
def putVals (d : DataW Unit) : Obj → Obj
  | .cells _ t frozen => .cells (tabVals d) t frozen
  | o => o

/-- The text that an error of the library's bears. -/
def errText : DataW Unit → ByteArray
  | .iface _ (.ptr (.agg [.lit (.string l)])) => ⟨l.toArray⟩
  | _ => ⟨#[]⟩

/-- A block that holds an error of the library's, whose text lies in block b. -/
def putErr (b : Nat) : Obj → Obj
  | .cells _ t frozen => .cells #[.iface 176 (.pointer (some ⟨b, 0, none⟩))] t frozen
  | o => o

/-- The settled world, the five tables and the two errors holding what their initialisers lay. -/
noncomputable def laidWorld (os : Os) : World :=
  { World.holding Tryz.prog os ⟨#[], #[], []⟩ with
    heap := (((((((((World.holding Tryz.prog os ⟨#[], #[], []⟩).heap.modify 8 (putVals Rows.laid_math_bits_deBruijn32tab)).modify 9 (putVals Rows.laid_math_bits_deBruijn64tab)).modify 3 (putVals Rows.laid_internal_strconv_uint64pow10)).modify 5 (putVals Rows.laid_unicode_utf8_acceptRanges)).modify 4 (putVals Rows.laid_unicode_utf8_first)).modify 2 (putErr (World.holding Tryz.prog os ⟨#[], #[], []⟩).heap.size)).modify 1 (putErr ((World.holding Tryz.prog os ⟨#[], #[], []⟩).heap.size + 1))).push (.cells #[.string (errText Rows.laid_strconv_ErrRange)] 178)).push (.cells #[.string (errText Rows.laid_strconv_ErrSyntax)] 178) }

end Go.Proofs.YtifpacgacbpalaaGreatDoor
