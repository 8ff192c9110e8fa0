/-
  A variable of several cells, in a block by itself.
  A variable's cells, all at once; a variable behind what was laid and called.
  What block's stepped and Sum, and the reference's Sum, do.
  Lists of bytes in blocks of their own, out of a conversion or an append: an append to one; what a conversion makes.
  Texts and lists of bytes: conversions, there and back.
  Faults as plain data; lists of them in memory; what block's faultOf and may do.
  What block's faultOf does over any list; may, mayAll; the four changes.
  What the four changes of a read do: leaves, fails, shortens, flips.
  A disk in memory; what block's Size, Reads, has and changes do.
  What block's Read does.
  Lists of faults that are made; what slices.Clone and block's New do.
  What block's fourBytes, numberOf and Seal do, and the reference's four, value and Seal.
  What block's readOn does: block behind block, until there are so many bytes.
  What block's readHead does.
  What block's Load does.
  Plain mathematics: what Load tells of a disk whose reads tell the bytes of a list; where it stops.
  Plain mathematics: an image's head and body; one bit of an image turned.
  The calls whose answers the document fixes: quipulaw10.fixed answers true.
  BlockBack answers true.
  BlockTurned answers true.
  What the reference's New does.
  What the reference's Read does.
-/
import Derived.Test.YtdbbdclhfcakdaaVNorm
import Derived.Handy
import Derived.Test.YtdbbdclhfcakdaaVB1
import Derived.Laws.BitsAllLaws
import Derived.ArgAppend
import Derived.Lib.ConvBytes
import Derived.Laws.BytesArg
import Derived.Deep.RegionHeld3
import Derived.Laws.CopyOwn
import Derived.Lib.BufferWrite
import Derived.Laws.EntriesVeiled
import Derived.Deep.DeepCutAuto
import Derived.Laws.AppendOwnNone
import Derived.Lib.SliceRun
import Derived.BigRegion
import Derived.Lib.AppendStr
namespace Go.Proofs.Ytdbbdclhfcakdaa
open Go.RowKit

def Blk (w : World) (b : Nat) (cs : Array Value) (t : TypeId) : Prop := w.heap[b]? = some (.cells cs t (0, 0))

section
variable {w w' : World} {b : Nat} {cs : Array Value} {t : TypeId}

theorem Blk.cell (h : Blk w b cs t) (i : Nat) : w.cell? ⟨b, i, none⟩ = cs[i]? := by unfold Blk at h; simp [World.cell?, h]
theorem Blk.free (h : Blk w b cs t) (i : Nat) : w.frozen? ⟨b, i, none⟩ = false := by unfold Blk at h; simp [World.frozen?, h]
theorem Blk.new (w : World) (cs : Array Value) (t : TypeId) : Blk (w.alloc (.cells cs t)) w.heap.size cs t := heap_alloc_new _ _
theorem Blk.newAt (w : World) (n : Nat) (hn : w.heap.size = n) (cs : Array Value) (t : TypeId) : Blk (w.alloc (.cells cs t)) n cs t := by subst hn; exact Blk.new _ _ _
theorem Blk.lt (h : Blk w b cs t) : b < w.heap.size := lt_of_block h
theorem Blk.below (h : Blk w b cs t) {B : Nat} (hb : Below B w w') (hg : b < B) : Blk w' b cs t := by
  unfold Blk at *
  rw [hb.block b hg]; exact h
theorem Blk.alloc (h : Blk w b cs t) (o : Obj) : Blk (w.alloc o) b cs t := by
  have hlt := h.lt
  unfold Blk at *
  rw [Below.heap_alloc _ _ _ hlt]; exact h
theorem Blk.put4 {x0 x1 x2 x3 : Value} (h : Blk w b #[x0, x1, x2, x3] t) (y0 y1 y2 y3 : Value) : Blk ((((w.setCell ⟨b, 0, none⟩ y0).setCell ⟨b, 1, none⟩ y1).setCell ⟨b, 2, none⟩ y2).setCell ⟨b, 3, none⟩ y3) b #[y0, y1, y2, y3] t := by
  unfold Blk at *
  simp only [World.setCell, Array.getElem?_modify, if_true, h, Option.map_some]
  rfl
end

theorem Blk.other {w : World} {b : Nat} {t : TypeId} {cs : Array Value} (h : Blk w b cs t) {a : Addr} (ha : a.block ≠ b) (v : Value) : Blk (w.setCell a v) b cs t := by
  unfold Blk at *
  simp only [World.setCell, Array.getElem?_modify, if_neg ha, h]

end Go.Proofs.Ytdbbdclhfcakdaa

namespace Go.Proofs.Ytdbbdclhfcakdaa
open Go.RowKit

theorem Blk.four {w : World} {b : Nat} {x0 x1 x2 x3 : Value} {t : TypeId} (h : Blk w b #[x0, x1, x2, x3] t) : w.cell? ⟨b, 0, none⟩ = some x0 ∧ w.cell? ⟨b, 1, none⟩ = some x1 ∧ w.cell? ⟨b, 2, none⟩ = some x2 ∧ w.cell? ⟨b, 3, none⟩ = some x3 := ⟨h.cell 0, h.cell 1, h.cell 2, h.cell 3⟩
end Go.Proofs.Ytdbbdclhfcakdaa

namespace Go.Proofs.Ytdbbdclhfcakdaa
open Go.RowKit

theorem step_and {R : Nat} (h : R < 4294967296) : bits .and .u32 (R : Int) 1 = ((R % 2 : Nat) : Int) := by
  have := u32_and_nat R 1 h (by decide)
  rw [Nat.and_one_is_mod] at this
  exact this
theorem step_xor {R : Nat} (h : R < 4294967296) : bits .xor .u32 ((R : Int) / 2) (3988292384 * ((R : Int) % 2)) = ((stp R : Nat) : Int) := by
  have := u32_xor_nat (R / 2) (3988292384 * (R % 2)) (by omega) (by omega)
  rw [show ((R : Int) / 2) = ((R / 2 : Nat) : Int) by omega, show (3988292384 * ((R : Int) % 2)) = ((3988292384 * (R % 2) : Nat) : Int) by omega, this]
  rfl

set_option maxHeartbeats 1000000 in
theorem stepped_any (r : Nat) (w : World) (h : r < 4294967296) : Calls Try.prog 27 #[.int .u32 (r : Int)] w fun e w' => e = .returned (.int .u32 ((stps 8 r : Nat) : Int)) ∧ w = w' := by
  have HL : Hid (∀ k, stps k r < 4294967296) := fun k => stps_lt h k
  clear h
  go_enter Try.func27, Try.ntmps27
  go_wp2
  go_loopw [0, 4] (fun p q wr => ∃ k : Nat, k ≤ 8 ∧ p = .int .u32 ((stps k r : Nat) : Int) ∧ q = .int .i64 (k : Int) ∧ wr = w) (fun _ q _ => 8 - (intOf q).toNat)
  case atStart => exact ⟨0, Nat.zero_le _, rfl, rfl, rfl⟩
  case round =>
    obtain ⟨k, hk, rfl, rfl, hw⟩ := hrel
    subst hw
    by_cases hlt : k < 8
    · have hlt' : (k : Int) < 8 := by omega
      have hR := HL.out k
      obtain ⟨R, hRR⟩ : ∃ R, R = stps k r := ⟨_, rfl⟩
      rw [← hRR] at hR ⊢
      have e1 := step_and hR
      have E2 := hide (step_xor hR)
      have HR := hide hRR
      clear hRR
      go_wp2
      exact ⟨⟨k + 1, by omega, by rw [E2.out, HR.out]; rfl, by go_num, trivial⟩, by simp [intOf]; omega⟩
    · obtain rfl : k = 8 := by omega
      have hlt' : ¬ ((8 : Nat) : Int) < 8 := by omega
      clear hlt
      go_wp2
      go_ret
      exact ⟨rfl, rfl⟩

theorem wide_xor {r b : Nat} (hr : r < 4294967296) (hb : b < 256) : bits .xor .u32 (r : Int) (b : Int) = ((r ^^^ b : Nat) : Int) := u32_xor_nat r b hr (by omega)
theorem not_reg {r : Nat} (h : r < 4294967296) : bits .xor .u32 4294967295 (r : Int) = ((4294967295 - r : Nat) : Int) := by
  have h2 := u32_xor_nat 4294967295 r (by decide) h
  have h3 : 4294967295 ^^^ r = 4294967295 - r := by
    show (2 ^ 32 - 1) ^^^ r = 2 ^ 32 - 1 - r
    have hb : r < 2 ^ 32 := h
    apply Nat.eq_of_testBit_eq
    intro i
    rw [Nat.testBit_xor, Nat.testBit_two_pow_sub_one, show 2 ^ 32 - 1 - r = 2 ^ 32 - (r + 1) by omega, Nat.testBit_two_pow_sub_succ hb]
    by_cases hi : i < 32
    · simp [hi]
    · have : r.testBit i = false := Nat.testBit_lt_two_pow (Nat.lt_of_lt_of_le hb (Nat.pow_le_pow_right (by decide) (by omega)))
      simp [hi, this]
  rw [h3] at h2
  exact h2

set_option maxHeartbeats 1000000 in
theorem Sum_any (s : ByteArray) (w : World) (hs : s.size ≤ 4611686018427387000) : Calls Try.prog 11 #[.string s] w fun e w' => e = .returned (.int .u32 ((crc (bys s) : Nat) : Int)) ∧ w = w' := by
  have HL : Hid (∀ k, regN (bys s) k < 4294967296) := fun k => regN_lt _ k
  have HG : Hid (∀ k (h : k < s.size), s[k].toNat = byt (bys s) k) := fun k h => byt_get s k h
  go_enter Try.func11, Try.ntmps11
  go_wp2
  go_loopw [3, 7] (fun p q wr => ∃ k : Nat, k ≤ s.size ∧ p = .int .u32 ((regN (bys s) k : Nat) : Int) ∧ q = .int .i64 (k : Int) ∧ wr = w) (fun _ q _ => s.size - (intOf q).toNat)
  case atStart => exact ⟨0, Nat.zero_le _, rfl, rfl, rfl⟩
  case round =>
    obtain ⟨k, hk, rfl, rfl, hw⟩ := hrel
    subst hw
    by_cases hlt : k < s.size
    · have hlt' : (k : Int) < (s.size : Int) := by omega
      have hR := HL.out k
      have hg : ∀ h : k < s.size, s[k].toNat = byt (bys s) k := fun h => HG.out k h
      have hb2 := byt_lt (bys s) k
      obtain ⟨R, hRR⟩ : ∃ R, R = regN (bys s) k := ⟨_, rfl⟩
      obtain ⟨b, hbb⟩ : ∃ b, b = byt (bys s) k := ⟨_, rfl⟩
      rw [← hRR] at hR ⊢
      rw [← hbb] at hg hb2
      have e1 := wide_xor hR hb2
      have hx := Nat.xor_lt_two_pow (n := 32) hR (show b < 2 ^ 32 by omega)
      have E2 : Hid (regN (bys s) (k + 1) = bstp R b) := hide (by rw [hRR, hbb, regN])
      have HS := hide (fun X => stepped_any (R ^^^ b) X hx)
      rw [show stps 8 (R ^^^ b) = bstp R b by unfold bstp; exact Eq.refl _] at HS
      generalize R ^^^ b = Y at *
      generalize bstp R b = Z at *
      clear hRR hbb hx
      go_wp2_with fail
      with_reducible refine (HS.out _).mono ?_
      rintro e w1 ⟨rfl, rfl⟩
      go_wp2
      exact ⟨⟨k + 1, by omega, by rw [E2.out], by go_num, trivial⟩, by simp [intOf]; omega⟩
    · obtain rfl : k = s.size := by omega
      have hlt' : ¬ (s.size : Int) < (s.size : Int) := by omega
      have E := hide (not_reg (HL.out s.size))
      clear hlt
      go_wp2
      go_ret
      refine ⟨?_, rfl⟩
      show Ending.returned (Value.int .u32 (bits .xor .u32 4294967295 (regN (bys s) s.size : Int))) = _
      rw [E.out]
      unfold crc
      rw [bys_len]


end Go.Proofs.Ytdbbdclhfcakdaa

namespace Go.Proofs.Ytdbbdclhfcakdaa
open Go.RowKit

end Go.Proofs.Ytdbbdclhfcakdaa

namespace Go.Proofs.Ytdbbdclhfcakdaa
open Go.RowKit

theorem strB_of (l : List UInt8) : strOfNums ((l.map UInt8.toNat).map fun (x : Nat) => (x : Int)) = ⟨l.toArray⟩ := by
  apply ByteArray.ext
  apply Array.toList_inj.1
  rw [strOfNums_data, List.map_map, List.map_map]
  show _ = l
  conv => rhs; rw [← List.map_id l]
  apply List.map_congr_left
  intro x _
  simp

theorem Try.infoBz : (Try.prog.info? 5).map (fun i => (i.zero, i.size, i.bytes)) = some (some (.int .u8 0), 1, 1) := by kernel_rfl

theorem convB_at {X : World} {g o cap : Nat} {l : List UInt8} (h : ∀ i, i < l.length → X.cell? ⟨g, o + i, none⟩ = some (.int .u8 ((byt l i : Nat) : Int))) : (convert 52 9 (.slice (some ⟨g, o, none⟩) l.length cap)).run Try.prog X = .ok (.string ⟨l.toArray⟩) X := by
  have kc := run_convert_bytes_arg (P := Try.prog) X 52 5 Try.underlying52 Try.underlying5 g o l.length cap ((l.map UInt8.toNat).map fun (x : Nat) => (x : Int)) (by rw [List.length_map, List.length_map]) (fun i hi => by
    rw [h i hi]
    unfold byt
    simp [List.getD, hi]) 9 Try.underlying9
  rw [strB_of] at kc
  exact kc

end Go.Proofs.Ytdbbdclhfcakdaa

namespace Go.Proofs.Ytdbbdclhfcakdaa
open Go.RowKit

structure Flt where
  at_ : Int
  kind : Int
  byte : Int
  bit : Int

def Flt.zero : Flt := ⟨0, 0, 0, 0⟩
def fltV (f : Flt) : Value := .agg #[.int .i64 f.at_, .int .i64 f.kind, .int .i64 f.byte, .int .i64 f.bit]

def nth (fs : List Flt) (i : Nat) : Flt := fs[i]?.getD Flt.zero

def findF : List Flt → Int → Flt
  | [], _ => Flt.zero
  | f :: r, n => if f.at_ = n then f else findF r n

def FAt (w : World) (ao : Option Addr) (fs : List Flt) : Prop :=
  fs = [] ∨ ∃ b o, ao = some ⟨b, o, none⟩ ∧ b < w.heap.size ∧ ∀ i, i < fs.length → w.cell? ⟨b, o + i * 4, none⟩ = some (.int .i64 (nth fs i).at_) ∧ w.cell? ⟨b, o + i * 4 + 1, none⟩ = some (.int .i64 (nth fs i).kind) ∧ w.cell? ⟨b, o + i * 4 + 2, none⟩ = some (.int .i64 (nth fs i).byte) ∧ w.cell? ⟨b, o + i * 4 + 3, none⟩ = some (.int .i64 (nth fs i).bit)

theorem FAt.below {w w' : World} {ao : Option Addr} {fs : List Flt} (h : FAt w ao fs) (hb : Below w.heap.size w w') : FAt w' ao fs := by
  rcases h with h | ⟨b, o, h1, h2, h3⟩
  · exact .inl h
  · refine .inr ⟨b, o, h1, Nat.lt_of_lt_of_le h2 hb.size, fun i hi => ?_⟩
    obtain ⟨k0, k1, k2, k3⟩ := h3 i hi
    exact ⟨(hb.cell h2).trans k0, (hb.cell h2).trans k1, (hb.cell h2).trans k2, (hb.cell h2).trans k3⟩

theorem nth_take (fs : List Flt) {i n : Nat} (h : i < n) : nth (fs.take n) i = nth fs i := by
  unfold nth; rw [List.getElem?_take_of_lt h]

theorem FAt.take {w : World} {ao : Option Addr} {fs : List Flt} (h : FAt w ao fs) (n : Nat) : FAt w ao (fs.take n) := by
  rcases h with h | ⟨b, o, h1, h2, h3⟩
  · left; simp [h]
  · refine .inr ⟨b, o, h1, h2, fun i hi => ?_⟩
    simp only [List.length_take] at hi
    rw [nth_take fs (by omega)]
    exact h3 i (by omega)

theorem findF_drop (fs : List Flt) (n : Int) : ∀ k, k < fs.length → findF (fs.drop k) n = if (nth fs k).at_ = n then nth fs k else findF (fs.drop (k + 1)) n := by
  intro k hk
  rw [List.drop_eq_getElem_cons hk]
  simp only [findF]
  have e : nth fs k = fs[k] := by unfold nth; rw [List.getElem?_eq_getElem hk]; rfl
  rw [e]

theorem bdrB (w : World) : Hid (Below w.heap.size w w.drew) := (Below.refl _ _).drew

theorem results_flt {fn : Func} {a : Tmp} (h : fn.results = #[.cell a 62]) (tmps : Array Value) (H : Nat) (x0 x1 x2 x3 : Value) (w : World) (ht : tmps.getD a undef = .pointer (some ⟨H, 0, none⟩)) (hp : Blk w H #[x0, x1, x2, x3] 62) :
    (results fn tmps).run Try.prog w = .ok (.agg #[x0, x1, x2, x3]) w := by
  have c0 := hp.cell 0
  have c1 := hp.cell 1
  have c2 := hp.cell 2
  have c3 := hp.cell 3
  simp at c0 c1 c2 c3
  rw [Array.getD_eq_getD_getElem?] at ht
  simp [results, h, ht, go_sem, c0, c1, c2, c3]

theorem below_putB {w W : World} {H : Nat} (h : Below w.heap.size w W) (hH : w.heap.size ≤ H) (y0 y1 y2 y3 : Value) : Below w.heap.size w ((((W.setCell ⟨H, 0, none⟩ y0).setCell ⟨H, 1, none⟩ y1).setCell ⟨H, 2, none⟩ y2).setCell ⟨H, 3, none⟩ y3) :=
  (((h.setCell hH _).setCell hH _).setCell hH _).setCell hH _

set_option maxHeartbeats 1000000 in
theorem faultOf_at (b o cap : Nat) (n : Int) (fs : List Flt) (w : World) (hl : fs.length ≤ 1000) (hb : b < w.heap.size) (hc : fs.length ≤ cap)
    (h3 : ∀ i, i < fs.length → w.cell? ⟨b, o + i * 4, none⟩ = some (.int .i64 (nth fs i).at_) ∧ w.cell? ⟨b, o + i * 4 + 1, none⟩ = some (.int .i64 (nth fs i).kind) ∧ w.cell? ⟨b, o + i * 4 + 2, none⟩ = some (.int .i64 (nth fs i).byte) ∧ w.cell? ⟨b, o + i * 4 + 3, none⟩ = some (.int .i64 (nth fs i).bit)) :
    Calls Try.prog 31 #[.slice (some ⟨b, o, none⟩) fs.length cap, .int .i64 n] w fun e w' => e = .returned (fltV (findF fs n)) ∧ Below w.heap.size w w' := by
  have H3 := hide h3
  have HB0 : Hid (Below w.heap.size w (w.alloc (.cells #[.int .i64 0, .int .i64 0, .int .i64 0, .int .i64 0] 62))) := (Below.refl _ _).alloc (Nat.le_refl _) _
  have BR0 := hide (Blk.newAt w w.heap.size rfl #[.int .i64 0, .int .i64 0, .int .i64 0, .int .i64 0] 62)
  clear h3
  obtain ⟨L, hL⟩ : ∃ L, L = fs.length := ⟨_, rfl⟩
  rw [← hL] at hl hc ⊢
  have HL := hide hL
  clear hL
  go_enter Try.func31, Try.ntmps31
  go_wp2
  go_loopw [9] (fun p wr => ∃ k : Nat, k ≤ L ∧ p = .int .i64 (k : Int) ∧ Hid (findF (fs.drop k) n = findF fs n) ∧ Hid (Below w.heap.size w wr ∧ Blk wr w.heap.size #[.int .i64 0, .int .i64 0, .int .i64 0, .int .i64 0] 62)) (fun p _ => L - (intOf p).toNat)
  case atStart => exact ⟨0, Nat.zero_le _, rfl, rfl, HB0.out, BR0.out⟩
  case round =>
    obtain ⟨k, hk, rfl, HF, HW⟩ := hrel
    by_cases hlt : k < L
    · have hlt' : (k : Int) < (L : Int) := by omega
      obtain ⟨c0, c1, c2, c3⟩ := H3.out k (by rw [← HL.out]; exact hlt)
      have bc : ∀ j, wr.cell? ⟨b, j, none⟩ = w.cell? ⟨b, j, none⟩ := fun j => HW.out.1.cell hb
      rw [← bc] at c0 c1 c2 c3
      have e1 := findF_drop fs n k (by rw [← HL.out]; exact hlt)
      obtain ⟨g, hg⟩ : ∃ g, g = nth fs k := ⟨_, rfl⟩
      rw [← hg] at c0 c1 c2 c3 e1
      have Q := hide (HW.out.2.alloc (.cells #[.int .i64 g.at_, .int .i64 g.kind, .int .i64 g.byte, .int .i64 g.bit] 40))
      have QB := hide (HW.out.1.alloc HW.out.1.size (.cells #[.int .i64 g.at_, .int .i64 g.kind, .int .i64 g.byte, .int .i64 g.bit] 40))
      clear hg bc
      by_cases hq : g.at_ = n
      · rw [if_pos hq, HF.out] at e1
        have E1 := hide e1
        have hq' : (g.at_ == n) = true := beq_iff_eq.2 hq
        have y0 := Q.out.cell 0
        have y1 := Q.out.cell 1
        have y2 := Q.out.cell 2
        have y3 := Q.out.cell 3
        have f0 := Q.out.free 0
        have f1 := Q.out.free 1
        have f2 := Q.out.free 2
        have f3 := Q.out.free 3
        clear e1 hq HW HF
        go_wp2
        refine bodyPost_ret (results_flt rfl _ _ _ _ _ _ _ rfl (Q.out.put4 _ _ _ _)) rfl ?_
        exact ⟨by rw [E1.out]; rfl, below_putB QB.out (Nat.le_refl _) _ _ _ _⟩
      · rw [if_neg hq, HF.out] at e1
        have E1 := hide e1.symm
        have hq' : (g.at_ == n) = false := beq_eq_false_iff_ne.2 hq
        clear e1 hq HF HW
        go_wp2
        exact ⟨⟨k + 1, by omega, by go_num, E1, QB.out, Q.out⟩, by simp [intOf]; omega⟩
    · obtain rfl : k = L := by omega
      have hlt' : ¬ (k : Int) < (k : Int) := by omega
      have y0 := HW.out.2.cell 0
      have y1 := HW.out.2.cell 1
      have y2 := HW.out.2.cell 2
      have y3 := HW.out.2.cell 3
      have f0 := HW.out.2.free 0
      have f1 := HW.out.2.free 1
      have f2 := HW.out.2.free 2
      have f3 := HW.out.2.free 3
      have E1 : Hid (findF fs n = Flt.zero) := hide (by rw [← HF.out, List.drop_eq_nil_of_le (by rw [← HL.out]; exact Nat.le_refl _)]; rfl)
      clear HF hlt
      go_wp2
      refine bodyPost_ret (results_flt rfl _ _ _ _ _ _ _ rfl (HW.out.2.put4 _ _ _ _)) rfl ?_
      exact ⟨by rw [E1.out]; rfl, below_putB HW.out.1 (Nat.le_refl _) _ _ _ _⟩

end Go.Proofs.Ytdbbdclhfcakdaa

namespace Go.Proofs.Ytdbbdclhfcakdaa
open Go.RowKit

def FSl (w : World) (v : Value) (fs : List Flt) : Prop := ∃ ao cap, v = .slice ao fs.length cap ∧ fs.length ≤ cap ∧ FAt w ao fs

theorem FSl.below {w w' : World} {v : Value} {fs : List Flt} (h : FSl w v fs) (hb : Below w.heap.size w w') : FSl w' v fs := by
  obtain ⟨ao, cap, h1, h2, h3⟩ := h
  exact ⟨ao, cap, h1, h2, h3.below hb⟩

set_option maxHeartbeats 1000000 in
theorem faultOf_nil (ao : Option Addr) (cap : Nat) (n : Int) (w : World) :
    Calls Try.prog 31 #[.slice ao 0 cap, .int .i64 n] w fun e w' => e = .returned (fltV Flt.zero) ∧ Below w.heap.size w w' := by
  have HB0 : Hid (Below w.heap.size w (w.alloc (.cells #[.int .i64 0, .int .i64 0, .int .i64 0, .int .i64 0] 62))) := (Below.refl _ _).alloc (Nat.le_refl _) _
  have BR0 := hide (Blk.newAt w w.heap.size rfl #[.int .i64 0, .int .i64 0, .int .i64 0, .int .i64 0] 62)
  go_enter Try.func31, Try.ntmps31
  go_wp2
  go_loopw [9] (fun p wr => p = .int .i64 0 ∧ wr = w.alloc (.cells #[.int .i64 0, .int .i64 0, .int .i64 0, .int .i64 0] 62)) (fun p _ => 0)
  case atStart => exact ⟨rfl, rfl⟩
  case round =>
    obtain ⟨rfl, rfl⟩ := hrel
    go_wp2
    refine bodyPost_ret (results_flt rfl _ _ _ _ _ _ _ rfl BR0.out) rfl ?_
    exact ⟨rfl, HB0.out⟩

theorem faultOf_any {w : World} {v : Value} {fs : List Flt} (n : Int) (h : FSl w v fs) (hl : fs.length ≤ 1000) : Calls Try.prog 31 #[v, .int .i64 n] w fun e w' => e = .returned (fltV (findF fs n)) ∧ Below w.heap.size w w' := by
  obtain ⟨ao, cap, rfl, h2, h3⟩ := h
  rcases h3 with rfl | ⟨b, o, rfl, hb, h3⟩
  · exact faultOf_nil ao cap n w
  · exact faultOf_at b o cap n fs w hl hb h2 h3

def mayF (f : Flt) : Bool := decide (1 ≤ f.kind ∧ f.kind ≤ 3 ∧ 0 ≤ f.at_ ∧ 0 ≤ f.byte ∧ 0 ≤ f.bit ∧ f.bit ≤ 7)

set_option maxHeartbeats 1000000 in
theorem may_any (f : Flt) (w : World) : Calls Try.prog 36 #[fltV f] w fun e w' => e = .returned (.bool (mayF f)) ∧ Below w.heap.size w w' := by
  obtain ⟨a, k, b, t⟩ := f
  have HB0 : Hid (Below w.heap.size w (w.alloc (.cells #[.int .i64 a, .int .i64 k, .int .i64 b, .int .i64 t] 62))) := (Below.refl _ _).alloc (Nat.le_refl _) _
  unfold fltV
  go_enter Try.func36, Try.ntmps36
  go_wp2
  all_goals go_ret
  all_goals refine ⟨?_, HB0.out⟩
  all_goals (refine congrArg (fun b => Ending.returned (Value.bool b)) (a₂ := mayF ⟨a, k, b, t⟩) ?_)
  all_goals (first | exact decide_eq_decide.2 (by dsimp only; omega) | (rw [eq_comm]; exact decide_eq_false (by dsimp only; omega)))

theorem fld_kind (f : Flt) (W : World) : (Instr.field 62 (.agg #[.int .i64 f.at_, .int .i64 f.kind, .int .i64 f.byte, .int .i64 f.bit]) 1).run Try.prog W = .ok (.int .i64 f.kind) W := by kernel_rfl

def okN (fs : List Flt) (k : Nat) : Bool := mayF (nth fs k) && decide ((findF (fs.take k) (nth fs k).at_).kind = 0)
def okTo (fs : List Flt) : Nat → Bool
  | 0 => true
  | k + 1 => okTo fs k && okN fs k
def mayAllF (fs : List Flt) : Bool := decide (fs.length ≤ 64) && okTo fs fs.length

theorem okTo_false {fs : List Flt} {k : Nat} (h : okN fs k = false) : ∀ n, k < n → okTo fs n = false
  | 0, hn => by omega
  | n + 1, hn => by
    simp only [okTo]
    by_cases e : k = n
    · subst e; rw [h]; simp
    · rw [okTo_false h n (by omega)]; simp

set_option maxHeartbeats 1000000 in
theorem mayAll_long (ao : Option Addr) (len cap : Nat) (w : World) (h : 64 < len) (h2 : len ≤ 9223372036854775807) : Calls Try.prog 28 #[.slice ao len cap] w fun e w' => e = .returned (.bool false) ∧ Below w.heap.size w w' := by
  have h' : (64 : Int) < (len : Int) := by omega
  go_enter Try.func28, Try.ntmps28
  go_wp2
  go_ret
  exact ⟨rfl, Below.refl _ _⟩

set_option maxHeartbeats 1000000 in
theorem mayAll_nil (ao : Option Addr) (cap : Nat) (w : World) : Calls Try.prog 28 #[.slice ao 0 cap] w fun e w' => e = .returned (.bool true) ∧ Below w.heap.size w w' := by
  go_enter Try.func28, Try.ntmps28
  go_wp2
  go_loopw [10] (fun p wr => p = .int .i64 0 ∧ wr = w) (fun p _ => 0)
  case atStart => exact ⟨rfl, rfl⟩
  case round =>
    obtain ⟨rfl, rfl⟩ := hrel
    go_wp2
    go_ret
    exact ⟨rfl, Below.refl _ _⟩

set_option maxHeartbeats 2000000 in
theorem mayAll_at (b o cap : Nat) (fs : List Flt) (w : World) (hl : fs.length ≤ 64) (hb : b < w.heap.size) (hc : fs.length ≤ cap)
    (h3 : ∀ i, i < fs.length → w.cell? ⟨b, o + i * 4, none⟩ = some (.int .i64 (nth fs i).at_) ∧ w.cell? ⟨b, o + i * 4 + 1, none⟩ = some (.int .i64 (nth fs i).kind) ∧ w.cell? ⟨b, o + i * 4 + 2, none⟩ = some (.int .i64 (nth fs i).byte) ∧ w.cell? ⟨b, o + i * 4 + 3, none⟩ = some (.int .i64 (nth fs i).bit)) :
    Calls Try.prog 28 #[.slice (some ⟨b, o, none⟩) fs.length cap] w fun e w' => e = .returned (.bool (okTo fs fs.length)) ∧ Below w.heap.size w w' := by
  have H3 := hide h3
  have HFA : Hid (FAt w (some ⟨b, o, none⟩) fs) := .inr ⟨b, o, rfl, hb, h3⟩
  clear h3
  obtain ⟨L, hL⟩ : ∃ L, L = fs.length := ⟨_, rfl⟩
  rw [← hL] at hl hc ⊢
  have HL := hide hL
  clear hL
  have hl' : ¬ (64 : Int) < (L : Int) := by omega
  go_enter Try.func28, Try.ntmps28
  go_wp2
  go_loopw [10] (fun p wr => ∃ k : Nat, k ≤ L ∧ p = .int .i64 (k : Int) ∧ Hid (okTo fs k = true) ∧ Hid (Below w.heap.size w wr)) (fun p _ => L - (intOf p).toNat)
  case atStart => exact ⟨0, Nat.zero_le _, rfl, rfl, Below.refl _ _⟩
  case round =>
    obtain ⟨k, hk, rfl, HK, HW⟩ := hrel
    by_cases hlt : k < L
    · have hlt' : (k : Int) < (L : Int) := by omega
      obtain ⟨c0, c1, c2, c3⟩ := H3.out k (by rw [← HL.out]; exact hlt)
      have bc : ∀ j, wr.cell? ⟨b, j, none⟩ = w.cell? ⟨b, j, none⟩ := fun j => HW.out.cell hb
      rw [← bc] at c0 c1 c2 c3
      have HN : Hid (okN fs k = (mayF (nth fs k) && decide ((findF (fs.take k) (nth fs k).at_).kind = 0))) := hide rfl
      have hfs : FSl wr (.slice (some ⟨b, o, none⟩) k cap) (fs.take k) := ⟨some ⟨b, o, none⟩, cap, by rw [List.length_take, Nat.min_eq_left (by rw [← HL.out]; omega)], by rw [List.length_take]; omega, (HFA.out.take k).below (HW.out.mono (Nat.le_refl _))⟩
      have hfl : (fs.take k).length ≤ 1000 := by rw [List.length_take]; omega
      obtain ⟨g, hg⟩ : ∃ g, g = nth fs k := ⟨_, rfl⟩
      rw [← hg] at c0 c1 c2 c3 HN
      have Q := hide (Blk.newAt wr wr.heap.size rfl #[.int .i64 g.at_, .int .i64 g.kind, .int .i64 g.byte, .int .i64 g.bit] 40)
      have b0 : Hid (Below (wr.alloc (Obj.cells #[Value.int .i64 g.at_, Value.int .i64 g.kind, Value.int .i64 g.byte, Value.int .i64 g.bit] 40)).heap.size (wr.alloc (Obj.cells #[Value.int .i64 g.at_, Value.int .i64 g.kind, Value.int .i64 g.byte, Value.int .i64 g.bit] 40)) (wr.alloc (Obj.cells #[Value.int .i64 g.at_, Value.int .i64 g.kind, Value.int .i64 g.byte, Value.int .i64 g.bit] 40)).drew) := bdrB _
      have HC : Hid (∀ w', Below (wr.alloc (Obj.cells #[Value.int .i64 g.at_, Value.int .i64 g.kind, Value.int .i64 g.byte, Value.int .i64 g.bit] 40)).heap.size (wr.alloc (Obj.cells #[Value.int .i64 g.at_, Value.int .i64 g.kind, Value.int .i64 g.byte, Value.int .i64 g.bit] 40)) w' → w'.cell? ⟨wr.heap.size, 0, none⟩ = some (.int .i64 g.at_) ∧ w'.cell? ⟨wr.heap.size, 1, none⟩ = some (.int .i64 g.kind) ∧ w'.cell? ⟨wr.heap.size, 2, none⟩ = some (.int .i64 g.byte) ∧ w'.cell? ⟨wr.heap.size, 3, none⟩ = some (.int .i64 g.bit)) := by
        intro w' hb'
        have Qq := Q.out.below hb' Q.out.lt
        exact ⟨Qq.cell 0, Qq.cell 1, Qq.cell 2, Qq.cell 3⟩
      have HWW := hide (HW.out.alloc HW.out.size (Obj.cells #[Value.int .i64 g.at_, Value.int .i64 g.kind, Value.int .i64 g.byte, Value.int .i64 g.bit] 40))
      have C1 : Hid (∀ X, Hid (Below (wr.alloc (Obj.cells #[Value.int .i64 g.at_, Value.int .i64 g.kind, Value.int .i64 g.byte, Value.int .i64 g.bit] 40)).heap.size (wr.alloc (Obj.cells #[Value.int .i64 g.at_, Value.int .i64 g.kind, Value.int .i64 g.byte, Value.int .i64 g.bit] 40)) X) → Calls Try.prog 31 #[.slice (some ⟨b, o, none⟩) k cap, .int .i64 g.at_] X fun e w' => e = .returned (fltV (findF (fs.take k) g.at_)) ∧ Hid (Below (wr.alloc (Obj.cells #[Value.int .i64 g.at_, Value.int .i64 g.kind, Value.int .i64 g.byte, Value.int .i64 g.bit] 40)).heap.size (wr.alloc (Obj.cells #[Value.int .i64 g.at_, Value.int .i64 g.kind, Value.int .i64 g.byte, Value.int .i64 g.bit] 40)) w') ∧ w'.cell? ⟨wr.heap.size, 0, none⟩ = some (.int .i64 g.at_) ∧ w'.cell? ⟨wr.heap.size, 1, none⟩ = some (.int .i64 g.kind) ∧ w'.cell? ⟨wr.heap.size, 2, none⟩ = some (.int .i64 g.byte) ∧ w'.cell? ⟨wr.heap.size, 3, none⟩ = some (.int .i64 g.bit)) := by
        intro X bX
        have bal : Below wr.heap.size wr (wr.alloc (Obj.cells #[Value.int .i64 g.at_, Value.int .i64 g.kind, Value.int .i64 g.byte, Value.int .i64 g.bit] 40)) := (Below.refl _ _).alloc (Nat.le_refl _) _
        refine (faultOf_any g.at_ (hfs.below (bal.trans (bX.out.mono bal.size))) hfl).mono ?_
        rintro e w' ⟨rfl, hb'⟩
        have bb := bX.out.trans (hb'.mono bX.out.size)
        exact ⟨rfl, bb, HC.out _ bb⟩
      have C0 : Hid (∀ X, Hid (Below (wr.alloc (Obj.cells #[Value.int .i64 g.at_, Value.int .i64 g.kind, Value.int .i64 g.byte, Value.int .i64 g.bit] 40)).heap.size (wr.alloc (Obj.cells #[Value.int .i64 g.at_, Value.int .i64 g.kind, Value.int .i64 g.byte, Value.int .i64 g.bit] 40)) X) → Calls Try.prog 36 #[.agg #[.int .i64 g.at_, .int .i64 g.kind, .int .i64 g.byte, .int .i64 g.bit]] X fun e w' => e = .returned (.bool (mayF g)) ∧ Hid (Below (wr.alloc (Obj.cells #[Value.int .i64 g.at_, Value.int .i64 g.kind, Value.int .i64 g.byte, Value.int .i64 g.bit] 40)).heap.size (wr.alloc (Obj.cells #[Value.int .i64 g.at_, Value.int .i64 g.kind, Value.int .i64 g.byte, Value.int .i64 g.bit] 40)) w') ∧ w'.cell? ⟨wr.heap.size, 0, none⟩ = some (.int .i64 g.at_) ∧ w'.cell? ⟨wr.heap.size, 1, none⟩ = some (.int .i64 g.kind) ∧ w'.cell? ⟨wr.heap.size, 2, none⟩ = some (.int .i64 g.byte) ∧ w'.cell? ⟨wr.heap.size, 3, none⟩ = some (.int .i64 g.bit)) := by
        intro X bX
        refine (may_any g X).mono ?_
        rintro e w' ⟨rfl, hb'⟩
        have bb := bX.out.trans (hb'.mono bX.out.size)
        exact ⟨rfl, bb, HC.out _ bb⟩
      obtain ⟨q0, q1, q2, q3⟩ := Q.out.four
      generalize findF (fs.take k) g.at_ = q at *
      unfold fltV at C1
      have hkc : (k : Int) ≤ (cap : Int) := by omega
      have hfld := fld_kind q
      clear hfs hfl HC bc hg HW H3 HFA
      by_cases hm : mayF g = true
      · rw [hm] at C0 HN
        go_wp2_with fail
        have mk0 : True := trivial
        go_region_held3 (fun w' => w'.cell? ⟨wr.heap.size, 0, none⟩ = some (.int .i64 g.at_) ∧ w'.cell? ⟨wr.heap.size, 1, none⟩ = some (.int .i64 g.kind) ∧ w'.cell? ⟨wr.heap.size, 2, none⟩ = some (.int .i64 g.byte) ∧ w'.cell? ⟨wr.heap.size, 3, none⟩ = some (.int .i64 g.bit)) (go_keep) (first
          | (clear mk0; go_at_call 36; refine (C0.out _ b0).mono ?_; rintro e v1 ⟨rfl, b1, y0, y1, y2, y3⟩; have mk1 : True := trivial)
          | (clear mk1; go_at_call 31; refine (C1.out _ b1).mono ?_; rintro e v2 ⟨rfl, b2, z0, z1, z2, z3⟩; have mk2 : True := trivial))
        have HB2 := hide (HWW.out.trans (b2.out.mono HWW.out.size))
        clear b0 b1 b2 C0 C1
        by_cases hq : q.kind = 0
        · have hq' : (q.kind != 0) = false := by rw [hq]; rfl
          have HK2 : Hid (okTo fs (k + 1) = true) := hide (by simp only [okTo]; rw [HK.out, HN.out, hq]; rfl)
          clear hq
          go_wp2
          exact ⟨⟨k + 1, by omega, by go_num, HK2, HB2⟩, by simp [intOf]; omega⟩
        · have hq' : (q.kind != 0) = true := bne_iff_ne.2 hq
          have HK2 : Hid (okTo fs L = false) := hide (okTo_false (k := k) (by rw [HN.out]; simp [hq]) L hlt)
          clear hq
          go_wp2
          go_ret
          exact ⟨by rw [HK2.out]; rfl, HB2.out⟩
      · have hm' : mayF g = false := by simpa using hm
        rw [hm'] at C0 HN
        have HK2 : Hid (okTo fs L = false) := hide (okTo_false (k := k) (by rw [HN.out]; rfl) L hlt)
        clear hm hm' C1
        go_wp2_with fail
        have mk0 : True := trivial
        refine wp_region_held_drew (S := (fun w' => w'.cell? ⟨wr.heap.size, 0, none⟩ = some (.int .i64 g.at_) ∧ w'.cell? ⟨wr.heap.size, 1, none⟩ = some (.int .i64 g.kind) ∧ w'.cell? ⟨wr.heap.size, 2, none⟩ = some (.int .i64 g.byte) ∧ w'.cell? ⟨wr.heap.size, 3, none⟩ = some (.int .i64 g.bit))) (by kernel_rfl) ?_ (fun hHeld => ?_)
        · (try dsimp only)
          go_keep
        refine wpAnyH_take (i := 0) (oi := Oper.mk (some 15) _ _ _ _ _) (v := .agg #[.int .i64 g.at_, .int .i64 g.kind, .int .i64 g.byte, .int .i64 g.bit]) rfl (by kernel_rfl) (by kernel_rfl) (by kernel_rfl) (fun _ _ _ h => h) (Or.inl ⟨by rfl, ?_⟩) (by assumption) ?_
        · intro wX hSw
          (try dsimp only at hSw)
          go_simp
        simp only [Act.put, List.setIfInBounds_toArray, List.set_cons_succ, List.set_cons_zero]
        refine wpAnyH_ready (rs := [1]) (by kernel_rfl) (by simp) ?_
        refine AllReadyH.cons (o := Oper.mk (some 16) _ _ _ _ _) rfl (fun K hK => ?_) AllReadyH.nil
        go_simp
        go_at_call 36
        refine (C0.out _ b0).mono ?_
        rintro e v1 ⟨rfl, b1, y0, y1, y2, y3⟩
        refine hK.out _ _ ?_ (fun hHeld => ?_)
        · (try dsimp only)
          go_keep
        clear hK K
        refine wpAnyH_take (i := 2) (oi := Oper.mk (some 17) _ _ _ _ _) (v := .bool true) rfl (by kernel_rfl) (by kernel_rfl) (by kernel_rfl) (fun _ _ _ h => h) (Or.inl ⟨by rfl, ?_⟩) (by assumption) ?_
        · intro wX hSw
          (try dsimp only at hSw)
          go_simp
        simp only [Act.put, List.setIfInBounds_toArray, List.set_cons_succ, List.set_cons_zero]
        refine wpAnyH_take (i := 3) (oi := Oper.mk (some 18) _ _ _ _ _) (v := .bool true) rfl (by kernel_rfl) (by kernel_rfl) (by kernel_rfl) (fun _ _ _ h => h) (Or.inl ⟨by rfl, ?_⟩) (by assumption) ?_
        · intro wX hSw
          (try dsimp only at hSw)
          go_simp
        simp only [Act.put, List.setIfInBounds_toArray, List.set_cons_succ, List.set_cons_zero]
        refine wpAnyH_take (i := 4) (oi := Oper.mk (some 19) _ _ _ _ _) (v := undef) rfl (by kernel_rfl) (by kernel_rfl) (by kernel_rfl) (fun _ _ _ h => h) (Or.inr ⟨by rfl, rfl⟩) (by assumption) ?_
        simp only [Act.put, List.setIfInBounds_toArray, List.set_cons_succ, List.set_cons_zero]
        refine wpAnyH_take (i := 5) (oi := Oper.mk (some 20) _ _ _ _ _) (v := undef) rfl (by kernel_rfl) (by kernel_rfl) (by kernel_rfl) (fun _ _ _ h => h) (Or.inr ⟨by rfl, rfl⟩) (by assumption) ?_
        simp only [Act.put, List.setIfInBounds_toArray, List.set_cons_succ, List.set_cons_zero]
        refine wpAnyH_take (i := 6) (oi := Oper.mk (some 21) _ _ _ _ _) (v := undef) rfl (by kernel_rfl) (by kernel_rfl) (by kernel_rfl) (fun _ _ _ h => h) (Or.inr ⟨by rfl, rfl⟩) (by assumption) ?_
        simp only [Act.put, List.setIfInBounds_toArray, List.set_cons_succ, List.set_cons_zero]
        refine wpAnyH_take (i := 7) (oi := Oper.mk (some 22) _ _ _ _ _) (v := undef) rfl (by kernel_rfl) (by kernel_rfl) (by kernel_rfl) (fun _ _ _ h => h) (Or.inr ⟨by rfl, rfl⟩) (by assumption) ?_
        simp only [Act.put, List.setIfInBounds_toArray, List.set_cons_succ, List.set_cons_zero]
        refine wpAnyH_take (i := 8) (oi := Oper.mk (some 23) _ _ _ _ _) (v := undef) rfl (by kernel_rfl) (by kernel_rfl) (by kernel_rfl) (fun _ _ _ h => h) (Or.inr ⟨by rfl, rfl⟩) (by assumption) ?_
        simp only [Act.put, List.setIfInBounds_toArray, List.set_cons_succ, List.set_cons_zero]
        refine wpAnyH_take (i := 9) (oi := Oper.mk (some 24) _ _ _ _ _) (v := undef) rfl (by kernel_rfl) (by kernel_rfl) (by kernel_rfl) (fun _ _ _ h => h) (Or.inr ⟨by rfl, rfl⟩) (by assumption) ?_
        simp only [Act.put, List.setIfInBounds_toArray, List.set_cons_succ, List.set_cons_zero]
        refine wpAnyH_take (i := 10) (oi := Oper.mk (some 25) _ _ _ _ _) (v := undef) rfl (by kernel_rfl) (by kernel_rfl) (by kernel_rfl) (fun _ _ _ h => h) (Or.inr ⟨by rfl, rfl⟩) (by assumption) ?_
        simp only [Act.put, List.setIfInBounds_toArray, List.set_cons_succ, List.set_cons_zero]
        refine wpAnyH_take (i := 11) (oi := Oper.mk (some 26) _ _ _ _ _) (v := undef) rfl (by kernel_rfl) (by kernel_rfl) (by kernel_rfl) (fun _ _ _ h => h) (Or.inr ⟨by rfl, rfl⟩) (by assumption) ?_
        simp only [Act.put, List.setIfInBounds_toArray, List.set_cons_succ, List.set_cons_zero]
        refine wpAnyH_take (i := 12) (oi := Oper.mk (some 27) _ _ _ _ _) (v := .bool true) rfl (by kernel_rfl) (by kernel_rfl) (by kernel_rfl) (fun _ _ _ h => h) (Or.inl ⟨by rfl, ?_⟩) (by assumption) ?_
        · intro wX hSw
          (try dsimp only at hSw)
          go_simp
        simp only [Act.put, List.setIfInBounds_toArray, List.set_cons_succ, List.set_cons_zero]
        refine wpAnyH_done (by kernel_rfl) ?_ _
        have HB2 := hide (HWW.out.trans (b1.out.mono HWW.out.size))
        clear b0 b1 C0
        go_wp2
        go_ret
        exact ⟨by rw [HK2.out]; rfl, HB2.out⟩
    · obtain rfl : k = L := by omega
      have hlt' : ¬ (k : Int) < (k : Int) := by omega
      clear hlt
      go_wp2
      go_ret
      exact ⟨by rw [HK.out]; rfl, HW.out⟩

theorem mayAll_any {w : World} {v : Value} {fs : List Flt} (h : FSl w v fs) (hl : fs.length ≤ 9223372036854775807) : Calls Try.prog 28 #[v] w fun e w' => e = .returned (.bool (mayAllF fs)) ∧ Below w.heap.size w w' := by
  obtain ⟨ao, cap, rfl, h2, h3⟩ := h
  by_cases hq : fs.length ≤ 64
  · have e : mayAllF fs = okTo fs fs.length := by unfold mayAllF; simp [hq]
    rw [e]
    rcases h3 with rfl | ⟨b, o, rfl, hb, h3⟩
    · exact mayAll_nil ao cap w
    · exact mayAll_at b o cap fs w hq hb h2 h3
  · have e : mayAllF fs = false := by unfold mayAllF; simp [hq]
    rw [e]
    exact mayAll_long ao fs.length cap w (by omega) hl

end Go.Proofs.Ytdbbdclhfcakdaa

namespace Go.Proofs.Ytdbbdclhfcakdaa
open Go.RowKit

def flipB (l : List UInt8) (p k : Nat) : List UInt8 := l.set p (UInt8.ofNat (byt l p ^^^ 2 ^ k))

set_option maxHeartbeats 1000000 in
theorem leaves_any (f : Flt) (s : ByteArray) (w : World) : Calls Try.prog 37 #[fltV f, .string s] w fun e w' => e = .returned (.tuple #[.string s, .int .i64 0]) ∧ Below w.heap.size w w' := by
  unfold fltV
  have HB0 : Hid (Below w.heap.size w (w.alloc (.cells #[.int .i64 f.at_, .int .i64 f.kind, .int .i64 f.byte, .int .i64 f.bit] 62))) := (Below.refl _ _).alloc (Nat.le_refl _) _
  go_enter Try.func37, Try.ntmps37
  go_wp2
  go_ret2
  exact ⟨rfl, HB0.out⟩

set_option maxHeartbeats 1000000 in
theorem fails_any (f : Flt) (s : ByteArray) (w : World) : Calls Try.prog 38 #[fltV f, .string s] w fun e w' => e = .returned (.tuple #[.string ⟨#[]⟩, .int .i64 100]) ∧ Below w.heap.size w w' := by
  unfold fltV
  have HB0 : Hid (Below w.heap.size w (w.alloc (.cells #[.int .i64 f.at_, .int .i64 f.kind, .int .i64 f.byte, .int .i64 f.bit] 62))) := (Below.refl _ _).alloc (Nat.le_refl _) _
  go_enter Try.func38, Try.ntmps38
  go_wp2
  go_ret2
  exact ⟨rfl, HB0.out⟩

set_option maxHeartbeats 1000000 in
theorem shortens_any (f : Flt) (s : ByteArray) (p : Nat) (w : World) (hp : Int.tmod f.byte (s.size : Int) = (p : Int)) (hps : p < s.size) : Calls Try.prog 39 #[fltV f, .string s] w fun e w' => e = .returned (.tuple #[.string (s.extract 0 p), .int .i64 0]) ∧ Below w.heap.size w w' := by
  unfold fltV
  have HB0 : Hid (Below w.heap.size w (w.alloc (.cells #[.int .i64 f.at_, .int .i64 f.kind, .int .i64 f.byte, .int .i64 f.bit] 62))) := (Below.refl _ _).alloc (Nat.le_refl _) _
  have h0 : ((s.size : Int) == 0) = false := beq_eq_false_iff_ne.2 (by omega)
  have h1 : (p : Int) ≤ (s.size : Int) := by omega
  go_enter Try.func39, Try.ntmps39
  go_wp2
  go_ret2
  exact ⟨rfl, HB0.out⟩

set_option maxHeartbeats 1000000 in
theorem flips_any (f : Flt) (s : ByteArray) (p k : Nat) (w : World) (hp : Int.tmod f.byte (s.size : Int) = (p : Int)) (hps : p < s.size) (hs : s.size ≤ 64) (hk : f.bit = (k : Int)) (hk7 : k ≤ 7) : Calls Try.prog 40 #[fltV f, .string s] w fun e w' => e = .returned (.tuple #[.string ⟨(flipB (bys s) p k).toArray⟩, .int .i64 0]) ∧ Below w.heap.size w w' := by
  unfold fltV
  rw [hk]
  obtain ⟨i0, hi, hz0, hz1, hz2⟩ := info_parts Try.infoBz
  have HB0 : Hid (Below w.heap.size w (w.alloc (.cells #[.int .i64 f.at_, .int .i64 f.kind, .int .i64 f.byte, .int .i64 (k : Int)] 62))) := (Below.refl _ _).alloc (Nat.le_refl _) _
  have BF0 := hide (Blk.newAt w w.heap.size rfl #[.int .i64 f.at_, .int .i64 f.kind, .int .i64 f.byte, .int .i64 (k : Int)] 62)
  have h0 : ((s.size : Int) == 0) = false := beq_eq_false_iff_ne.2 (by omega)
  have h1 : (p : Int) ≤ (s.size : Int) := by omega
  go_enter Try.func40, Try.ntmps40
  go_wp2_with (at_make; refine wpList_make_full _ rfl _ _ 52 rfl (w.heap.size + 1) 5 i0 (.int .u8 0) 1 Try.underlying52 hi hz0 hz1 _ _ _ _ s.size rfl rfl (by omega) (by omega) (by rw [hz2]; omega) (by unfold maxLen; omega) (by simp) ?_)
  intro w1 hown hgrow
  obtain ⟨G, hG⟩ : ∃ G, G = w.heap.size + 1 := ⟨_, rfl⟩
  have e0 : (w.alloc (.cells #[.int .i64 f.at_, .int .i64 f.kind, .int .i64 f.byte, .int .i64 (k : Int)] 62)).heap.size = G := by rw [hG]; simp
  have bw1 : Below (w.heap.size + 1) (w.alloc (.cells #[.int .i64 f.at_, .int .i64 f.kind, .int .i64 f.byte, .int .i64 (k : Int)] 62)) w1 := (Below.refl _ _).grown hgrow (by simp) (fun k hk => by cases hk)
  have hr1 : Row .u8 5 w1 G (List.replicate s.size 0) := by rw [hG]; exact Row.made (by first | exact hown | simpa using hown)
  have BF1 := hide (BF0.out.below bw1 (by omega))
  have HB1 := hide (HB0.out.trans (bw1.mono (by omega)))
  have hcp := fun ty => Lib.run_copy_row_string (P := Try.prog) w1 52 9 ty 5 G 0 s.size s.size s _ 5 Try.underlying52 (by rw [hi]; simp [hz1]) hr1 (Nat.le_refl _) (by simp [vals])
  have hrow2 : Row .u8 5 (w1.setRow G ((vals .u8 (List.replicate s.size 0)).toArray.toList.take 0 ++ Lib.byteCells s.data.toList ++ (vals .u8 (List.replicate s.size 0)).toArray.toList.drop (0 + s.size)).toArray) G ((bys s).map UInt8.toNat) := by
    have e := setRow_heap w1 G _ ((vals .u8 (List.replicate s.size 0)).toArray.toList.take 0 ++ Lib.byteCells s.data.toList ++ (vals .u8 (List.replicate s.size 0)).toArray.toList.drop (0 + s.size)).toArray 5 (0, 0) hr1
    unfold Row
    rw [e]
    congr 3
    rw [List.take_zero, List.nil_append, List.drop_eq_nil_of_le (by simp [vals]), List.append_nil]
    unfold vals Lib.byteCells bys
    rw [List.map_map]
    rfl
  have bw2 : Below G w1 (w1.setRow G ((vals .u8 (List.replicate s.size 0)).toArray.toList.take 0 ++ Lib.byteCells s.data.toList ++ (vals .u8 (List.replicate s.size 0)).toArray.toList.drop (0 + s.size)).toArray) := by
    refine ⟨rfl, rfl, rfl, by simp [World.setRow], fun j hj => ?_⟩
    simp only [World.setRow, Array.getElem?_modify]
    rw [if_neg (by omega)]
  obtain ⟨W2, hW2⟩ : ∃ W2, W2 = (w1.setRow G ((vals .u8 (List.replicate s.size 0)).toArray.toList.take 0 ++ Lib.byteCells s.data.toList ++ (vals .u8 (List.replicate s.size 0)).toArray.toList.drop (0 + s.size)).toArray) := ⟨_, rfl⟩
  rw [← hW2] at hcp hrow2 bw2
  have hG' : w.heap.size + 1 = G := hG.symm
  clear hG
  have HR2 := hide hrow2
  have BF2 := hide (BF1.out.below bw2 (by omega))
  have HB2 := hide (HB1.out.trans (bw2.mono (by omega)))
  have gn1 : ¬ G = w.heap.size := by omega
  have gn2 : ¬ w.heap.size = G := by omega
  have cf0 := BF2.out.cell 2
  have cf1 := BF2.out.cell 3
  have cg := HR2.out.cell p (by rw [List.length_map, bys_len]; exact hps)
  have cz := HR2.out.free p
  clear hW2 hown hgrow hr1 BF0 HB0 BF1 HB1 bw1 bw2 hrow2 e0
  obtain ⟨q, hq⟩ : ∃ q, q = dg ((bys s).map UInt8.toNat) p := ⟨_, rfl⟩
  rw [← hq] at cg
  have HQ := hide hq
  have hpi : (p : Int) < (s.size : Int) := by omega
  have hqb : q = byt (bys s) p := by
    rw [hq]; unfold dg byt; simp
  have hql : q < 256 := by rw [hqb]; exact byt_lt _ _
  have hk2 : 2 ^ k < 256 := Nat.lt_of_le_of_lt (Nat.pow_le_pow_right (by decide) hk7) (by decide)
  have E4 : Hid (bits .xor .u8 (q : Int) (2 ^ k % 256) = ((q ^^^ 2 ^ k : Nat) : Int)) := hide (by
    have := u8_xor_nat q (2 ^ k) hql hk2
    have e : ((2 : Int) ^ k) = ((2 ^ k : Nat) : Int) := (Int.natCast_pow 2 k).symm
    have e2 : (((2 ^ k : Nat) : Int) % 256) = ((2 ^ k : Nat) : Int) := Int.emod_eq_of_lt (Int.natCast_nonneg _) (Int.ofNat_lt.2 hk2)
    rw [e, e2]
    exact this)
  have HCV : Hid ((convert 52 9 (.slice (some ⟨G, 0, none⟩) s.size s.size)).run Try.prog (W2.setCell ⟨G, p, none⟩ (.int .u8 ((q ^^^ 2 ^ k : Nat) : Int))).drew = .ok (.string ⟨(flipB (bys s) p k).toArray⟩) (W2.setCell ⟨G, p, none⟩ (.int .u8 ((q ^^^ 2 ^ k : Nat) : Int))).drew) := hide (by
    have hrr := (HR2.out.set p (q ^^^ 2 ^ k))
    have hl : s.size = (flipB (bys s) p k).length := by unfold flipB; rw [List.length_set, bys_len]
    rw [hl]
    refine convB_at fun i hi => ?_
    have hc := hrr.cell i (by rw [List.length_set, List.length_map, bys_len]; rw [← hl] at hi; exact hi)
    have e : dg (((bys s).map UInt8.toNat).set p (q ^^^ 2 ^ k)) i = byt (flipB (bys s) p k) i := by
      have e2 : ((bys s).map UInt8.toNat).set p (q ^^^ 2 ^ k) = (flipB (bys s) p k).map UInt8.toNat := by
        unfold flipB
        rw [List.map_set, hqb]
        congr 1
        rw [UInt8.toNat_ofNat']
        exact (Nat.mod_eq_of_lt (Nat.xor_lt_two_pow (n := 8) (byt_lt _ _) hk2)).symm
      rw [e2]
      unfold dg byt
      simp
    rw [e] at hc
    rw [Nat.zero_add]
    exact hc)
  clear hq hi hz0 hz1 hz2 hqb hql hk2
  go_wp2_with fail
  simp only [hG']
  go_region
  rw [E4.out]
  have e5 := HCV.out
  go_wp2
  go_ret2
  exact ⟨rfl, (HB2.out.setCell (by show w.heap.size ≤ G; omega) _).drew⟩

end Go.Proofs.Ytdbbdclhfcakdaa

namespace Go.Proofs.Ytdbbdclhfcakdaa
open Go.RowKit

structure But (D : Nat) (w w' : World) : Prop where
  os : w'.os = w.os
  tape : w'.tape = w.tape
  output : w'.output = w.output
  size : w.heap.size ≤ w'.heap.size
  block : ∀ b, b < w.heap.size → b ≠ D → w'.heap[b]? = w.heap[b]?

section
variable {D : Nat} {a b c : World}
theorem But.refl (D : Nat) (w : World) : But D w w := ⟨rfl, rfl, rfl, Nat.le_refl _, fun _ _ _ => rfl⟩
theorem But.of_below (h : Below a.heap.size a b) : But D a b := ⟨h.os, h.tape, h.output, h.size, fun i hi _ => h.block i hi⟩
theorem But.trans (h : But D a b) (k : But D b c) : But D a c :=
  ⟨k.os.trans h.os, k.tape.trans h.tape, k.output.trans h.output, Nat.le_trans h.size k.size, fun i hi hn => (k.block i (Nat.lt_of_lt_of_le hi h.size) hn).trans (h.block i hi hn)⟩
theorem But.set (h : But D a b) (i : Nat) (v : Value) : But D a (b.setCell ⟨D, i, none⟩ v) := by
  refine ⟨h.os, h.tape, h.output, by simpa [World.setCell] using h.size, fun k hk hn => ?_⟩
  rw [← h.block k hk hn]
  have : D ≠ k := fun e => hn e.symm
  simp [World.setCell, Array.getElem?_modify, this]
theorem But.to_below (h : But D a b) {B : Nat} (hB : B ≤ a.heap.size) (hD : B ≤ D) : Below B a b := ⟨h.os, h.tape, h.output, h.size, fun k hk => h.block k (by omega) (by omega)⟩
theorem But.blk (h : But D a b) {g : Nat} {cs : Array Value} {t : TypeId} (hg : Blk a g cs t) (hn : g ≠ D) : Blk b g cs t := by
  have hlt := hg.lt
  unfold Blk at *
  rw [h.block g hlt hn]; exact hg
theorem But.cell (h : But D a b) {g i : Nat} (hg : g < a.heap.size) (hn : g ≠ D) : b.cell? ⟨g, i, none⟩ = a.cell? ⟨g, i, none⟩ := World.cell?_of_block (h.block g hg hn)
end

def Off (v : Value) (D : Nat) : Prop := ∀ b o l c, v = .slice (some ⟨b, o, none⟩) l c → b ≠ D

theorem FSl.but {D : Nat} {w w' : World} {v : Value} {fs : List Flt} (h : FSl w v fs) (hb : But D w w') (ho : Off v D) : FSl w' v fs := by
  obtain ⟨ao, cap, rfl, h2, h3⟩ := h
  refine ⟨ao, cap, rfl, h2, ?_⟩
  rcases h3 with h | ⟨b, o, rfl, h4, h5⟩
  · exact .inl h
  · refine .inr ⟨b, o, rfl, Nat.lt_of_lt_of_le h4 hb.size, fun i hi => ?_⟩
    have hn := ho b o _ _ rfl
    obtain ⟨k0, k1, k2, k3⟩ := h5 i hi
    exact ⟨(hb.cell h4 hn).trans k0, (hb.cell h4 hn).trans k1, (hb.cell h4 hn).trans k2, (hb.cell h4 hn).trans k3⟩

structure Dsk (t : TypeId) (w : World) (D : Nat) (v : Value) (img : ByteArray) (fs : List Flt) (r : Nat) : Prop where
  blk : Blk w D #[.string img, v, .int .i64 (r : Int)] t
  lst : FSl w v fs
  off : Off v D
  many : fs.length ≤ 64
  may : ∀ k, k < fs.length → mayF (nth fs k) = true

theorem Dsk.but {t : TypeId} {E D : Nat} {w w' : World} {v : Value} {img : ByteArray} {fs : List Flt} {r : Nat} (h : Dsk t w D v img fs r) (hb : But E w w') (hn : D ≠ E) (ho : Off v E) : Dsk t w' D v img fs r :=
  ⟨hb.blk h.blk hn, h.lst.but hb ho, h.off, h.many, h.may⟩
theorem Dsk.below {t : TypeId} {D : Nat} {w w' : World} {v : Value} {img : ByteArray} {fs : List Flt} {r : Nat} (h : Dsk t w D v img fs r) (hb : Below w.heap.size w w') : Dsk t w' D v img fs r :=
  ⟨h.blk.below hb h.blk.lt, h.lst.below hb, h.off, h.many, h.may⟩

section
variable {w : World} {D : Nat} {v : Value} {img : ByteArray} {fs : List Flt} {r : Nat}
set_option maxHeartbeats 1000000 in
theorem Size_any (h : Dsk 60 w D v img fs r) : Calls Try.prog 21 #[.pointer (some ⟨D, 0, none⟩)] w fun e w' => e = .returned (.int .i64 (img.size : Int)) ∧ w = w' := by
  have hB := h.blk
  have c0 := hB.cell 0
  clear h hB
  go_enter Try.func21, Try.ntmps21
  go_wp2
  go_ret
  exact ⟨rfl, rfl⟩

set_option maxHeartbeats 1000000 in
theorem Reads_any (h : Dsk 60 w D v img fs r) : Calls Try.prog 20 #[.pointer (some ⟨D, 0, none⟩)] w fun e w' => e = .returned (.int .i64 (r : Int)) ∧ w = w' := by
  have hB := h.blk
  have c0 := hB.cell 2
  clear h hB
  go_enter Try.func20, Try.ntmps20
  go_wp2
  go_ret
  exact ⟨rfl, rfl⟩

def hasT (size : Nat) (at_ n : Int) : Bool := decide (1 ≤ n ∧ n ≤ 64 ∧ 0 ≤ at_ ∧ at_ + n ≤ (size : Int))

set_option maxHeartbeats 1000000 in
theorem has_any (at_ n : Int) (hi : img.size ≤ 65552) (h : Dsk 60 w D v img fs r) : Calls Try.prog 30 #[.pointer (some ⟨D, 0, none⟩), .int .i64 at_, .int .i64 n] w fun e w' => e = .returned (.bool (hasT img.size at_ n)) ∧ w = w' := by
  have HS := hide (Size_any h)
  clear h
  by_cases g1 : 1 ≤ n
  · by_cases g2 : n ≤ 64
    · by_cases g3 : 0 ≤ at_
      · go_enter Try.func30, Try.ntmps30
        go_wp2_with fail
        refine HS.out.mono ?_
        rintro e w1 ⟨rfl, rfl⟩
        go_wp2
        go_ret
        refine ⟨?_, rfl⟩
        refine congrArg (fun b => Ending.returned (Value.bool b)) (a₂ := hasT img.size at_ n) ?_
        exact decide_eq_decide.2 (by omega)
      · have e : hasT img.size at_ n = false := decide_eq_false (by omega)
        rw [e]
        go_enter Try.func30, Try.ntmps30
        go_wp2
        go_ret
        exact ⟨rfl, rfl⟩
    · have e : hasT img.size at_ n = false := decide_eq_false (by omega)
      rw [e]
      go_enter Try.func30, Try.ntmps30
      go_wp2
      go_ret
      exact ⟨rfl, rfl⟩
  · have e : hasT img.size at_ n = false := decide_eq_false (by omega)
    rw [e]
    go_enter Try.func30, Try.ntmps30
    go_wp2
    go_ret
    exact ⟨rfl, rfl⟩
end

def fourF : Array Value := #[.func (.func 37) #[] #[], .func (.func 38) #[] #[], .func (.func 39) #[] #[], .func (.func 40) #[] #[]]

set_option maxHeartbeats 1000000 in
theorem changes_any (w : World) : Calls Try.prog 32 #[] w fun e w' => ∃ C, e = .returned (.slice (some ⟨C, 0, none⟩) 4 4) ∧ Blk w' C fourF 64 ∧ Below w.heap.size w w' := by
  go_enter Try.func32, Try.ntmps32
  go_wp2
  go_ret
  exact ⟨w.heap.size, rfl, Blk.new _ _ _, (Below.refl _ _).alloc (Nat.le_refl _) _⟩

end Go.Proofs.Ytdbbdclhfcakdaa

namespace Go.Proofs.Ytdbbdclhfcakdaa
open Go.RowKit

structure CutF (W : World) (cs : Array Value) (v : Value) (W' : World) : Prop where
  ex : ∃ F : Nat, v = .pointer (some ⟨F, 0, none⟩) ∧ Blk W' F cs 62 ∧ W.heap.size ≤ F ∧ Below W.heap.size W W'

theorem cutf_old {W w3 : World} {F : Nat} {x0 x1 x2 x3 y0 y1 y2 y3 : Value} (hb : Below W.heap.size W w3) (q : Blk w3 F #[x0, x1, x2, x3] 62) (hF : W.heap.size ≤ F) :
    CutF W #[y0, y1, y2, y3] (.pointer (some ⟨F, 0, none⟩)) ((((w3.setCell ⟨F, 0, none⟩ y0).setCell ⟨F, 1, none⟩ y1).setCell ⟨F, 2, none⟩ y2).setCell ⟨F, 3, none⟩ y3) :=
  ⟨F, rfl, q.put4 _ _ _ _, hF, below_putB hb hF _ _ _ _⟩

theorem cutf_new {W w3 : World} {cs : Array Value} (hb : Below W.heap.size W w3) :
    CutF W cs (.pointer (some ⟨w3.heap.size, 0, none⟩)) (w3.alloc (.cells cs 62)) :=
  ⟨w3.heap.size, rfl, Blk.new _ _ _, hb.size, hb.alloc hb.size _⟩

theorem Blk.set2 {w : World} {b : Nat} {x0 x1 x2 : Value} {t : TypeId} (h : Blk w b #[x0, x1, x2] t) (v : Value) : Blk (w.setCell ⟨b, 2, none⟩ v) b #[x0, x1, v] t := by
  unfold Blk at *
  simp only [World.setCell, Array.getElem?_modify, if_true, h, Option.map_some]
  rfl

set_option maxRecDepth 100000 in
set_option maxHeartbeats 2000000 in
theorem read_ok (kd fno : Nat) (g : Flt) (img A : ByteArray) (E : Int) (fs : List Flt) (r p n D : Nat) (v : Value) (w : World) (h : Dsk 60 w D v img fs r) (hg : findF fs (r : Int) = g) (hgk : g.kind = (kd : Int)) (hk4 : kd < 4) (hi : img.size ≤ 65552) (hr : r ≤ 1000000000000000000)
    (hh : hasT img.size (p : Int) (n : Int) = true) (hcell : fourF[kd]? = some (.func (.func fno) #[] #[])) (hent : ∀ args w, (callFunc fno args).run Try.prog w = .ok (.enter fno args) w)
    (hcon : ∀ X, Calls Try.prog fno #[fltV g, .string (img.extract p (p + n))] X fun e w' => e = .returned (.tuple #[.string A, .int .i64 E]) ∧ Below X.heap.size X w') :
    Calls Try.prog 18 #[.pointer (some ⟨D, 0, none⟩), .int .i64 (p : Int), .int .i64 (n : Int)] w fun e w' => e = .returned (.tuple #[.string A, .int .i64 E]) ∧ But D w w' ∧ Dsk 60 w' D v img fs (r + 1) := by
  have HH := hide (has_any (p : Int) (n : Int) hi h)
  rw [hh] at HH
  have hhp : 1 ≤ n ∧ n ≤ 64 ∧ p + n ≤ img.size := by
    have := of_decide_eq_true hh
    omega
  have hB := h.blk
  have hF := h.lst
  have hO := h.off
  obtain ⟨ao, cap, rfl, hF2⟩ := id hF
  have HF := hide hF
  have HFS := hide hF
  have HO := hide hO
  have HMY := hide h.may
  have HMN := hide h.many
  have BD0 := hide hB
  have hDl := hB.lt
  have hml := h.many
  obtain ⟨L, hL⟩ : ∃ L, L = fs.length := ⟨_, rfl⟩
  rw [← hL] at HF HFS HO BD0 hml
  have HC0 : Hid (∀ w', Below w.heap.size w w' → w'.cell? ⟨D, 1, none⟩ = some (.slice ao L cap) ∧ w'.cell? ⟨D, 2, none⟩ = some (.int .i64 (r : Int))) := by
    intro w' hb
    have q := BD0.out.below hb BD0.out.lt
    exact ⟨q.cell 1, q.cell 2⟩
  have C0 : Hid (∀ X, Hid (Below w.heap.size w X) → Calls Try.prog 31 #[.slice ao L cap, .int .i64 (r : Int)] X fun e w' => e = .returned (.agg #[.int .i64 g.at_, .int .i64 (kd : Int), .int .i64 g.byte, .int .i64 g.bit]) ∧ Hid (Below X.heap.size X w') ∧ Hid (Below w.heap.size w w') ∧ w'.cell? ⟨D, 1, none⟩ = some (.slice ao L cap) ∧ w'.cell? ⟨D, 2, none⟩ = some (.int .i64 (r : Int))) := by
    intro X bX
    refine (faultOf_any (r : Int) (HF.out.below bX.out) (by rw [← hL]; omega)).mono ?_
    rintro e w' ⟨rfl, hb⟩
    have bb := bX.out.trans (hb.mono bX.out.size)
    refine ⟨?_, hb, bb, HC0.out _ bb⟩
    rw [hg]
    unfold fltV
    rw [hgk]
  have HCON := hide hcon
  unfold fltV at HCON
  rw [hgk] at HCON
  rw [show p + n = ((p : Int) + (n : Int)).toNat by omega] at HCON
  have y1 := hB.cell 1
  have y2 := hB.cell 2
  rw [← hL] at y1
  have n1 : ¬ D = w.heap.size := by omega
  have n2 : ¬ w.heap.size = D := by omega
  have b0 := bdrB w
  have HLL := hide hL
  clear hcon hg hgk hL hB hF hO hF2 HF HC0 hh h
  go_enter Try.func18, Try.ntmps18
  go_wp2_with fail
  refine HH.out.mono ?_
  rintro e w1 ⟨rfl, rfl⟩
  go_wp2_with fail
  go_cut [8] (fun vp wx => CutF w #[.int .i64 g.at_, .int .i64 (kd : Int), .int .i64 g.byte, .int .i64 g.bit] vp wx)
  case first =>
    have mk0 : True := trivial
    go_region_held3 (fun w' => w'.cell? ⟨D, 1, none⟩ = some (.slice ao L cap) ∧ w'.cell? ⟨D, 2, none⟩ = some (.int .i64 (r : Int))) (go_keep) (first
      | (clear mk0; go_at_call 31; refine (C0.out _ (hide (b0.out.alloc b0.out.size (Obj.cells #[Value.int .i64 0, Value.int .i64 0, Value.int .i64 0, Value.int .i64 0] 62)))).mono ?_; rintro e u1 ⟨rfl, R1, b1, q0, q1⟩; have QN := (Blk.newAt w.drew w.heap.size rfl #[.int .i64 0, .int .i64 0, .int .i64 0, .int .i64 0] 62).below R1.out (Blk.newAt w.drew w.heap.size rfl #[.int .i64 0, .int .i64 0, .int .i64 0, .int .i64 0] 62).lt; have h0 : u1.cell? ⟨w.heap.size, 0, none⟩ = some (.int .i64 0) := QN.cell 0; have h1 : u1.cell? ⟨w.heap.size, 1, none⟩ = some (.int .i64 0) := QN.cell 1; have h2 : u1.cell? ⟨w.heap.size, 2, none⟩ = some (.int .i64 0) := QN.cell 2; have h3 : u1.cell? ⟨w.heap.size, 3, none⟩ = some (.int .i64 0) := QN.cell 3; have h4 := QN.free 0; have h5 := QN.free 1; have h6 := QN.free 2; have h7 := QN.free 3; have QH := hide QN; clear QN; have mk1L : True := trivial)
      | (clear mk0; go_at_call 31; refine (C0.out _ b0).mono ?_; rintro e u1 ⟨rfl, R1, b1, q0, q1⟩; have nu1 : ¬ D = u1.heap.size := (by have := b1.out.size; omega); have nu2 : ¬ u1.heap.size = D := (by have := b1.out.size; omega); have mk1 : True := trivial))
    all_goals (go_wp2_with fail; go_meet)
    all_goals (first | (clear mk1L; exact cutf_old b1.out QH.out (Nat.le_refl _)) | (clear mk1; exact cutf_new b1.out))
  obtain ⟨⟨F, rfl, hq, hFl, hbc⟩⟩ := hcut
  have BF1 := hide hq
  have BD1 := hide (BD0.out.below hbc BD0.out.lt)
  have HB1 := hide hbc
  have nf1 : ¬ F = D := by omega
  have nf2 : ¬ D = F := by omega
  obtain ⟨W1, hW1⟩ : ∃ x, x = wc := ⟨_, rfl⟩
  subst hW1
  have z0 := BD1.out.cell 2
  have z1 := BD1.out.free 2
  have hwr : IntKind.i64.wrap ((r : Int) + 1) = (r : Int) + 1 := by rw [IntKind.wrap_i64]; omega
  obtain ⟨W2, hW2⟩ : ∃ x, x = W1.setCell ⟨D, 2, none⟩ (.int .i64 ((r : Int) + 1)) := ⟨_, rfl⟩
  have BD2 := hide (BD1.out.set2 (.int .i64 ((r : Int) + 1)))
  have BF2 := hide (BF1.out.other (a := ⟨D, 2, none⟩) (by simp; omega) (.int .i64 ((r : Int) + 1)))
  have HBU := hide ((But.of_below (D := D) HB1.out).set 2 (.int .i64 ((r : Int) + 1)))
  rw [← hW2] at BD2 BF2 HBU
  have HW2 := hide hW2
  have HC5 : Hid (∀ w', Below W2.heap.size W2 w' → w'.cell? ⟨D, 0, none⟩ = some (.string img) ∧ w'.cell? ⟨F, 0, none⟩ = some (.int .i64 g.at_) ∧ w'.cell? ⟨F, 1, none⟩ = some (.int .i64 (kd : Int)) ∧ w'.cell? ⟨F, 2, none⟩ = some (.int .i64 g.byte) ∧ w'.cell? ⟨F, 3, none⟩ = some (.int .i64 g.bit)) := by
    intro w' hb
    have q := BD2.out.below hb BD2.out.lt
    have f := BF2.out.below hb BF2.out.lt
    exact ⟨q.cell 0, f.cell 0, f.cell 1, f.cell 2, f.cell 3⟩
  have D0 : Hid (∀ X, Hid (Below W2.heap.size W2 X) → Calls Try.prog 32 #[] X fun e w' => ∃ C, e = .returned (.slice (some ⟨C, 0, none⟩) 4 4) ∧ w'.cell? ⟨C, kd, none⟩ = some (.func (.func fno) #[] #[]) ∧ Hid (Below W2.heap.size W2 w') ∧ w'.cell? ⟨D, 0, none⟩ = some (.string img) ∧ w'.cell? ⟨F, 0, none⟩ = some (.int .i64 g.at_) ∧ w'.cell? ⟨F, 1, none⟩ = some (.int .i64 (kd : Int)) ∧ w'.cell? ⟨F, 2, none⟩ = some (.int .i64 g.byte) ∧ w'.cell? ⟨F, 3, none⟩ = some (.int .i64 g.bit)) := by
    intro X bX
    refine (changes_any X).mono ?_
    rintro e w' ⟨C, rfl, hc, hb⟩
    have bb := bX.out.trans (hb.mono bX.out.size)
    exact ⟨C, rfl, (hc.cell kd).trans hcell, bb, HC5.out _ bb⟩
  have D1 : Hid (∀ X, Hid (Below W2.heap.size W2 X) → Calls Try.prog fno #[.agg #[.int .i64 g.at_, .int .i64 (kd : Int), .int .i64 g.byte, .int .i64 g.bit], .string (img.extract p ((p : Int) + (n : Int)).toNat)] X fun e w' => e = .returned (.tuple #[.string A, .int .i64 E]) ∧ Hid (Below W2.heap.size W2 w') ∧ w'.cell? ⟨D, 0, none⟩ = some (.string img) ∧ w'.cell? ⟨F, 0, none⟩ = some (.int .i64 g.at_) ∧ w'.cell? ⟨F, 1, none⟩ = some (.int .i64 (kd : Int)) ∧ w'.cell? ⟨F, 2, none⟩ = some (.int .i64 g.byte) ∧ w'.cell? ⟨F, 3, none⟩ = some (.int .i64 g.bit)) := by
    intro X bX
    refine (HCON.out X).mono ?_
    rintro e w' ⟨rfl, hb⟩
    have bb := bX.out.trans (hb.mono bX.out.size)
    exact ⟨rfl, bb, HC5.out _ bb⟩
  have x0 := BD2.out.cell 0
  obtain ⟨x1, x2, x3, x4⟩ := BF2.out.four
  have hkdi : (kd : Int) < 4 := by omega
  have hpn : IntKind.i64.wrap ((p : Int) + (n : Int)) = (p : Int) + (n : Int) := by rw [IntKind.wrap_i64]; omega
  have hpn1 : (p : Int) ≤ (p : Int) + (n : Int) := by omega
  have hpn2 : (p : Int) + (n : Int) ≤ (img.size : Int) := by omega
  clear hW2 HC5 HCON hcell C0 hhp hbc hq
  go_wp2_with fail
  simp only [← HW2.out]
  have b5 := bdrB W2
  refine wp_region_held_drew (S := (fun w' => w'.cell? ⟨D, 0, none⟩ = some (.string img) ∧ w'.cell? ⟨F, 0, none⟩ = some (.int .i64 g.at_) ∧ w'.cell? ⟨F, 1, none⟩ = some (.int .i64 (kd : Int)) ∧ w'.cell? ⟨F, 2, none⟩ = some (.int .i64 g.byte) ∧ w'.cell? ⟨F, 3, none⟩ = some (.int .i64 g.bit))) (by kernel_rfl) ?_ (fun hHeld => ?_)
  · (try dsimp only)
    go_keep
  refine wpAnyH_take (i := 1) (oi := Oper.mk (some 31) _ _ _ _ _) (v := .pointer (some ⟨F, 1, none⟩)) rfl (by kernel_rfl) (by kernel_rfl) (by kernel_rfl) (fun _ _ _ h => h) (Or.inl ⟨by rfl, ?_⟩) (by assumption) ?_
  · intro wX hSw
    (try dsimp only at hSw)
    go_simp
  simp only [Act.put, List.setIfInBounds_toArray, List.set_cons_succ, List.set_cons_zero]
  refine wpAnyH_take (i := 2) (oi := Oper.mk (some 32) _ _ _ _ _) (v := .int .i64 (kd : Int)) rfl (by kernel_rfl) (by kernel_rfl) (by kernel_rfl) (fun _ _ _ h => h) (Or.inl ⟨by rfl, ?_⟩) (by assumption) ?_
  · intro wX hSw
    (try dsimp only at hSw)
    go_simp
  simp only [Act.put, List.setIfInBounds_toArray, List.set_cons_succ, List.set_cons_zero]
  refine wpAnyH_take (i := 5) (oi := Oper.mk (some 35) _ _ _ _ _) (v := .agg #[.int .i64 g.at_, .int .i64 (kd : Int), .int .i64 g.byte, .int .i64 g.bit]) rfl (by kernel_rfl) (by kernel_rfl) (by kernel_rfl) (fun _ _ _ h => h) (Or.inl ⟨by rfl, ?_⟩) (by assumption) ?_
  · intro wX hSw
    (try dsimp only at hSw)
    go_simp
  simp only [Act.put, List.setIfInBounds_toArray, List.set_cons_succ, List.set_cons_zero]
  refine wpAnyH_take (i := 6) (oi := Oper.mk (some 36) _ _ _ _ _) (v := .pointer (some ⟨D, 0, none⟩)) rfl (by kernel_rfl) (by kernel_rfl) (by kernel_rfl) (fun _ _ _ h => h) (Or.inl ⟨by rfl, ?_⟩) (by assumption) ?_
  · intro wX hSw
    (try dsimp only at hSw)
    go_simp
  simp only [Act.put, List.setIfInBounds_toArray, List.set_cons_succ, List.set_cons_zero]
  refine wpAnyH_take (i := 7) (oi := Oper.mk (some 37) _ _ _ _ _) (v := .pointer (some ⟨D, 0, none⟩)) rfl (by kernel_rfl) (by kernel_rfl) (by kernel_rfl) (fun _ _ _ h => h) (Or.inl ⟨by rfl, ?_⟩) (by assumption) ?_
  · intro wX hSw
    (try dsimp only at hSw)
    go_simp
  simp only [Act.put, List.setIfInBounds_toArray, List.set_cons_succ, List.set_cons_zero]
  refine wpAnyH_take (i := 8) (oi := Oper.mk (some 38) _ _ _ _ _) (v := .pointer (some ⟨D, 0, none⟩)) rfl (by kernel_rfl) (by kernel_rfl) (by kernel_rfl) (fun _ _ _ h => h) (Or.inl ⟨by rfl, ?_⟩) (by assumption) ?_
  · intro wX hSw
    (try dsimp only at hSw)
    go_simp
  simp only [Act.put, List.setIfInBounds_toArray, List.set_cons_succ, List.set_cons_zero]
  refine wpAnyH_take (i := 9) (oi := Oper.mk (some 39) _ _ _ _ _) (v := .string img) rfl (by kernel_rfl) (by kernel_rfl) (by kernel_rfl) (fun _ _ _ h => h) (Or.inl ⟨by rfl, ?_⟩) (by assumption) ?_
  · intro wX hSw
    (try dsimp only at hSw)
    go_simp
  simp only [Act.put, List.setIfInBounds_toArray, List.set_cons_succ, List.set_cons_zero]
  refine wpAnyH_take (i := 10) (oi := Oper.mk (some 40) _ _ _ _ _) (v := .int .i64 (p : Int)) rfl (by kernel_rfl) (by kernel_rfl) (by kernel_rfl) (fun _ _ _ h => h) (Or.inl ⟨by rfl, ?_⟩) (by assumption) ?_
  · intro wX hSw
    (try dsimp only at hSw)
    go_simp
  simp only [Act.put, List.setIfInBounds_toArray, List.set_cons_succ, List.set_cons_zero]
  refine wpAnyH_take (i := 11) (oi := Oper.mk (some 41) _ _ _ _ _) (v := .int .i64 (p : Int)) rfl (by kernel_rfl) (by kernel_rfl) (by kernel_rfl) (fun _ _ _ h => h) (Or.inl ⟨by rfl, ?_⟩) (by assumption) ?_
  · intro wX hSw
    (try dsimp only at hSw)
    go_simp
  simp only [Act.put, List.setIfInBounds_toArray, List.set_cons_succ, List.set_cons_zero]
  refine wpAnyH_take (i := 12) (oi := Oper.mk (some 42) _ _ _ _ _) (v := .int .i64 (n : Int)) rfl (by kernel_rfl) (by kernel_rfl) (by kernel_rfl) (fun _ _ _ h => h) (Or.inl ⟨by rfl, ?_⟩) (by assumption) ?_
  · intro wX hSw
    (try dsimp only at hSw)
    go_simp
  simp only [Act.put, List.setIfInBounds_toArray, List.set_cons_succ, List.set_cons_zero]
  refine wpAnyH_take (i := 13) (oi := Oper.mk (some 43) _ _ _ _ _) (v := .int .i64 ((p : Int) + (n : Int))) rfl (by kernel_rfl) (by kernel_rfl) (by kernel_rfl) (fun _ _ _ h => h) (Or.inl ⟨by rfl, ?_⟩) (by assumption) ?_
  · intro wX hSw
    (try dsimp only at hSw)
    go_simp
  simp only [Act.put, List.setIfInBounds_toArray, List.set_cons_succ, List.set_cons_zero]
  refine wpAnyH_take (i := 14) (oi := Oper.mk (some 44) _ _ _ _ _) (v := .string (img.extract p ((p : Int) + (n : Int)).toNat)) rfl (by kernel_rfl) (by kernel_rfl) (by kernel_rfl) (fun _ _ _ h => h) (Or.inl ⟨by rfl, ?_⟩) (by assumption) ?_
  · intro wX hSw
    (try dsimp only at hSw)
    go_simp
  simp only [Act.put, List.setIfInBounds_toArray, List.set_cons_succ, List.set_cons_zero]
  refine wpAnyH_ready (rs := [0]) (by kernel_rfl) (by simp) ?_
  refine AllReadyH.cons (o := Oper.mk (some 30) _ _ _ _ _) rfl (fun K hK => ?_) AllReadyH.nil
  go_simp
  go_at_call 32
  refine (D0.out _ b5).mono ?_
  rintro e v1 ⟨C, rfl, hC, b6, k0, k1, k2, k3, k4⟩
  refine hK.out _ _ ?_ (fun hHeld => ?_)
  · (try dsimp only)
    go_keep
  clear hK K
  refine wpAnyH_take (i := 3) (oi := Oper.mk (some 33) _ _ _ _ _) (v := .pointer (some ⟨C, kd, none⟩)) rfl (by kernel_rfl) (by kernel_rfl) (by kernel_rfl) (fun _ _ _ h => h) (Or.inl ⟨by rfl, ?_⟩) (by assumption) ?_
  · intro wX hSw
    (try dsimp only at hSw)
    go_simp
  simp only [Act.put, List.setIfInBounds_toArray, List.set_cons_succ, List.set_cons_zero]
  refine wpAnyH_ready (rs := [4]) (by kernel_rfl) (by simp) ?_
  refine AllReadyH.cons (o := Oper.mk (some 34) _ _ _ _ _) rfl (fun K hK => ?_) AllReadyH.nil
  go_simp
  refine hK.out _ _ ?_ (fun hHeld => ?_)
  · (try dsimp only)
    go_keep
  clear hK K
  refine wpAnyH_ready (rs := [15]) (by kernel_rfl) (by simp) ?_
  refine AllReadyH.cons (o := Oper.mk (some 45) _ _ _ _ _) rfl (fun K hK => ?_) AllReadyH.nil
  go_simp
  with_reducible refine (D1.out _ b6).mono ?_
  rintro e v2 ⟨rfl, b7, l0, l1, l2, l3, l4⟩
  refine hK.out _ _ ?_ (fun hHeld => ?_)
  · (try dsimp only)
    go_keep
  clear hK K
  refine wpAnyH_take (i := 16) (oi := Oper.mk (some 46) _ _ _ _ _) (v := .string A) rfl (by kernel_rfl) (by kernel_rfl) (by kernel_rfl) (fun _ _ _ h => h) (Or.inl ⟨by rfl, ?_⟩) (by assumption) ?_
  · intro wX hSw
    (try dsimp only at hSw)
    go_simp
  simp only [Act.put, List.setIfInBounds_toArray, List.set_cons_succ, List.set_cons_zero]
  refine wpAnyH_take (i := 17) (oi := Oper.mk (some 47) _ _ _ _ _) (v := .int .i64 E) rfl (by kernel_rfl) (by kernel_rfl) (by kernel_rfl) (fun _ _ _ h => h) (Or.inl ⟨by rfl, ?_⟩) (by assumption) ?_
  · intro wX hSw
    (try dsimp only at hSw)
    go_simp
  simp only [Act.put, List.setIfInBounds_toArray, List.set_cons_succ, List.set_cons_zero]
  refine wpAnyH_take (i := 18) (oi := Oper.mk (some 6) _ _ _ _ _) (v := .string A) rfl (by kernel_rfl) (by kernel_rfl) (by kernel_rfl) (fun _ _ _ h => h) (Or.inl ⟨by rfl, ?_⟩) (by assumption) ?_
  · intro wX hSw
    (try dsimp only at hSw)
    go_simp
  simp only [Act.put, List.setIfInBounds_toArray, List.set_cons_succ, List.set_cons_zero]
  refine wpAnyH_take (i := 19) (oi := Oper.mk (some 7) _ _ _ _ _) (v := .int .i64 E) rfl (by kernel_rfl) (by kernel_rfl) (by kernel_rfl) (fun _ _ _ h => h) (Or.inl ⟨by rfl, ?_⟩) (by assumption) ?_
  · intro wX hSw
    (try dsimp only at hSw)
    go_simp
  simp only [Act.put, List.setIfInBounds_toArray, List.set_cons_succ, List.set_cons_zero]
  refine wpAnyH_done (by kernel_rfl) ?_ _
  have HBF := hide (HBU.out.trans (But.of_below b7.out))
  have BDF := hide (BD2.out.below b7.out BD2.out.lt)
  clear b5 b6 b7 D0 D1
  go_wp2
  go_ret2
  obtain rfl := HLL.out
  exact ⟨rfl, HBF.out, ⟨BDF.out, HFS.out.but HBF.out HO.out, HO.out, HMN.out, HMY.out⟩⟩

def chg (f : Flt) (s : ByteArray) : ByteArray × Int :=
  if f.kind = 1 then (⟨#[]⟩, 100) else if f.kind = 2 then (s.extract 0 (f.byte.tmod (s.size : Int)).toNat, 0)
  else if f.kind = 3 then (⟨(flipB (bys s) (f.byte.tmod (s.size : Int)).toNat f.bit.toNat).toArray⟩, 0) else (s, 0)

def readT (img : ByteArray) (fs : List Flt) (r : Nat) (at_ n : Int) : ByteArray × Int × Nat :=
  if hasT img.size at_ n = true then ((chg (findF fs (r : Int)) (img.extract at_.toNat (at_.toNat + n.toNat))).1, (chg (findF fs (r : Int)) (img.extract at_.toNat (at_.toNat + n.toNat))).2, r + 1) else (⟨#[]⟩, 102, r)

theorem findF_may (fs : List Flt) (n : Int) (h : ∀ k, k < fs.length → mayF (nth fs k) = true) : findF fs n = Flt.zero ∨ mayF (findF fs n) = true := by
  induction fs with
  | nil => exact .inl rfl
  | cons f rest ih =>
    simp only [findF]
    split
    · exact .inr (h 0 (by simp))
    · exact ih (fun k hk => by have := h (k + 1) (by simpa using hk); simpa [nth] using this)

set_option maxHeartbeats 1000000 in
theorem read_no (at_ n : Int) (img : ByteArray) (fs : List Flt) (r D : Nat) (v : Value) (w : World) (h : Dsk 60 w D v img fs r) (hi : img.size ≤ 65552) (hh : hasT img.size at_ n = false) :
    Calls Try.prog 18 #[.pointer (some ⟨D, 0, none⟩), .int .i64 at_, .int .i64 n] w fun e w' => e = .returned (.tuple #[.string ⟨#[]⟩, .int .i64 102]) ∧ w = w' := by
  have HH := hide (has_any at_ n hi h)
  rw [hh] at HH
  clear h hh
  go_enter Try.func18, Try.ntmps18
  go_wp2_with fail
  refine HH.out.mono ?_
  rintro e w1 ⟨rfl, rfl⟩
  go_wp2
  go_ret2
  exact ⟨rfl, rfl⟩

theorem ent_leaves : ∀ args w, (callFunc 37 args).run Try.prog w = .ok (.enter 37 args) w := by
  intro args w; kernel_rfl

theorem ent_fails : ∀ args w, (callFunc 38 args).run Try.prog w = .ok (.enter 38 args) w := by
  intro args w; kernel_rfl

theorem ent_shortens : ∀ args w, (callFunc 39 args).run Try.prog w = .ok (.enter 39 args) w := by
  intro args w; kernel_rfl

theorem ent_flips : ∀ args w, (callFunc 40 args).run Try.prog w = .ok (.enter 40 args) w := by
  intro args w; kernel_rfl

theorem tmod_place {a : Int} {n : Nat} (ha : 0 ≤ a) (hn : 1 ≤ n) : a.tmod (n : Int) = ((a.tmod (n : Int)).toNat : Int) ∧ (a.tmod (n : Int)).toNat < n := by
  have h1 : 0 ≤ a.tmod (n : Int) := Int.tmod_nonneg _ ha
  have h2 : a.tmod (n : Int) < (n : Int) := Int.tmod_lt_of_pos _ (by omega)
  omega

theorem Read_any (at_ n : Int) (img : ByteArray) (fs : List Flt) (r D : Nat) (v : Value) (w : World) (h : Dsk 60 w D v img fs r) (hi : img.size ≤ 65552) (hr : r ≤ 1000000000000000000) :
    Calls Try.prog 18 #[.pointer (some ⟨D, 0, none⟩), .int .i64 at_, .int .i64 n] w fun e w' => e = .returned (.tuple #[.string (readT img fs r at_ n).1, .int .i64 (readT img fs r at_ n).2.1]) ∧ But D w w' ∧ Dsk 60 w' D v img fs (readT img fs r at_ n).2.2 := by
  by_cases hh : hasT img.size at_ n = true
  · have hp := of_decide_eq_true hh
    obtain ⟨p, rfl⟩ := Int.eq_ofNat_of_zero_le hp.2.2.1
    obtain ⟨m, rfl⟩ := Int.eq_ofNat_of_zero_le (show 0 ≤ n by omega)
    have e : readT img fs r (p : Int) (m : Int) = ((chg (findF fs (r : Int)) (img.extract p (p + m))).1, (chg (findF fs (r : Int)) (img.extract p (p + m))).2, r + 1) := by
      unfold readT
      rw [if_pos hh, Int.toNat_natCast, Int.toNat_natCast]
    rw [e]
    dsimp only
    have hsz : (img.extract p (p + m)).size = m := by rw [ByteArray.size_extract]; omega
    generalize hg : findF fs (r : Int) = g
    have hm := findF_may fs (r : Int) h.may
    rw [hg] at hm
    rcases hm with rfl | hm
    · exact read_ok 0 37 Flt.zero img _ _ fs r p m D v w h hg rfl (by decide) hi hr hh rfl ent_leaves (fun X => leaves_any _ _ X)
    · have hq := of_decide_eq_true hm
      obtain ⟨pe, pl⟩ := tmod_place (n := m) hq.2.2.2.1 (by omega)
      obtain ⟨k, hk⟩ := Int.eq_ofNat_of_zero_le hq.2.2.2.2.1
      have hk7 : k ≤ 7 := by omega
      have c3 : g.kind = 1 ∨ g.kind = 2 ∨ g.kind = 3 := by omega
      rcases c3 with hk1 | hk2 | hk3
      · have e : chg g (img.extract p (p + m)) = (⟨#[]⟩, 100) := by unfold chg; rw [if_pos hk1]
        rw [e]
        exact read_ok 1 38 g img _ _ fs r p m D v w h hg hk1 (by decide) hi hr hh rfl ent_fails (fun X => fails_any _ _ X)
      · have e : chg g (img.extract p (p + m)) = ((img.extract p (p + m)).extract 0 (g.byte.tmod (m : Int)).toNat, 0) := by unfold chg; rw [if_neg (by omega), if_pos hk2, hsz]
        rw [e]
        exact read_ok 2 39 g img _ _ fs r p m D v w h hg hk2 (by decide) hi hr hh rfl ent_shortens (fun X => shortens_any _ _ _ X (by rw [hsz]; exact pe) (by rw [hsz]; exact pl))
      · have e : chg g (img.extract p (p + m)) = (⟨(flipB (bys (img.extract p (p + m))) (g.byte.tmod (m : Int)).toNat k).toArray⟩, 0) := by unfold chg; rw [if_neg (by omega), if_neg (by omega), if_pos hk3, hsz, hk, Int.toNat_natCast]
        rw [e]
        exact read_ok 3 40 g img _ _ fs r p m D v w h hg hk3 (by decide) hi hr hh rfl ent_flips (fun X => flips_any _ _ _ _ X (by rw [hsz]; exact pe) (by rw [hsz]; exact pl) (by rw [hsz]; omega) hk hk7)
  · have hf : hasT img.size at_ n = false := by simpa using hh
    have e : readT img fs r at_ n = (⟨#[]⟩, 102, r) := by unfold readT; rw [if_neg hh]
    rw [e]
    refine (read_no at_ n img fs r D v w h hi hf).mono ?_
    rintro e w' ⟨rfl, rfl⟩
    exact ⟨rfl, But.refl _ _, h⟩

end Go.Proofs.Ytdbbdclhfcakdaa

namespace Go.Proofs.Ytdbbdclhfcakdaa
open Go.RowKit

def cellsF (fs : List Flt) : List Value := fs.flatMap fun f => [.int .i64 f.at_, .int .i64 f.kind, .int .i64 f.byte, .int .i64 f.bit]

theorem cellsF_len (fs : List Flt) : (cellsF fs).length = fs.length * 4 := by
  induction fs with
  | nil => rfl
  | cons f r ih =>
    have : cellsF (f :: r) = [.int .i64 f.at_, .int .i64 f.kind, .int .i64 f.byte, .int .i64 f.bit] ++ cellsF r := rfl
    rw [this, List.length_append, ih, List.length_cons]
    simp; omega

def fldF (f : Flt) : Nat → Value
  | 0 => .int .i64 f.at_
  | 1 => .int .i64 f.kind
  | 2 => .int .i64 f.byte
  | _ => .int .i64 f.bit

theorem cellsF_get (fs : List Flt) : ∀ i r, i < fs.length → r < 4 → (cellsF fs)[i * 4 + r]? = some (fldF (nth fs i) r) := by
  induction fs with
  | nil => intro i r h; simp at h
  | cons f t ih =>
    intro i r h hr
    have e : cellsF (f :: t) = [.int .i64 f.at_, .int .i64 f.kind, .int .i64 f.byte, .int .i64 f.bit] ++ cellsF t := rfl
    rw [e]
    rcases i with _ | i
    · rw [List.getElem?_append_left (by simp; omega)]
      match r, hr with
      | 0, _ => rfl
      | 1, _ => rfl
      | 2, _ => rfl
      | 3, _ => rfl
    · rw [List.getElem?_append_right (by simp; omega)]
      have := ih i r (by simpa using h) hr
      rw [show (i + 1) * 4 + r - ([Value.int .i64 f.at_, .int .i64 f.kind, .int .i64 f.byte, .int .i64 f.bit] : List Value).length = i * 4 + r by simp; omega, this]
      rfl

theorem cellsF_one (fs : List Flt) : ∀ u ∈ cellsF fs, u.oneCell' = true := by
  intro u hu
  unfold cellsF at hu
  simp only [List.mem_flatMap, List.mem_cons, List.not_mem_nil, or_false] at hu
  obtain ⟨f, _, h⟩ := hu
  rcases h with rfl | rfl | rfl | rfl <;> rfl

theorem FAt.news {w : World} {b o : Nat} {fs : List Flt} (h : FAt w (some ⟨b, o, none⟩) fs) : ∀ j u, (cellsF fs)[j]? = some u → w.cell? ((⟨b, o, none⟩ : Addr).add j) = some u := by
  intro j u hj
  have hjl : j < fs.length * 4 := by
    rw [← cellsF_len]
    rcases Nat.lt_or_ge j (cellsF fs).length with q | q
    · exact q
    · rw [List.getElem?_eq_none q] at hj; cases hj
  rcases h with rfl | ⟨b', o', he, _, h3⟩
  · simp at hjl
  · simp only [Option.some.injEq, Addr.mk.injEq] at he
    obtain ⟨rfl, rfl, _⟩ := he
    have e := cellsF_get fs (j / 4) (j % 4) (by omega) (by omega)
    rw [show j / 4 * 4 + j % 4 = j by omega, hj] at e
    cases e
    rw [Addr.add_lit]
    obtain ⟨k0, k1, k2, k3⟩ := h3 (j / 4) (by omega)
    have hr : j % 4 = 0 ∨ j % 4 = 1 ∨ j % 4 = 2 ∨ j % 4 = 3 := by omega
    rcases hr with q | q | q | q
    · rw [q, show o + j = o + j / 4 * 4 by omega]; exact k0
    · rw [q, show o + j = o + j / 4 * 4 + 1 by omega]; exact k1
    · rw [q, show o + j = o + j / 4 * 4 + 2 by omega]; exact k2
    · rw [q, show o + j = o + j / 4 * 4 + 3 by omega]; exact k3

def FOwn (base : Nat) (w : World) (v : Value) (fs : List Flt) : Prop := FSl w v fs ∧ (∀ b o l c, v = .slice (some ⟨b, o, none⟩) l c → base ≤ b ∧ b < w.heap.size) ∧ (∀ l c, v = .slice none l c → c = 0)

theorem FOwn.of_owns {w : World} {base : Nat} {v : Value} {fs : List Flt} (h : w.ownsRow base 40 4 v fs.length (cellsF fs)) : FOwn base w v fs := by
  obtain ⟨hl, h⟩ := h
  rcases h with ⟨rfl, h0⟩ | ⟨g, cap, cur, rfl, hg, hh, hn, _, hsz, ht⟩
  · have : fs = [] := List.eq_nil_of_length_eq_zero h0
    subst this
    exact ⟨⟨none, 0, rfl, Nat.le_refl _, .inl rfl⟩, fun b o l c e => by simp at e, fun l c e => by simp at e; omega⟩
  · refine ⟨⟨some ⟨g, 0, none⟩, cap, rfl, hn, ?_⟩, fun b o l c e => ?_, fun l c e => by simp at e⟩
    · by_cases h0 : fs = []
      · exact .inl h0
      · refine .inr ⟨g, 0, rfl, lt_of_block hh, fun i hi => ?_⟩
        have hc : ∀ r, r < 4 → w.cell? ⟨g, 0 + i * 4 + r, none⟩ = some (fldF (nth fs i) r) := by
          intro r hr
          have e := cellsF_get fs i r hi hr
          have hlt : i * 4 + r < fs.length * 4 := by omega
          rw [← ht, List.getElem?_take_of_lt hlt, Array.getElem?_toList] at e
          rw [Nat.zero_add]
          simp only [World.cell?, hh, Option.isSome_none, Bool.false_eq_true, if_false]
          exact e
        exact ⟨hc 0 (by decide), hc 1 (by decide), hc 2 (by decide), hc 3 (by decide)⟩
    · simp only [Value.slice.injEq, Option.some.injEq, Addr.mk.injEq] at e
      obtain ⟨⟨rfl, _⟩, _⟩ := e
      exact ⟨hg, lt_of_block hh⟩

theorem Try.infoF : (Try.prog.info? 40).map (fun i => (i.zero, i.size, i.bytes)) = some (some (.agg #[.int .i64 0, .int .i64 0, .int .i64 0, .int .i64 0]), 4, 32) := by kernel_rfl

set_option maxHeartbeats 1000000 in
theorem clone_nil (w : World) : Calls Try.prog 29 #[.slice none 0 0] w fun e w' => e = .returned (.slice none 0 0) ∧ w = w' := by
  have hq := fun W => Lib.run_eql_slice_nil (P := Try.prog) W 29 40 none 0 0 0 0 Try.underlying29
  go_enter Try.func29, Try.ntmps29
  go_wp2
  go_ret
  exact ⟨rfl, rfl⟩

set_option maxHeartbeats 1000000 in
theorem clone_at (ad : Addr) (cap : Nat) (fs : List Flt) (w : World) (hl : fs.length ≤ 64) (h : ∀ j u, (cellsF fs)[j]? = some u → w.cell? (ad.add j) = some u) : Calls Try.prog 29 #[.slice (some ad) fs.length cap] w fun e w' => ∃ v, e = .returned v ∧ FOwn w.heap.size w' v fs ∧ Below w.heap.size w w' := by
  obtain ⟨i0, hi, hz0, hz1, hz2⟩ := info_parts Try.infoF
  have HN := hide h
  have hq := fun W => Lib.run_eql_slice_nil (P := Try.prog) W 29 40 (some ad) fs.length cap 0 0 Try.underlying29
  have hb0 : Below w.heap.size w (w.alloc (.cells #[] 40)) := (Below.refl _ _).alloc (Nat.le_refl _) _
  have HB0 := hide hb0
  clear h hb0
  go_enter Try.func29, Try.ntmps29
  go_wp2_with (at_builtin; refine wpList_append_own _ rfl _ _ 29 rfl w.heap.size 40 i0 (.agg #[.int .i64 0, .int .i64 0, .int .i64 0, .int .i64 0]) 4 32 Try.underlying29 hi hz0 hz1 hz2 rfl (by decide) _ 0 [] rfl (World.ownsRow_made w #[] 0 (Nat.le_refl _) (by decide) rfl) ad fs.length cap (cellsF fs) rfl (cellsF_len fs) ?_ (cellsF_one fs) ?_ ?_ ?_ ?_)
  · intro j u hj
    have := HN.out j u hj
    rw [HB0.out.cell (World.block_lt_of_cell? w _ this)]
    exact this
  · unfold maxLen; omega
  · omega
  · simp
  · intro v' w' hown hgr _
    have HO := hide (FOwn.of_owns hown)
    have HB := hide (HB0.out.grown hgr (by simp) (fun k hk => by simp [Value.ownBlock] at hk; omega))
    clear hown hgr
    go_wp2
    go_ret
    exact ⟨_, rfl, HO.out, HB.out⟩

def FArg (w : World) (v : Value) (fs : List Flt) : Prop := FSl w v fs ∧ (∀ l c, v = .slice none l c → c = 0)

theorem FArg.below {w w' : World} {v : Value} {fs : List Flt} (h : FArg w v fs) (hb : Below w.heap.size w w') : FArg w' v fs := ⟨h.1.below hb, h.2⟩

theorem clone_any {w : World} {v : Value} {fs : List Flt} (h : FArg w v fs) (hl : fs.length ≤ 64) : Calls Try.prog 29 #[v] w fun e w' => ∃ v, e = .returned v ∧ FOwn w.heap.size w' v fs ∧ Below w.heap.size w w' := by
  obtain ⟨⟨ao, cap, rfl, h2, h3⟩, hn⟩ := h
  cases ao with
  | none =>
    rcases h3 with rfl | ⟨b, o, he, _⟩
    · obtain rfl := hn _ _ rfl
      refine (clone_nil w).mono ?_
      rintro e w' ⟨rfl, rfl⟩
      exact ⟨_, rfl, ⟨⟨none, 0, rfl, Nat.le_refl _, .inl rfl⟩, fun b o l c e => by simp at e, fun l c e => by simp at e; omega⟩, Below.refl _ _⟩
    · cases he
  | some ad =>
    refine clone_at ad cap fs w hl ?_
    rcases id h3 with rfl | ⟨b, o, he, _⟩
    · intro j u hj; simp [cellsF] at hj
    · cases he
      exact h3.news

theorem okTo_true (fs : List Flt) : ∀ n, okTo fs n = true → ∀ k, k < n → okN fs k = true
  | 0, _, k, hk => by omega
  | n + 1, h, k, hk => by
    simp only [okTo, Bool.and_eq_true] at h
    by_cases e : k = n
    · subst e; exact h.2
    · exact okTo_true fs n h.1 k (by omega)

theorem may_of_all {fs : List Flt} (h : mayAllF fs = true) : fs.length ≤ 64 ∧ ∀ k, k < fs.length → mayF (nth fs k) = true := by
  unfold mayAllF at h
  simp only [Bool.and_eq_true, decide_eq_true_eq] at h
  refine ⟨h.1, fun k hk => ?_⟩
  have := okTo_true fs _ h.2 k hk
  unfold okN at this
  simp only [Bool.and_eq_true] at this
  exact this.1

set_option maxHeartbeats 1000000 in
theorem New_long (img : ByteArray) (v : Value) (w : World) (h : 65552 < img.size) : Calls Try.prog 15 #[.string img, v] w fun e w' => e = .returned (.tuple #[.pointer none, .int .i64 106]) ∧ Below w.heap.size w w' := by
  have h' : (65552 : Int) < (img.size : Int) := by omega
  go_enter Try.func15, Try.ntmps15
  go_wp2
  go_ret2
  exact ⟨rfl, Below.refl _ _⟩

set_option maxHeartbeats 1000000 in
theorem New_fault {w : World} {v : Value} {fs : List Flt} (img : ByteArray) (hi : img.size ≤ 65552) (h : FArg w v fs) (hl : fs.length ≤ 9223372036854775807) (hm : mayAllF fs = false) : Calls Try.prog 15 #[.string img, v] w fun e w' => e = .returned (.tuple #[.pointer none, .int .i64 103]) ∧ Below w.heap.size w w' := by
  have h' : ¬ (65552 : Int) < (img.size : Int) := by omega
  have K1 := hide (mayAll_any h.1 hl)
  rw [hm] at K1
  clear h hm
  go_enter Try.func15, Try.ntmps15
  go_wp2_with fail
  refine K1.out.mono ?_
  rintro e w1 ⟨rfl, hb⟩
  have HB1 := hide hb
  clear hb
  go_wp2
  go_ret2
  exact ⟨rfl, HB1.out⟩

set_option maxHeartbeats 1000000 in
theorem New_ok {w : World} {v : Value} {fs : List Flt} (img : ByteArray) (hi : img.size ≤ 65552) (h : FArg w v fs) (hm : mayAllF fs = true) : Calls Try.prog 15 #[.string img, v] w fun e w' => ∃ D u, e = .returned (.tuple #[.pointer (some ⟨D, 0, none⟩), .int .i64 0]) ∧ w.heap.size ≤ D ∧ Dsk 60 w' D u img fs 0 ∧ (∀ b o l c, u = .slice (some ⟨b, o, none⟩) l c → w.heap.size ≤ b ∧ b < w'.heap.size) ∧ Below w.heap.size w w' := by
  have h' : ¬ (65552 : Int) < (img.size : Int) := by omega
  obtain ⟨hl, hmy⟩ := may_of_all hm
  have K1 := hide (mayAll_any h.1 (by omega))
  have K2 := hide (fun X (hX : Below w.heap.size w X) => clone_any (h.below hX) hl)
  rw [hm] at K1
  have HM := hide hmy
  have HL := hide hl
  clear h hm hmy hl
  go_enter Try.func15, Try.ntmps15
  go_wp2_with fail
  refine K1.out.mono ?_
  rintro e w1 ⟨rfl, hb⟩
  have HB1 := hide hb
  clear hb
  go_wp2_with fail
  refine (K2.out _ HB1.out).mono ?_
  rintro e w2 ⟨u, rfl, hO, hb⟩
  have HO := hide hO
  obtain ⟨uo, uc, rfl, _⟩ := id hO.1
  have HB2 := hide (HB1.out.trans (hb.mono HB1.out.size))
  have hsz := HB1.out.size
  clear hb hO
  go_wp2
  go_ret2
  have hal : Below w2.heap.size w2 (w2.alloc (.cells #[.string img, .slice uo fs.length uc, .int .i64 0] 60)) := (Below.refl _ _).alloc (Nat.le_refl _) _
  have hbk := Blk.newAt w2 w2.heap.size rfl #[.string img, .slice uo fs.length uc, .int .i64 0] 60
  refine ⟨w2.heap.size, _, rfl, HB2.out.size, ⟨hbk, HO.out.1.below hal, fun b o l c e => ?_, HL.out, HM.out⟩, fun b o l c e => ?_, HB2.out.alloc HB2.out.size _⟩
  · have := (HO.out.2.1 b o l c e).2
    omega
  · have := HO.out.2.1 b o l c e
    have := hal.size
    omega

end Go.Proofs.Ytdbbdclhfcakdaa

namespace Go.Proofs.Ytdbbdclhfcakdaa
open Go.RowKit

def fourL (n : Nat) : List UInt8 := [UInt8.ofNat (n / 16777216), UInt8.ofNat (n / 65536), UInt8.ofNat (n / 256), UInt8.ofNat n]
theorem conv4 (n : Nat) (w : World) (h : n < 4294967296) : (convert 52 9 (.slice (some ⟨w.heap.size, 0, none⟩) 4 4)).run Try.prog (w.alloc (.cells #[.int .u8 ((n : Int) / 16777216), .int .u8 ((n : Int) / 65536 % 256), .int .u8 ((n : Int) / 256 % 256), .int .u8 ((n : Int) % 256)] 5)) = .ok (.string ⟨(fourL n).toArray⟩) (w.alloc (.cells #[.int .u8 ((n : Int) / 16777216), .int .u8 ((n : Int) / 65536 % 256), .int .u8 ((n : Int) / 256 % 256), .int .u8 ((n : Int) % 256)] 5)) := by
  have B := Blk.newAt w w.heap.size rfl #[.int .u8 ((n : Int) / 16777216), .int .u8 ((n : Int) / 65536 % 256), .int .u8 ((n : Int) / 256 % 256), .int .u8 ((n : Int) % 256)] 5
  refine convB_at (l := fourL n) fun i hi => ?_
  rw [Nat.zero_add, B.cell i]
  have hl : (fourL n).length = 4 := rfl
  rw [hl] at hi
  match i, hi with
  | 0, _ => simp [fourL, byt]; omega
  | 1, _ => simp [fourL, byt]
  | 2, _ => simp [fourL, byt]
  | 3, _ => simp [fourL, byt]

set_option maxHeartbeats 1000000 in
theorem fourBytes_any (n : Nat) (w : World) (h : n < 4294967296) : Calls Try.prog 25 #[.int .u32 (n : Int)] w fun e w' => e = .returned (.string ⟨(fourL n).toArray⟩) ∧ Below w.heap.size w w' := by
  have hcv := conv4 n w h
  go_enter Try.func25, Try.ntmps25
  go_wp2
  go_ret
  exact ⟨rfl, (Below.refl _ _).alloc (Nat.le_refl _) _⟩

def frontL (b : List UInt8) : List UInt8 := [81, 80, 85, 49] ++ fourL b.length ++ fourL (crc b)
def sealL (b : List UInt8) : List UInt8 := frontL b ++ fourL (crc (frontL b)) ++ b

theorem cat_mk (a b : List UInt8) : (⟨a.toArray⟩ ++ ⟨b.toArray⟩ : ByteArray) = ⟨(a ++ b).toArray⟩ := by
  apply ByteArray.ext
  apply Array.toList_inj.1
  have := bys_append ⟨a.toArray⟩ ⟨b.toArray⟩
  rw [show bys ⟨a.toArray⟩ = a from rfl, show bys ⟨b.toArray⟩ = b from rfl] at this
  exact this
theorem mk_bysB (t : ByteArray) : (⟨(bys t).toArray⟩ : ByteArray) = t := by cases t; simp [bys]
theorem bys_mkL (l : List UInt8) : bys ⟨l.toArray⟩ = l := by simp [bys]
theorem size_mkL (l : List UInt8) : (⟨l.toArray⟩ : ByteArray).size = l.length := by simp [ByteArray.size]

set_option maxHeartbeats 1000000 in
theorem Seal_ok (s : ByteArray) (w : World) (h : s.size ≤ 65536) : Calls Try.prog 9 #[.string s] w fun e w' => e = .returned (.tuple #[.string ⟨(sealL (bys s)).toArray⟩, .int .i64 0]) ∧ Below w.heap.size w w' := by
  have h' : ¬ (65536 : Int) < (s.size : Int) := by omega
  have K1 := hide (fun X => fourBytes_any s.size X (by omega))
  have K2 := hide (fun X => Sum_any s X (by omega))
  have K3 := hide (fun X => fourBytes_any (crc (bys s)) X (crc_lt _))
  have K4 := hide (fun X => Sum_any ⟨(frontL (bys s)).toArray⟩ X (by rw [size_mkL]; simp [frontL, fourL]))
  have K5 := hide (fun X => fourBytes_any (crc (frontL (bys s))) X (crc_lt _))
  rw [bys_mkL (frontL (bys s))] at K4
  have E : Hid ((⟨#[81, 80, 85, 49]⟩ ++ ⟨(fourL s.size).toArray⟩ ++ ⟨(fourL (crc (bys s))).toArray⟩ : ByteArray) = ⟨(frontL (bys s)).toArray⟩) := hide (by
    rw [show (⟨#[81, 80, 85, 49]⟩ : ByteArray) = ⟨([81, 80, 85, 49] : List UInt8).toArray⟩ from rfl, cat_mk [81, 80, 85, 49] (fourL s.size), cat_mk ([81, 80, 85, 49] ++ fourL s.size) (fourL (crc (bys s)))]
    unfold frontL
    rw [bys_len])
  have E2 : Hid ((⟨(frontL (bys s)).toArray⟩ ++ ⟨(fourL (crc (frontL (bys s)))).toArray⟩ ++ s : ByteArray) = ⟨(sealL (bys s)).toArray⟩) := hide (by
    have := cat_mk (frontL (bys s) ++ fourL (crc (frontL (bys s)))) (bys s)
    rw [mk_bysB] at this
    rw [cat_mk (frontL (bys s)) (fourL (crc (frontL (bys s)))), this]
    rfl)
  have z1 : (⟨(fourL s.size).toArray⟩ : ByteArray).size = 4 := rfl
  have z2 : (⟨(fourL (crc (bys s))).toArray⟩ : ByteArray).size = 4 := rfl
  have z3 : (⟨(fourL (crc (frontL (bys s)))).toArray⟩ : ByteArray).size = 4 := rfl
  have z4 : (⟨(frontL (bys s)).toArray⟩ : ByteArray).size = 12 := rfl
  have c1 := crc_lt (bys s)
  have c2 := crc_lt (frontL (bys s))
  generalize (⟨(sealL (bys s)).toArray⟩ : ByteArray) = R at *
  generalize (⟨(fourL s.size).toArray⟩ : ByteArray) = f1 at *
  generalize (⟨(fourL (crc (bys s))).toArray⟩ : ByteArray) = f2 at *
  generalize (⟨(fourL (crc (frontL (bys s)))).toArray⟩ : ByteArray) = f3 at *
  generalize (⟨(frontL (bys s)).toArray⟩ : ByteArray) = f4 at *
  generalize crc (bys s) = a1 at *
  generalize crc (frontL (bys s)) = a2 at *
  have y0 : (⟨#[81, 80, 85, 49]⟩ : ByteArray).size = 4 := rfl
  have y1 : ¬ 9223372036854775807 < (⟨#[81, 80, 85, 49]⟩ : ByteArray).size + f1.size := by rw [y0, z1]; omega
  have y2 : ¬ 9223372036854775807 < (⟨#[81, 80, 85, 49]⟩ ++ f1 : ByteArray).size + f2.size := by rw [ByteArray.size_append, y0, z1, z2]; omega
  have y3 : ¬ 9223372036854775807 < f4.size + f3.size := by rw [z4, z3]; omega
  have y4 : ¬ 9223372036854775807 < (f4 ++ f3 : ByteArray).size + s.size := by rw [ByteArray.size_append, z4, z3]; omega
  clear y0
  go_enter Try.func9, Try.ntmps9
  go_wp2_with fail
  refine (K1.out _).mono ?_
  rintro e w1 ⟨rfl, hb⟩
  have HB1 := hide hb
  clear hb
  go_wp2_with fail
  refine (K2.out _).mono ?_
  rintro e w1' ⟨rfl, rfl⟩
  go_wp2_with fail
  refine (K3.out _).mono ?_
  rintro e w2 ⟨rfl, hb⟩
  have HB2 := hide (HB1.out.trans (hb.mono HB1.out.size))
  clear hb
  have e1 := E.out
  go_wp2_with fail
  refine (K4.out _).mono ?_
  rintro e w2' ⟨rfl, rfl⟩
  go_wp2_with fail
  refine (K5.out _).mono ?_
  rintro e w3 ⟨rfl, hb⟩
  have HB3 := hide (HB2.out.trans (hb.mono HB2.out.size))
  have e2 := E2.out
  clear hb
  go_wp2
  go_ret2
  exact ⟨rfl, HB3.out⟩

end Go.Proofs.Ytdbbdclhfcakdaa

namespace Go.Proofs.Ytdbbdclhfcakdaa
open Go.RowKit

section
variable {B D : Nat} {a b c : World}
end

def Low (v : Value) (B : Nat) : Prop := ∀ b o l c, v = .slice (some ⟨b, o, none⟩) l c → b < B

end Go.Proofs.Ytdbbdclhfcakdaa

namespace Go.Proofs.Ytdbbdclhfcakdaa
open Go.RowKit

theorem bys_toB (t : ByteArray) (i : Nat) : bys (t.extract 0 i) = (bys t).take i := by
  unfold bys
  rw [ByteArray.data_extract]
  simp
theorem bys_fromB (t : ByteArray) (i n : Nat) (hn : t.size ≤ n) : bys (t.extract i n) = (bys t).drop i := by
  unfold bys
  rw [ByteArray.data_extract]
  have hl : t.data.toList.length ≤ n := by simpa using hn
  simp only [Array.toList_extract, List.extract_eq_take_drop]
  exact List.take_of_length_le (by rw [List.length_drop]; omega)
end Go.Proofs.Ytdbbdclhfcakdaa

namespace Go.Proofs.Ytdbbdclhfcakdaa
open Go.RowKit

section
variable {img : ByteArray} {fs : List Flt} {e : Nat}
end

end Go.Proofs.Ytdbbdclhfcakdaa

namespace Go.Proofs.Ytdbbdclhfcakdaa
open Go.RowKit

section
variable {img : ByteArray} {fs : List Flt} {L : List UInt8} {m e : Nat}

end

theorem chg_zero (s : ByteArray) : chg Flt.zero s = (s, 0) := by
  unfold chg Flt.zero
  rw [if_neg (by decide), if_neg (by decide), if_neg (by decide)]

end Go.Proofs.Ytdbbdclhfcakdaa

namespace Go.Proofs.Ytdbbdclhfcakdaa
open Go.RowKit

end Go.Proofs.Ytdbbdclhfcakdaa

namespace Go.Proofs.Ytdbbdclhfcakdaa
open Go.RowKit

def fx : List Flt := [⟨1, 2, 5, 0⟩]
theorem fx_may : mayAllF fx = true := by decide +kernel
theorem fx_r0 : readT ⟨#[97, 98, 99]⟩ fx 0 0 3 = (⟨#[97, 98, 99]⟩, 0, 1) := by kernel_rfl
theorem fx_r1 : readT ⟨#[97, 98, 99]⟩ fx 1 0 3 = (⟨#[97, 98]⟩, 0, 2) := by kernel_rfl
theorem fx_sum : crc (bys ⟨#[49, 50, 51, 52, 53, 54, 55, 56, 57]⟩) = 3421780262 := by decide +kernel
theorem fx_len : (⟨(sealL (bys ⟨#[97]⟩)).toArray⟩ : ByteArray).size = 17 := by kernel_rfl

theorem fault_one (w : World) (f : Flt) : FArg (w.alloc (.cells #[.int .i64 f.at_, .int .i64 f.kind, .int .i64 f.byte, .int .i64 f.bit] 40)) (.slice (some ⟨w.heap.size, 0, none⟩) 1 1) [f] := by
  have B := Blk.newAt w w.heap.size rfl #[.int .i64 f.at_, .int .i64 f.kind, .int .i64 f.byte, .int .i64 f.bit] 40
  refine ⟨⟨_, _, rfl, Nat.le_refl _, .inr ⟨_, _, rfl, B.lt, fun i hi => ?_⟩⟩, fun l c e => by simp at e⟩
  obtain rfl : i = 0 := by simpa using hi
  exact ⟨B.cell 0, B.cell 1, B.cell 2, B.cell 3⟩

set_option maxRecDepth 100000 in
set_option maxHeartbeats 2000000 in
theorem fixed_any (w : World) : Calls Try.prog 13 #[] w fun e w' => e = .returned (.bool true) ∧ Below w.heap.size w w' := by
  have K1 := hide (Seal_ok ⟨#[97]⟩ w (by decide))
  obtain ⟨S, hS⟩ : ∃ S : ByteArray, S = ⟨(sealL (bys ⟨#[97]⟩)).toArray⟩ := ⟨_, rfl⟩
  have hsz : S.size = 17 := by rw [hS]; exact fx_len
  have K3 := hide (fun X => Sum_any ⟨#[49, 50, 51, 52, 53, 54, 55, 56, 57]⟩ X (by decide))
  rw [← hS] at K1
  rw [fx_sum] at K3
  clear hS
  go_enter Try.func13, Try.ntmps13
  go_wp2_with fail
  refine K1.out.mono ?_
  rintro e w1 ⟨rfl, hb⟩
  have HB1 := hide (hb.alloc hb.size (.cells #[.int .i64 1, .int .i64 2, .int .i64 5, .int .i64 0] 40))
  have FA := hide (fault_one w1 ⟨1, 2, 5, 0⟩)
  have K2 := hide (New_ok ⟨#[97, 98, 99]⟩ (by decide) FA.out fx_may)
  clear hb
  go_wp2_with fail
  refine K2.out.mono ?_
  rintro e w2 ⟨D, u, rfl, hD, hds, hu, hb⟩
  have HB2 := hide (HB1.out.trans (hb.mono HB1.out.size))
  have hDw : w.heap.size ≤ D := Nat.le_trans HB1.out.size hD
  have HDS := hide hds
  clear hb hu K2 FA hds hD
  go_wp2_with fail
  refine (K3.out _).mono ?_
  rintro e w2' ⟨rfl, rfl⟩
  have K4 := hide (Read_any 0 3 ⟨#[97, 98, 99]⟩ fx 0 D u w2 HDS.out (by decide) (by omega))
  rw [fx_r0] at K4
  dsimp only at K4
  go_wp2_with fail
  refine K4.out.mono ?_
  rintro e w3 ⟨rfl, hbu, hds⟩
  have HB3 := hide (HB2.out.trans (hbu.to_below HB2.out.size hDw))
  have K5 := hide (Read_any 0 3 ⟨#[97, 98, 99]⟩ fx 1 D u w3 hds (by decide) (by omega))
  rw [fx_r1] at K5
  dsimp only at K5
  clear hbu hds
  go_wp2_with fail
  refine K5.out.mono ?_
  rintro e w4 ⟨rfl, hbu, hds⟩
  have HB4 := hide (HB3.out.trans (hbu.to_below HB3.out.size hDw))
  have K6 := hide (Reads_any hds)
  have K7 := hide (Size_any hds)
  clear hbu hds
  go_wp2_with fail
  refine K6.out.mono ?_
  rintro e w5 ⟨rfl, rfl⟩
  go_wp2_with fail
  refine K7.out.mono ?_
  rintro e w5 ⟨rfl, rfl⟩
  go_wp2
  go_ret
  exact ⟨rfl, HB4.out⟩

end Go.Proofs.Ytdbbdclhfcakdaa

namespace Go.Proofs.Ytdbbdclhfcakdaa
open Go.RowKit

end Go.Proofs.Ytdbbdclhfcakdaa

namespace Go.Proofs.Ytdbbdclhfcakdaa
open Go.RowKit

theorem flip_cat (l : List UInt8) {p k : Nat} (hp : p < l.length) : l.take p ++ [UInt8.ofNat (byt l p ^^^ 2 ^ k)] ++ l.drop (p + 1) = flipB l p k := by
  unfold flipB
  rw [List.set_eq_take_append_cons_drop, if_pos hp, List.append_assoc]
  rfl

theorem turned_cat (S : ByteArray) {p k : Nat} (hp : p < S.size) : S.extract 0 p ++ ⟨#[UInt8.ofNat (byt (bys S) p ^^^ 2 ^ k)]⟩ ++ S.extract (p + 1) S.size = ⟨(flipB (bys S) p k).toArray⟩ := by
  rw [← mk_bysB (S.extract 0 p ++ ⟨#[UInt8.ofNat (byt (bys S) p ^^^ 2 ^ k)]⟩ ++ S.extract (p + 1) S.size), bys_append, bys_append, bys_toB, bys_fromB _ _ _ (Nat.le_refl _), show bys ⟨#[UInt8.ofNat (byt (bys S) p ^^^ 2 ^ k)]⟩ = [UInt8.ofNat (byt (bys S) p ^^^ 2 ^ k)] from rfl, flip_cat _ (by rw [bys_len]; exact hp)]

theorem conv1 (q k : Nat) (hq : q < 256) (hk : k ≤ 7) (w : World) : (convert 52 9 (.slice (some ⟨w.heap.size, 0, none⟩) 1 1)).run Try.prog (w.alloc (.cells #[.int .u8 ((q ^^^ 2 ^ k : Nat) : Int)] 5)) = .ok (.string ⟨#[UInt8.ofNat (q ^^^ 2 ^ k)]⟩) (w.alloc (.cells #[.int .u8 ((q ^^^ 2 ^ k : Nat) : Int)] 5)) := by
  have B := Blk.newAt w w.heap.size rfl #[.int .u8 ((q ^^^ 2 ^ k : Nat) : Int)] 5
  refine convB_at (l := [UInt8.ofNat (q ^^^ 2 ^ k)]) fun i hi => ?_
  have h2 : 2 ^ k < 256 := Nat.lt_of_le_of_lt (Nat.pow_le_pow_right (by decide) hk) (by decide)
  obtain rfl : i = 0 := by simpa using hi
  rw [Nat.zero_add, B.cell 0]
  show some (Value.int .u8 ((q ^^^ 2 ^ k : Nat) : Int)) = some (Value.int .u8 (((UInt8.ofNat (q ^^^ 2 ^ k)).toNat : Nat) : Int))
  rw [UInt8.toNat_ofNat', Nat.mod_eq_of_lt (Nat.xor_lt_two_pow (n := 8) hq h2)]

theorem xor_bit {q k : Nat} (hq : q < 256) (hk : k ≤ 7) : bits .xor .u8 (q : Int) (2 ^ k % 256) = ((q ^^^ 2 ^ k : Nat) : Int) := by
  have h2 : 2 ^ k < 256 := Nat.lt_of_le_of_lt (Nat.pow_le_pow_right (by decide) hk) (by decide)
  have := u8_xor_nat q (2 ^ k) hq h2
  have e : ((2 : Int) ^ k) = ((2 ^ k : Nat) : Int) := (Int.natCast_pow 2 k).symm
  have e2 : (((2 ^ k : Nat) : Int) % 256) = ((2 ^ k : Nat) : Int) := Int.emod_eq_of_lt (Int.natCast_nonneg _) (Int.ofNat_lt.2 h2)
  rw [e, e2]
  exact this

end Go.Proofs.Ytdbbdclhfcakdaa

namespace Go.Proofs.Ytdbbdclhfcakdaa
open Go.RowKit

theorem findF_none (fs : List Flt) (n : Int) (hm : ∀ k, k < fs.length → mayF (nth fs k) = true) : (findF fs n).kind = 0 ↔ ∀ k, k < fs.length → (nth fs k).at_ ≠ n := by
  induction fs with
  | nil => exact ⟨fun _ k hk => by simp at hk, fun _ => rfl⟩
  | cons f r ih =>
    simp only [findF]
    have ih' := ih (fun k hk => by have := hm (k + 1) (by simpa using hk); simpa [nth] using this)
    by_cases hq : f.at_ = n
    · rw [if_pos hq]
      constructor
      · intro h0
        have := of_decide_eq_true (hm 0 (by simp))
        have e : (nth (f :: r) 0).kind = f.kind := rfl
        omega
      · intro h
        exact absurd hq (h 0 (by simp))
    · rw [if_neg hq, ih']
      constructor
      · intro h k hk
        rcases k with _ | k
        · exact hq
        · have := h k (by simpa using hk); simpa [nth] using this
      · intro h k hk
        have := h (k + 1) (by simpa using hk); simpa [nth] using this

set_option maxHeartbeats 1000000 in
theorem rNew_long (img : ByteArray) (v : Value) (w : World) (h : 65552 < img.size) : Calls Try.prog 16 #[.string img, v] w fun e w' => e = .returned (.tuple #[.pointer none, .int .i64 106]) ∧ Below w.heap.size w w' := by
  have h' : (65552 : Int) < (img.size : Int) := by omega
  go_enter Try.func16, Try.ntmps16
  go_wp2
  go_ret2
  exact ⟨rfl, Below.refl _ _⟩

set_option maxHeartbeats 1000000 in
theorem rNew_many (img : ByteArray) (ao : Option Addr) (l cap : Nat) (w : World) (h : img.size ≤ 65552) (hl : 64 < l) (hl2 : l ≤ 9223372036854775807) : Calls Try.prog 16 #[.string img, .slice ao l cap] w fun e w' => e = .returned (.tuple #[.pointer none, .int .i64 103]) ∧ Below w.heap.size w w' := by
  have h' : ¬ (65552 : Int) < (img.size : Int) := by omega
  have h2' : (64 : Int) < (l : Int) := by omega
  go_enter Try.func16, Try.ntmps16
  go_wp2
  go_ret2
  exact ⟨rfl, Below.refl _ _⟩

-- MAIN
theorem okTo_may (fs : List Flt) : ∀ n, okTo fs n = true → ∀ k, k < n → mayF (nth fs k) = true := by
  intro n h k hk
  have := okTo_true fs n h k hk
  unfold okN at this
  simp only [Bool.and_eq_true] at this
  exact this.1

set_option maxRecDepth 100000 in
set_option maxHeartbeats 4000000 in
theorem rNew_at (img : ByteArray) (b o cap : Nat) (fs : List Flt) (w : World) (hi : img.size ≤ 65552) (hl : fs.length ≤ 64) (hb : b < w.heap.size) (hc : fs.length ≤ cap)
    (h3 : ∀ i, i < fs.length → w.cell? ⟨b, o + i * 4, none⟩ = some (.int .i64 (nth fs i).at_) ∧ w.cell? ⟨b, o + i * 4 + 1, none⟩ = some (.int .i64 (nth fs i).kind) ∧ w.cell? ⟨b, o + i * 4 + 2, none⟩ = some (.int .i64 (nth fs i).byte) ∧ w.cell? ⟨b, o + i * 4 + 3, none⟩ = some (.int .i64 (nth fs i).bit)) :
    Calls Try.prog 16 #[.string img, .slice (some ⟨b, o, none⟩) fs.length cap] w fun e w' => (okTo fs fs.length = true → ∃ D, e = .returned (.tuple #[.pointer (some ⟨D, 0, none⟩), .int .i64 0]) ∧ w.heap.size ≤ D ∧ ∃ u, Dsk 46 w' D u img fs 0 ∧ (∀ b o l c, u = .slice (some ⟨b, o, none⟩) l c → w.heap.size ≤ b ∧ b < w'.heap.size) ∧ Below w.heap.size w w') ∧ (okTo fs fs.length = false → e = .returned (.tuple #[.pointer none, .int .i64 103]) ∧ Below w.heap.size w w') := by
  obtain ⟨i0, hi0, hz0, hz1, hz2⟩ := info_parts Try.infoF
  have H3 := hide h3
  have HFA : Hid (FAt w (some ⟨b, o, none⟩) fs) := .inr ⟨b, o, rfl, hb, h3⟩
  clear h3
  obtain ⟨L, hL⟩ : ∃ L, L = fs.length := ⟨_, rfl⟩
  rw [← hL] at hl hc ⊢
  have HL := hide hL
  clear hL
  have hl' : ¬ (64 : Int) < (L : Int) := by omega
  have hi' : ¬ (65552 : Int) < (img.size : Int) := by omega
  go_enter Try.func16, Try.ntmps16
  go_wp2
  go_loopw [6] (fun p wr => ∃ k : Nat, k ≤ L ∧ p = .int .i64 (k : Int) ∧ Hid (okTo fs k = true) ∧ Hid (Below w.heap.size w wr)) (fun p _ => L - (intOf p).toNat)
  case atStart => exact ⟨0, Nat.zero_le _, rfl, rfl, Below.refl _ _⟩
  case round =>
    obtain ⟨k, hk, rfl, HK, HW⟩ := hrel
    by_cases hlt : k < L
    · have hlt' : (k : Int) < (L : Int) := by omega
      obtain ⟨c0, c1, c2, c3⟩ := H3.out k (by rw [← HL.out]; exact hlt)
      have bc : ∀ j, wr.cell? ⟨b, j, none⟩ = w.cell? ⟨b, j, none⟩ := fun j => HW.out.cell hb
      rw [← bc] at c0 c1 c2 c3
      have HN : Hid (okN fs k = (mayF (nth fs k) && decide ((findF (fs.take k) (nth fs k).at_).kind = 0))) := hide rfl
      have HMY := hide (okTo_may fs k HK.out)
      obtain ⟨g, hg⟩ : ∃ g, g = nth fs k := ⟨_, rfl⟩
      rw [← hg] at c0 c1 c2 c3 HN
      have HWW := hide (HW.out.alloc HW.out.size (Obj.cells #[Value.int .i64 g.at_, Value.int .i64 g.kind, Value.int .i64 g.byte, Value.int .i64 g.bit] 40))
      clear bc hg HW
      by_cases c0 : g.kind < 1
      · have hmf : mayF g = false := decide_eq_false (by omega)
        have HK2 : Hid (okTo fs L = false) := hide (okTo_false (k := k) (by rw [HN.out, hmf]; rfl) L hlt)
        clear HN HK
        go_wp2
        go_ret2
        rw [HK2.out]
        exact ⟨fun h => (by cases h), fun _ => ⟨rfl, HWW.out⟩⟩
      · have d0 : decide (g.kind < 1) = false := decide_eq_false c0
        by_cases c1 : 3 < g.kind
        · have hmf : mayF g = false := decide_eq_false (by omega)
          have HK2 : Hid (okTo fs L = false) := hide (okTo_false (k := k) (by rw [HN.out, hmf]; rfl) L hlt)
          clear HN HK
          go_wp2
          go_ret2
          rw [HK2.out]
          exact ⟨fun h => (by cases h), fun _ => ⟨rfl, HWW.out⟩⟩
        · have d1 : decide (3 < g.kind) = false := decide_eq_false c1
          by_cases c2 : g.at_ < 0
          · have hmf : mayF g = false := decide_eq_false (by omega)
            have HK2 : Hid (okTo fs L = false) := hide (okTo_false (k := k) (by rw [HN.out, hmf]; rfl) L hlt)
            clear HN HK
            go_wp2
            go_ret2
            rw [HK2.out]
            exact ⟨fun h => (by cases h), fun _ => ⟨rfl, HWW.out⟩⟩
          · have d2 : decide (g.at_ < 0) = false := decide_eq_false c2
            by_cases c3 : g.byte < 0
            · have hmf : mayF g = false := decide_eq_false (by omega)
              have HK2 : Hid (okTo fs L = false) := hide (okTo_false (k := k) (by rw [HN.out, hmf]; rfl) L hlt)
              clear HN HK
              go_wp2
              go_ret2
              rw [HK2.out]
              exact ⟨fun h => (by cases h), fun _ => ⟨rfl, HWW.out⟩⟩
            · have d3 : decide (g.byte < 0) = false := decide_eq_false c3
              by_cases c4 : g.bit < 0
              · have hmf : mayF g = false := decide_eq_false (by omega)
                have HK2 : Hid (okTo fs L = false) := hide (okTo_false (k := k) (by rw [HN.out, hmf]; rfl) L hlt)
                clear HN HK
                go_wp2
                go_ret2
                rw [HK2.out]
                exact ⟨fun h => (by cases h), fun _ => ⟨rfl, HWW.out⟩⟩
              · have d4 : decide (g.bit < 0) = false := decide_eq_false c4
                by_cases c5 : 7 < g.bit
                · have hmf : mayF g = false := decide_eq_false (by omega)
                  have HK2 : Hid (okTo fs L = false) := hide (okTo_false (k := k) (by rw [HN.out, hmf]; rfl) L hlt)
                  clear HN HK
                  go_wp2
                  go_ret2
                  rw [HK2.out]
                  exact ⟨fun h => (by cases h), fun _ => ⟨rfl, HWW.out⟩⟩
                · have d5 : decide (7 < g.bit) = false := decide_eq_false c5
                  have hmg : mayF g = true := decide_eq_true (by omega)
                  have HN2 : Hid (okN fs k = decide ((findF (fs.take k) g.at_).kind = 0)) := hide (by rw [HN.out, hmg]; rfl)
                  have Q := hide (Blk.newAt wr wr.heap.size rfl #[.int .i64 g.at_, .int .i64 g.kind, .int .i64 g.byte, .int .i64 g.bit] 40)
                  obtain ⟨W1, hW1⟩ : ∃ x, x = wr.alloc (Obj.cells #[Value.int .i64 g.at_, Value.int .i64 g.kind, Value.int .i64 g.byte, Value.int .i64 g.bit] 40) := ⟨_, rfl⟩
                  rw [← hW1] at Q HWW
                  have HW1 := hide hW1
                  have hbW : Below wr.heap.size wr W1 := by rw [hW1]; exact (Below.refl _ _).alloc (Nat.le_refl _) _
                  have HBW := hide hbW
                  clear hW1 hbW HN c0 c1 c2 c3 hmg
                  go_wp2
                  simp only [← HW1.out]
                  obtain ⟨wo, hwo⟩ : ∃ x, x = wr := ⟨_, rfl⟩
                  subst hwo
                  go_loopw [8] (fun q wq => ∃ j : Nat, j ≤ k ∧ q = .int .i64 (j : Int) ∧ Hid (∀ x, x < j → (nth fs x).at_ ≠ g.at_) ∧ Hid (Below W1.heap.size W1 wq)) (fun q _ => k - (intOf q).toNat)
                  case atStart => exact ⟨0, Nat.zero_le _, rfl, fun x hx => by omega, Below.refl _ _⟩
                  case round =>
                    obtain ⟨j, hj, rfl, HJ, HBJ⟩ := hrel
                    have Qj := hide (Q.out.below HBJ.out Q.out.lt)
                    have HWJ := hide (HWW.out.trans (HBJ.out.mono HWW.out.size))
                    by_cases hjk : j < k
                    · have hjk' : (j : Int) < (k : Int) := by omega
                      have hjL : (j : Int) < (L : Int) := by omega
                      obtain ⟨a0, _, _, _⟩ := H3.out j (by rw [← HL.out]; omega)
                      have bq : ∀ i, wr.cell? ⟨b, i, none⟩ = w.cell? ⟨b, i, none⟩ := fun i => HWJ.out.cell hb
                      rw [← bq] at a0
                      have x0 := Qj.out.cell 0
                      obtain ⟨A, hA⟩ : ∃ A, A = (nth fs j).at_ := ⟨_, rfl⟩
                      rw [← hA] at a0
                      have HA := hide hA
                      clear bq hA
                      by_cases hq : A = g.at_
                      · have hq' : (A == g.at_) = true := beq_iff_eq.2 hq
                        have hkd : ¬ (findF (fs.take k) g.at_).kind = 0 := by
                          intro h0
                          have := (findF_none (fs.take k) g.at_ (fun x hx => by rw [List.length_take] at hx; rw [nth_take fs (by omega)]; exact HMY.out x (by omega))).1 h0 j (by rw [List.length_take, ← HL.out]; omega)
                          rw [nth_take fs hjk, ← HA.out] at this
                          exact this hq
                        have HK2 : Hid (okTo fs L = false) := hide (okTo_false (k := k) (by rw [HN2.out]; exact decide_eq_false hkd) L hlt)
                        clear hq hkd HN2 HK HMY
                        go_wp2_with fail
                        go_region
                        go_wp2
                        go_ret2
                        rw [HK2.out]
                        exact ⟨fun h => (by cases h), fun _ => ⟨rfl, HWJ.out.drew⟩⟩
                      · have hq' : (A == g.at_) = false := beq_eq_false_iff_ne.2 hq
                        have HJ2 : Hid (∀ x, x < j + 1 → (nth fs x).at_ ≠ g.at_) := hide (fun x hx => by
                          by_cases h : x < j
                          · exact HJ.out x h
                          · obtain rfl : x = j := by omega
                            rw [← HA.out]; exact hq)
                        clear hq HJ
                        go_wp2_with fail
                        go_region
                        go_wp2
                        exact ⟨⟨j + 1, by omega, by go_num, HJ2, HBJ.out.drew⟩, by simp [intOf]; omega⟩
                    · obtain rfl : j = k := by omega
                      have hjk' : ¬ (j : Int) < (j : Int) := by omega
                      have hkd : (findF (fs.take j) g.at_).kind = 0 := (findF_none (fs.take j) g.at_ (fun x hx => by rw [List.length_take] at hx; rw [nth_take fs (by omega)]; exact HMY.out x (by omega))).2 (fun x hx => by rw [List.length_take] at hx; rw [nth_take fs (by omega)]; exact HJ.out x (by omega))
                      have HK2 : Hid (okTo fs (j + 1) = true) := hide (by simp only [okTo]; rw [HK.out, HN2.out, decide_eq_true hkd]; rfl)
                      clear hkd HN2 HJ HMY hjk
                      go_wp2
                      exact ⟨⟨j + 1, by omega, by go_num, HK2, HWJ⟩, by simp [intOf]; omega⟩
    · obtain rfl : k = L := by omega
      have hlt' : ¬ (k : Int) < (k : Int) := by omega
      have HN2 := hide (HFA.out.below HW.out).news
      have HB0 := hide (HW.out.alloc HW.out.size (.cells #[] 40))
      have HBx : Hid (Below wr.heap.size wr (wr.alloc (.cells #[] 40))) := (Below.refl _ _).alloc (Nat.le_refl _) _
      have HMY := hide (okTo_may fs k HK.out)
      clear hlt
      go_wp2_with (at_builtin; refine wpList_append_own _ rfl _ _ 29 rfl wr.heap.size 40 i0 (.agg #[.int .i64 0, .int .i64 0, .int .i64 0, .int .i64 0]) 4 32 Try.underlying29 hi0 hz0 hz1 hz2 rfl (by decide) _ 0 [] rfl (World.ownsRow_made wr #[] 0 (Nat.le_refl _) (by decide) rfl) ⟨b, o, none⟩ k cap (cellsF fs) rfl (by rw [cellsF_len, ← HL.out]) ?_ (cellsF_one fs) ?_ ?_ ?_ ?_)
      · intro j u hj
        have := HN2.out j u hj
        rw [Addr.add_lit] at this
        exact (HBx.out.cell (p := ⟨b, o + j, none⟩) (World.block_lt_of_cell? wr _ this)).trans this
      all_goals (try (first | (unfold maxLen; omega) | omega | (simp; done)))
      · intro v' w' hown hgr _
        obtain rfl := HL.out
        have hown2 : w'.ownsRow wr.heap.size 40 4 v' fs.length (cellsF fs) := by simpa using hown
        have HO := hide (FOwn.of_owns hown2)
        have HBf := hide (HB0.out.grown hgr (by simp; have := HW.out.size; omega) (fun q hq => by simp [Value.ownBlock] at hq; have := HW.out.size; omega))
        have hws := HW.out.size
        obtain ⟨uo, uc, rfl, _⟩ := id HO.out.1
        clear hown hgr hown2
        go_wp2
        go_ret2
        rw [HK.out]
        refine ⟨fun _ => ?_, fun h => by cases h⟩
        have hal : Below w'.heap.size w' (w'.alloc (.cells #[.string img, .slice uo fs.length uc, .int .i64 0] 46)) := (Below.refl _ _).alloc (Nat.le_refl _) _
        have hbk := Blk.newAt w' w'.heap.size rfl #[.string img, .slice uo fs.length uc, .int .i64 0] 46
        refine ⟨w'.heap.size, rfl, HBf.out.size, _, ⟨hbk, HO.out.1.below hal, fun b o l c e => ?_, hl, HMY.out⟩, fun b o l c e => ?_, HBf.out.alloc HBf.out.size _⟩
        · have := (HO.out.2.1 b o l c e).2
          omega
        · have := HO.out.2.1 b o l c e
          have := hal.size
          omega

set_option maxHeartbeats 1000000 in
theorem rNew_empty (img : ByteArray) (ao : Option Addr) (cap : Nat) (w : World) (hi : img.size ≤ 65552) (hn : ao = none → cap = 0) :
    Calls Try.prog 16 #[.string img, .slice ao 0 cap] w fun e w' => ∃ D, e = .returned (.tuple #[.pointer (some ⟨D, 0, none⟩), .int .i64 0]) ∧ w.heap.size ≤ D ∧ ∃ u, Dsk 46 w' D u img [] 0 ∧ (∀ b o l c, u = .slice (some ⟨b, o, none⟩) l c → w.heap.size ≤ b ∧ b < w'.heap.size) ∧ Below w.heap.size w w' := by
  obtain ⟨i0, hi0, hz0, hz1, hz2⟩ := info_parts Try.infoF
  have hi' : ¬ (65552 : Int) < (img.size : Int) := by omega
  have HB0 : Hid (Below w.heap.size w (w.alloc (.cells #[] 40))) := (Below.refl _ _).alloc (Nat.le_refl _) _
  cases ao with
  | none =>
    obtain rfl := hn rfl
    go_enter Try.func16, Try.ntmps16
    go_wp2
    go_loopw [6] (fun p wr => p = .int .i64 0 ∧ wr = w) (fun p _ => 0)
    case atStart => exact ⟨rfl, rfl⟩
    case round =>
      obtain ⟨rfl, hw⟩ := hrel
      replace hw := hw.symm
      subst hw
      have HOW := hide (World.ownsRow_made (base := w.heap.size) (e := 40) (size := 4) w #[] 0 (Nat.le_refl _) (by decide) rfl)
      go_wp2_with (at_builtin; refine wpList_append_own_none rfl _ _ 29 rfl w.heap.size 40 i0 4 Try.underlying29 hi0 _ 0 [] rfl HOW.out rfl ?_)
      have HO : Hid (FOwn w.heap.size (w.alloc (.cells #[] 40)) (.slice (some ⟨w.heap.size, 0, none⟩) 0 0) []) := hide (FOwn.of_owns (fs := []) HOW.out)
      go_wp2
      go_ret2
      have hal : Below (w.alloc (.cells #[] 40)).heap.size (w.alloc (.cells #[] 40)) ((w.alloc (.cells #[] 40)).alloc (.cells #[.string img, .slice (some ⟨w.heap.size, 0, none⟩) 0 0, .int .i64 0] 46)) := (Below.refl _ _).alloc (Nat.le_refl _) _
      have hbk := Blk.newAt (w.alloc (.cells #[] 40)) (w.heap.size + 1) (by simp) #[.string img, .slice (some ⟨w.heap.size, 0, none⟩) 0 0, .int .i64 0] 46
      refine ⟨w.heap.size + 1, rfl, by omega, _, ⟨hbk, HO.out.1.below hal, fun b o l c e => ?_, by simp, fun k hk => by simp at hk⟩, fun b o l c e => ?_, HB0.out.alloc (by simp) _⟩
      · have := (HO.out.2.1 b o l c e).2
        simp at this
        omega
      · have := HO.out.2.1 b o l c e
        have := hal.size
        omega
  | some ad =>
    go_enter Try.func16, Try.ntmps16
    go_wp2
    go_loopw [6] (fun p wr => p = .int .i64 0 ∧ wr = w) (fun p _ => 0)
    case atStart => exact ⟨rfl, rfl⟩
    case round =>
      obtain ⟨rfl, hw⟩ := hrel
      replace hw := hw.symm
      subst hw
      go_wp2_with (at_builtin; refine wpList_append_own _ rfl _ _ 29 rfl w.heap.size 40 i0 (.agg #[.int .i64 0, .int .i64 0, .int .i64 0, .int .i64 0]) 4 32 Try.underlying29 hi0 hz0 hz1 hz2 rfl (by decide) _ 0 [] rfl (World.ownsRow_made w #[] 0 (Nat.le_refl _) (by decide) rfl) ad 0 cap [] rfl rfl (fun j u hj => by simp at hj) (fun u hu => by simp at hu) ?_ ?_ ?_ ?_)
      all_goals (try (first | (unfold maxLen; omega) | omega | (simp; done)))
      · intro v' w' hown hgr _
        have HO := hide (FOwn.of_owns (fs := []) hown)
        have HBf := hide (HB0.out.grown hgr (by simp) (fun q hq => by simp [Value.ownBlock] at hq; omega))
        obtain ⟨uo, uc, rfl, _⟩ := id HO.out.1
        clear hown hgr
        go_wp2
        go_ret2
        have hal : Below w'.heap.size w' (w'.alloc (.cells #[.string img, .slice uo 0 uc, .int .i64 0] 46)) := (Below.refl _ _).alloc (Nat.le_refl _) _
        have hbk := Blk.newAt w' w'.heap.size rfl #[.string img, .slice uo 0 uc, .int .i64 0] 46
        refine ⟨w'.heap.size, rfl, HBf.out.size, _, ⟨hbk, HO.out.1.below hal, fun b o l c e => ?_, by simp, fun k hk => by simp at hk⟩, fun b o l c e => ?_, HBf.out.alloc HBf.out.size _⟩
        · have := (HO.out.2.1 b o l c e).2
          omega
        · have := HO.out.2.1 b o l c e
          have := hal.size
          omega

theorem rNew_ok {w : World} {v : Value} {fs : List Flt} (img : ByteArray) (hi : img.size ≤ 65552) (h : FArg w v fs) (hm : mayAllF fs = true) : Calls Try.prog 16 #[.string img, v] w fun e w' => ∃ D, e = .returned (.tuple #[.pointer (some ⟨D, 0, none⟩), .int .i64 0]) ∧ w.heap.size ≤ D ∧ ∃ u, Dsk 46 w' D u img fs 0 ∧ (∀ b o l c, u = .slice (some ⟨b, o, none⟩) l c → w.heap.size ≤ b ∧ b < w'.heap.size) ∧ Below w.heap.size w w' := by
  obtain ⟨hl, _⟩ := may_of_all hm
  have hok : okTo fs fs.length = true := by unfold mayAllF at hm; simp only [Bool.and_eq_true] at hm; exact hm.2
  obtain ⟨⟨ao, cap, rfl, h2, h3⟩, hn⟩ := h
  rcases h3 with rfl | ⟨b, o, rfl, hb, h3⟩
  · exact rNew_empty img ao cap w hi (fun e => hn _ _ (by rw [e]))
  · exact (rNew_at img b o cap fs w hi hl hb h2 h3).mono fun e w' hp => hp.1 hok

theorem rNew_fault {w : World} {v : Value} {fs : List Flt} (img : ByteArray) (hi : img.size ≤ 65552) (h : FArg w v fs) (hl : fs.length ≤ 9223372036854775807) (hm : mayAllF fs = false) : Calls Try.prog 16 #[.string img, v] w fun e w' => e = .returned (.tuple #[.pointer none, .int .i64 103]) ∧ Below w.heap.size w w' := by
  obtain ⟨⟨ao, cap, rfl, h2, h3⟩, hn⟩ := h
  by_cases h64 : fs.length ≤ 64
  · have hok : okTo fs fs.length = false := by unfold mayAllF at hm; simpa [h64] using hm
    rcases h3 with rfl | ⟨b, o, rfl, hb, h3⟩
    · cases hok
    · exact (rNew_at img b o cap fs w hi h64 hb h2 h3).mono fun e w' hp => hp.2 hok
  · exact rNew_many img ao fs.length cap w hi (by omega) hl

end Go.Proofs.Ytdbbdclhfcakdaa

namespace Go.Proofs.Ytdbbdclhfcakdaa
open Go.RowKit

set_option maxHeartbeats 1000000 in
theorem rRead_no (at_ n : Int) (img : ByteArray) (fs : List Flt) (r D : Nat) (v : Value) (w : World) (h : Dsk 46 w D v img fs r) (_ : img.size ≤ 65552) (hh : hasT img.size at_ n = false) :
    Calls Try.prog 19 #[.pointer (some ⟨D, 0, none⟩), .int .i64 at_, .int .i64 n] w fun e w' => e = .returned (.tuple #[.string ⟨#[]⟩, .int .i64 102]) ∧ w = w' := by
  have c0 := h.blk.cell 0
  have hn := of_decide_eq_false hh
  clear h hh
  by_cases h1 : n < 1
  · go_enter Try.func19, Try.ntmps19
    go_wp2
    go_ret2
    exact ⟨rfl, rfl⟩
  · by_cases h2 : 64 < n
    · have h1' : decide (n < 1) = false := decide_eq_false h1
      go_enter Try.func19, Try.ntmps19
      go_wp2
      go_ret2
      exact ⟨rfl, rfl⟩
    · have h1' : decide (n < 1) = false := decide_eq_false h1
      have h2' : decide (64 < n) = false := decide_eq_false h2
      by_cases h3 : at_ < 0
      · go_enter Try.func19, Try.ntmps19
        go_wp2
        go_ret2
        exact ⟨rfl, rfl⟩
      · have h3' : decide (at_ < 0) = false := decide_eq_false h3
        by_cases h4 : (img.size : Int) < at_
        · go_enter Try.func19, Try.ntmps19
          go_wp2
          go_ret2
          exact ⟨rfl, rfl⟩
        · have h4' : decide ((img.size : Int) < at_) = false := decide_eq_false h4
          have h5 : (img.size : Int) - at_ < n := by omega
          go_enter Try.func19, Try.ntmps19
          go_wp2
          go_ret2
          exact ⟨rfl, rfl⟩

set_option maxRecDepth 100000 in
set_option maxHeartbeats 4000000 in
theorem rRead_ok (img : ByteArray) (fs : List Flt) (r p n D : Nat) (v : Value) (w : World) (h : Dsk 46 w D v img fs r) (hi : img.size ≤ 65552) (hr : r ≤ 1000000000000000000) (hn1 : 1 ≤ n) (hn2 : n ≤ 64) (hpn : p + n ≤ img.size) (R : ByteArray) (E : Int) (hR : (R, E) = chg (findF fs (r : Int)) (img.extract p (p + n))) :
    Calls Try.prog 19 #[.pointer (some ⟨D, 0, none⟩), .int .i64 (p : Int), .int .i64 (n : Int)] w fun e w' => e = .returned (.tuple #[.string R, .int .i64 E]) ∧ But D w w' ∧ Dsk 46 w' D v img fs (r + 1) := by
  obtain ⟨ao, cap, rfl, hlc, hfa⟩ := id h.lst
  obtain ⟨w2, hw2⟩ : ∃ x, x = w.setCell ⟨D, 2, none⟩ (.int .i64 ((r : Int) + 1)) := ⟨_, rfl⟩
  have BD2 : Hid (Blk w2 D #[.string img, .slice ao fs.length cap, .int .i64 ((r : Int) + 1)] 46) := hide (by rw [hw2]; exact h.blk.set2 _)
  have HBU2 : Hid (But D w w2) := hide (by rw [hw2]; exact (But.refl _ _).set 2 _)
  have HFS2 := hide (h.lst.but HBU2.out h.off)
  have HO := hide h.off
  have HMY := hide h.may
  have HMN := hide h.many
  have hml := h.many
  have y0 := h.blk.cell 0
  have y2 := h.blk.cell 2
  have y3 := h.blk.free 2
  have HW2 := hide hw2
  obtain ⟨s, hs⟩ : ∃ s : ByteArray, s = img.extract p (p + n) := ⟨_, rfl⟩
  have hss : s.size = n := by rw [hs, ByteArray.size_extract]; omega
  rw [← hs] at hR
  have HS := hide hs
  have HRR := hide hR
  obtain ⟨L, hL⟩ : ∃ L, L = fs.length := ⟨_, rfl⟩
  rw [← hL] at BD2 HFS2 HO hml hlc
  have HL := hide hL
  have hto : ((p : Int) + (n : Int)).toNat = p + n := by omega
  have e1 : ¬ (n : Int) < 1 := by omega
  have e2 : ¬ (64 : Int) < (n : Int) := by omega
  have e3 : ¬ (p : Int) < 0 := by omega
  have e4 : ¬ (img.size : Int) < (p : Int) := by omega
  have e5 : ¬ (img.size : Int) - (p : Int) < (n : Int) := by omega
  have d1 := decide_eq_false e1
  have d2 := decide_eq_false e2
  have d3 := decide_eq_false e3
  have d4 := decide_eq_false e4
  have d5 := decide_eq_false e5
  have hpn1 : (p : Int) ≤ (p : Int) + (n : Int) := by omega
  have hpn2 : (p : Int) + (n : Int) ≤ (img.size : Int) := by omega
  clear hw2 hs hR hL hfa h
  go_enter Try.func19, Try.ntmps19
  go_wp2_with fail
  simp only [← HW2.out, ← HS.out]
  go_loopw [10] (fun q wr => ∃ k : Nat, k ≤ L ∧ q = .int .i64 (k : Int) ∧ Hid (findF (fs.drop k) (r : Int) = findF fs (r : Int)) ∧ Hid (Below w2.heap.size w2 wr)) (fun q _ => L - (intOf q).toNat)
  case atStart => exact ⟨0, Nat.zero_le _, rfl, rfl, Below.refl _ _⟩
  case round =>
    obtain ⟨k, hk, rfl, HF, HB⟩ := hrel
    have BDr := hide (BD2.out.below HB.out BD2.out.lt)
    have hD2 := BD2.out.lt
    have z1 := BDr.out.cell 1
    by_cases hlt : k < L
    · have hlt' : (k : Int) < (L : Int) := by omega
      obtain ⟨ao', cap', hv, _, hfa⟩ := HFS2.out
      obtain ⟨b, o, hao, hbl, hcl⟩ : ∃ b o, ao = some ⟨b, o, none⟩ ∧ b < w2.heap.size ∧ ∀ i, i < fs.length → w2.cell? ⟨b, o + i * 4, none⟩ = some (.int .i64 (nth fs i).at_) ∧ w2.cell? ⟨b, o + i * 4 + 1, none⟩ = some (.int .i64 (nth fs i).kind) ∧ w2.cell? ⟨b, o + i * 4 + 2, none⟩ = some (.int .i64 (nth fs i).byte) ∧ w2.cell? ⟨b, o + i * 4 + 3, none⟩ = some (.int .i64 (nth fs i).bit) := by
        simp only [Value.slice.injEq] at hv
        obtain ⟨rfl, _, _⟩ := hv
        rcases hfa with rfl | ⟨b, o, he, h1, h2⟩
        · have := HL.out; simp at this; omega
        · exact ⟨b, o, he, h1, h2⟩
      subst hao
      obtain ⟨c0, c1, c2, c3⟩ := hcl k (by rw [← HL.out]; exact hlt)
      have bc : ∀ j, wr.cell? ⟨b, j, none⟩ = w2.cell? ⟨b, j, none⟩ := fun j => HB.out.cell hbl
      rw [← bc] at c0 c1 c2 c3
      have f1 := findF_drop fs (r : Int) k (by rw [← HL.out]; exact hlt)
      have hgm := HMY.out k (by rw [← HL.out]; exact hlt)
      obtain ⟨g, hg⟩ : ∃ g, g = nth fs k := ⟨_, rfl⟩
      rw [← hg] at c0 c1 c2 c3 f1 hgm
      have hgp := of_decide_eq_true hgm
      have Q := hide (Blk.newAt wr wr.heap.size rfl #[.int .i64 g.at_, .int .i64 g.kind, .int .i64 g.byte, .int .i64 g.bit] 40)
      have HBB := hide (HB.out.alloc HB.out.size (Obj.cells #[Value.int .i64 g.at_, Value.int .i64 g.kind, Value.int .i64 g.byte, Value.int .i64 g.bit] 40))
      have BDF := hide (BDr.out.alloc (Obj.cells #[Value.int .i64 g.at_, Value.int .i64 g.kind, Value.int .i64 g.byte, Value.int .i64 g.bit] 40))
      have HBF := hide (HBU2.out.trans (But.of_below HBB.out))
      obtain ⟨x0, x1, x2, x3⟩ := Q.out.four
      clear hv hfa hcl bc hg hgm
      by_cases hq : g.at_ = (r : Int)
      · rw [if_pos hq, HF.out] at f1
        have hq' : (g.at_ != (r : Int)) = false := by rw [hq]; simp
        have HR2 := HRR.out
        rw [f1] at HR2
        obtain ⟨pe, pl⟩ := tmod_place (n := n) hgp.2.2.2.1 hn1
        rcases (show g.kind = 1 ∨ g.kind = 2 ∨ g.kind = 3 by omega) with hk1 | hk2 | hk3
        · have hk1' : (g.kind == 1) = true := by rw [hk1]; rfl
          have ec : chg g s = (⟨#[]⟩, 100) := by unfold chg; rw [if_pos hk1]
          rw [ec] at HR2
          obtain ⟨rfl, rfl⟩ := Prod.mk.inj HR2
          clear hq hk1 f1 HF hgp HR2 ec HRR pe pl
          go_wp2
          go_ret2
          exact ⟨rfl, HBF.out, ⟨by first | exact BDF.out | (obtain rfl := HL.out; exact BDF.out), by first | exact HFS2.out.below HBB.out | (obtain rfl := HL.out; exact HFS2.out.below HBB.out), by first | exact HO.out | (obtain rfl := HL.out; exact HO.out), HMN.out, HMY.out⟩⟩
        · have hk1' : (g.kind == 1) = false := by rw [hk2]; rfl
          have hk2' : (g.kind == 2) = true := by rw [hk2]; rfl
          obtain ⟨t, ht⟩ : ∃ t, t = (g.byte.tmod (n : Int)).toNat := ⟨_, rfl⟩
          have ec : chg g s = (s.extract 0 t, 0) := by unfold chg; rw [if_neg (by omega), if_pos hk2, hss, ← ht]
          rw [ec] at HR2
          obtain ⟨rfl, rfl⟩ := Prod.mk.inj HR2
          rw [← ht] at pe pl
          have hn0 : ((n : Int) == 0) = false := beq_eq_false_iff_ne.2 (by omega)
          have htl : (t : Int) ≤ (s.size : Int) := by omega
          clear hq hk2 f1 HF hgp HR2 ec HRR ht
          go_wp2
          go_ret2
          exact ⟨rfl, HBF.out, ⟨by first | exact BDF.out | (obtain rfl := HL.out; exact BDF.out), by first | exact HFS2.out.below HBB.out | (obtain rfl := HL.out; exact HFS2.out.below HBB.out), by first | exact HO.out | (obtain rfl := HL.out; exact HO.out), HMN.out, HMY.out⟩⟩
        · have hk1' : (g.kind == 1) = false := by rw [hk3]; rfl
          have hk2' : (g.kind == 2) = false := by rw [hk3]; rfl
          obtain ⟨t, ht⟩ : ∃ t, t = (g.byte.tmod (n : Int)).toNat := ⟨_, rfl⟩
          obtain ⟨kk, hkk⟩ := Int.eq_ofNat_of_zero_le hgp.2.2.2.2.1
          have hk7 : kk ≤ 7 := by omega
          have ec : chg g s = (⟨(flipB (bys s) t kk).toArray⟩, 0) := by unfold chg; rw [if_neg (by omega), if_neg (by omega), if_pos hk3, hss, ← ht, hkk, Int.toNat_natCast]
          rw [ec] at HR2
          obtain ⟨hTn, rfl⟩ := Prod.mk.inj HR2
          rw [← ht] at pe pl
          have hn0 : ((n : Int) == 0) = false := beq_eq_false_iff_ne.2 (by omega)
          obtain ⟨q, hqq⟩ : ∃ q, q = byt (bys s) t := ⟨_, rfl⟩
          have hts : t < s.size := by omega
          have hgq : ∀ h : t < s.size, s[t].toNat = q := fun h => by rw [hqq]; exact byt_get s t h
          have hql : q < 256 := by rw [hqq]; exact byt_lt _ _
          have HX := hide (xor_bit hql hk7)
          have hcat := turned_cat s (k := kk) hts
          rw [← hqq] at hcat
          obtain ⟨wf, hwf⟩ : ∃ x, x = wr.alloc (Obj.cells #[Value.int .i64 g.at_, Value.int .i64 g.kind, Value.int .i64 g.byte, Value.int .i64 g.bit] 40) := ⟨_, rfl⟩
          have HCV : Hid ((convert 52 9 (.slice (some ⟨wf.heap.size, 0, none⟩) 1 1)).run Try.prog (wf.alloc (.cells #[.int .u8 ((q ^^^ 2 ^ kk : Nat) : Int)] 5)).drew = .ok (.string ⟨#[UInt8.ofNat (q ^^^ 2 ^ kk)]⟩) (wf.alloc (.cells #[.int .u8 ((q ^^^ 2 ^ kk : Nat) : Int)] 5)).drew) := hide (conv1 q kk hql hk7 wf.drew)
          obtain ⟨B1, hB1⟩ : ∃ B : ByteArray, B = ⟨#[UInt8.ofNat (q ^^^ 2 ^ kk)]⟩ := ⟨_, rfl⟩
          have hB1s : B1.size = 1 := by rw [hB1]; rfl
          rw [← hB1] at HCV hcat
          rw [← hTn] at hcat
          have HCAT := hide hcat
          generalize q ^^^ 2 ^ kk = qq at *
          have u1 : (s.extract 0 t).size = t := by rw [ByteArray.size_extract]; omega
          have u2 : (s.extract 0 t ++ B1).size = t + 1 := by rw [ByteArray.size_append, u1, hB1s]
          have u3 : (s.extract (t + 1) s.size).size = s.size - (t + 1) := by rw [ByteArray.size_extract]; omega
          have v1 : ¬ 9223372036854775807 < t + 1 := by omega
          have v2 : ¬ 9223372036854775807 < t + 1 + (s.size - (t + 1)) := by omega
          have hpi : (t : Int) < (s.size : Int) := by omega
          have hpi2 : (t : Int) ≤ (s.size : Int) := by omega
          have hpi3 : (t : Int) + 1 ≤ (s.size : Int) := by omega
          have hwp : IntKind.i64.wrap ((t : Int) + 1) = (t : Int) + 1 := by rw [IntKind.wrap_i64]; omega
          have htn : ((t : Int) + 1).toNat = t + 1 := by omega
          have HAL : Hid (Below wr.heap.size wr wf) := hide (by rw [hwf]; exact (Below.refl _ _).alloc (Nat.le_refl _) _)
          have QW : Hid (Blk wf wr.heap.size #[.int .i64 g.at_, .int .i64 g.kind, .int .i64 g.byte, .int .i64 (kk : Int)] 40) := hide (by rw [hwf, ← hkk]; exact Q.out)
          have HWF := hide hwf
          rw [← hwf] at HBB BDF HBF
          have HKK := hide hkk
          have hss' := hss
          clear hq hk3 f1 HF hgp HR2 ec HRR ht hwf hkk hqq hB1 hTn hcat hql hss HS
          go_wp2_with fail
          simp only [← HWF.out]
          clear x0 x1 x2 x3 Q
          obtain ⟨x0, x1, x2, x3⟩ := QW.out.four
          have hx := HX.out
          have hcv := HCV.out
          go_region
          have hcat2 := HCAT.out
          rw [hss'] at hcat2
          rw [hcat2]
          have hf : Below wf.heap.size wf (wf.alloc (.cells #[.int .u8 (qq : Int)] 5)).drew := ((Below.refl _ _).alloc (Nat.le_refl _) _).drew
          have HBG := hide (HBF.out.trans (But.of_below hf))
          have BDG := hide (BDF.out.below hf BDF.out.lt)
          have HBH := hide (HBB.out.trans (hf.mono HBB.out.size))
          clear hf hcv hx hcat2 HCV HX
          go_wp2
          go_ret2
          exact ⟨rfl, HBG.out, ⟨by first | exact BDG.out | (obtain rfl := HL.out; exact BDG.out), by first | exact HFS2.out.below HBH.out | (obtain rfl := HL.out; exact HFS2.out.below HBH.out), by first | exact HO.out | (obtain rfl := HL.out; exact HO.out), HMN.out, HMY.out⟩⟩
      · rw [if_neg hq, HF.out] at f1
        have HF2 := hide f1.symm
        have hq' : (g.at_ != (r : Int)) = true := bne_iff_ne.2 hq
        clear hq f1 HF hgp
        go_wp2
        exact ⟨⟨k + 1, by omega, by go_num, HF2, HBB⟩, by simp [intOf]; omega⟩
    · obtain rfl : k = L := by omega
      have hlt' : ¬ (k : Int) < (k : Int) := by omega
      have ef : findF fs (r : Int) = Flt.zero := by rw [← HF.out, List.drop_eq_nil_of_le (by rw [← HL.out]; exact Nat.le_refl _)]; rfl
      have HR2 := HRR.out
      rw [ef, chg_zero] at HR2
      obtain ⟨rfl, rfl⟩ := Prod.mk.inj HR2
      have HBF := hide (HBU2.out.trans (But.of_below HB.out))
      clear hlt ef HR2 HRR HF
      go_wp2
      go_ret2
      exact ⟨rfl, HBF.out, ⟨by first | exact BDr.out | (obtain rfl := HL.out; exact BDr.out), by first | exact HFS2.out.below HB.out | (obtain rfl := HL.out; exact HFS2.out.below HB.out), by first | exact HO.out | (obtain rfl := HL.out; exact HO.out), HMN.out, HMY.out⟩⟩

theorem rRead_any (at_ n : Int) (img : ByteArray) (fs : List Flt) (r D : Nat) (v : Value) (w : World) (h : Dsk 46 w D v img fs r) (hi : img.size ≤ 65552) (hr : r ≤ 1000000000000000000) :
    Calls Try.prog 19 #[.pointer (some ⟨D, 0, none⟩), .int .i64 at_, .int .i64 n] w fun e w' => e = .returned (.tuple #[.string (readT img fs r at_ n).1, .int .i64 (readT img fs r at_ n).2.1]) ∧ But D w w' ∧ Dsk 46 w' D v img fs (readT img fs r at_ n).2.2 := by
  by_cases hh : hasT img.size at_ n = true
  · have hp := of_decide_eq_true hh
    obtain ⟨p, rfl⟩ := Int.eq_ofNat_of_zero_le hp.2.2.1
    obtain ⟨m, rfl⟩ := Int.eq_ofNat_of_zero_le (show 0 ≤ n by omega)
    have e : readT img fs r (p : Int) (m : Int) = ((chg (findF fs (r : Int)) (img.extract p (p + m))).1, (chg (findF fs (r : Int)) (img.extract p (p + m))).2, r + 1) := by
      unfold readT
      rw [if_pos hh, Int.toNat_natCast, Int.toNat_natCast]
    rw [e]
    exact rRead_ok img fs r p m D v w h hi hr (by omega) (by omega) (by omega) _ _ rfl
  · have hf : hasT img.size at_ n = false := by simpa using hh
    have e : readT img fs r at_ n = (⟨#[]⟩, 102, r) := by unfold readT; rw [if_neg hh]
    rw [e]
    refine (rRead_no at_ n img fs r D v w h hi hf).mono ?_
    rintro e w' ⟨rfl, rfl⟩
    exact ⟨rfl, But.refl _ _, h⟩

end Go.Proofs.Ytdbbdclhfcakdaa
