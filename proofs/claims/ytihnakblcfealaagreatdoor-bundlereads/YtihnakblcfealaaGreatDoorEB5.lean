/-
  Lists of bytes in blocks of their own, out of a conversion or an append: an append to one; what a conversion makes.
  Texts and lists of bytes: conversions, there and back.
  What cursor's Put8, Put16, Put32 and PutText do.
  Bundle's writer: a strings.Builder at the head of a struct, a map behind it; what put and String do.
  What the String of bundle's writer answers.
  The places of texts in a map; what bundle's writer lays of an entry.
  What bundle's writer lays of a table.
-/
import Derived.Test.YtihnakblcfealaaGreatDoorEB1
import Derived.Test.YtihnakblcfealaaGreatDoorEB2
import Derived.ArgAppend
import Derived.Lib.ConvBytes
import Derived.Laws.BytesArg
import Derived.Test.YtihnakblcfealaaGreatDoorEB4
import Derived.Lib.UnsafeStr
import Derived.Maps.OwnOps
import Derived.Deep.RegionHeld3
namespace Go.Proofs.YtihnakblcfealaaGreatDoor
open Go.RowKit

def Ob (base : Nat) (X : World) (v : Value) (ys : List Nat) : Prop :=
  ∃ g cap cur fz, v = .slice (some ⟨g, 0, none⟩) ys.length cap ∧ base ≤ g ∧ X.heap[g]? = some (.cells cur 5 fz) ∧ (fz = (0, 0) ∨ cap ≤ fz.1) ∧ ys.length ≤ cap ∧ cur.size = cap ∧ cur.toList.take ys.length = vals .u8 ys

theorem Ob.cells {base : Nat} {X : World} {g n cap : Nat} {ys : List Nat} (h : Ob base X (.slice (some ⟨g, 0, none⟩) n cap) ys) : n = ys.length ∧ base ≤ g ∧ g < X.heap.size ∧ n ≤ cap ∧ ∀ i, i < ys.length → X.cell? ⟨g, i, none⟩ = some (.int .u8 ((ys[i]?.getD 0 : Nat) : Int)) := by
  obtain ⟨g', cap', cur, fz, hv, hg1, hh, hf, hn, hsz, ht⟩ := h
  simp only [Value.slice.injEq, Option.some.injEq, Addr.mk.injEq] at hv
  obtain ⟨⟨rfl, _, _⟩, rfl, rfl⟩ := hv
  refine ⟨rfl, hg1, lt_of_block hh, hn, fun i hi => ?_⟩
  have hc : cur[i]? = (vals .u8 ys)[i]? := by rw [← ht, List.getElem?_take_of_lt hi, Array.getElem?_toList]
  simp only [World.cell?, hh, Option.isSome_none, Bool.false_eq_true, if_false, hc]
  simp [vals, hi]

theorem Ob.below {base : Nat} {X Y : World} {v : Value} {ys : List Nat} (h : Ob base X v ys) (hb : Below X.heap.size X Y) : Ob base Y v ys := by
  obtain ⟨g, cap, cur, fz, rfl, hg1, hh, hr⟩ := h
  exact ⟨g, cap, cur, fz, rfl, hg1, (hb.block g (lt_of_block hh)).trans hh, hr⟩

theorem Ob.lt {base : Nat} {X : World} {v : Value} {ys : List Nat} (h : Ob base X v ys) : ∀ g, v.ownBlock = some g → base ≤ g ∧ g < X.heap.size := by
  obtain ⟨g, cap, cur, fz, rfl, hg1, hh, hr⟩ := h
  intro k hk
  simp only [Value.ownBlock, Option.some.injEq] at hk
  subst hk
  exact ⟨hg1, lt_of_block hh⟩

theorem Ob.bytes {base : Nat} (X : World) (s : ByteArray) (h : base ≤ X.heap.size) : Ob base (Lib.bytesWorld X 5 s) (.slice (some ⟨X.heap.size, 0, none⟩) s.size (grownCap X s.size 0 5)) ((bys s).map UInt8.toNat) := by
  have hl : ((bys s).map UInt8.toNat).length = s.size := by rw [List.length_map, bys_len]
  have hle : s.size ≤ grownCap X s.size 0 5 := grownCap_ge _ _ _ _
  have hsz : (Lib.bytesCells X 5 s).size = grownCap X s.size 0 5 := by
    unfold Lib.bytesCells
    simp only [Array.size_append, Array.size_map, Array.size_replicate]
    have : s.data.size = s.size := rfl
    omega
  refine ⟨X.heap.size, grownCap X s.size 0 5, Lib.bytesCells X 5 s, _, by rw [hl], h, Lib.bytesWorld_at_new X 5 s, .inr (by rw [hsz]; exact Nat.le_refl _), by rw [hl]; exact hle, hsz, ?_⟩
  rw [hl]
  unfold Lib.bytesCells
  rw [Array.toList_append, List.take_left' (by simp), Array.toList_map]
  unfold vals bys
  rw [List.map_map]
  rfl

theorem append_ob {P : Program} {base : Nat} (X : World) {ops : Array Oper} {rest : List Oper} {o : Oper} {a : Act} {Q : Exit → Act → World → Prop}
    (hg : o.guard = none) (s x : Operand) (t : TypeId) (hop : o.op = Op.call { callee := Callee.builtin Builtin.append, args := #[s, x], argTypes := #[t, t] })
    (i : TypeInfo) (h1 : P.underlying t = some (.slice 5)) (h2 : P.info? 5 = some i) (h3 : i.zero = some (.int .u8 0)) (h4 : i.size = 1) (h5 : i.bytes = 1)
    (v : Value) (ys : List Nat) (hs : a.eval s = v) (hob : Ob base X v ys) (ad : Addr) (c d : Nat) (hx : a.eval x = .slice (some ad) 1 c) (hc : X.cell? ad = some (.int .u8 (d : Int))) (hn : ys.length ≤ 100000000000)
    (h : ∀ v' w', Ob base w' v' (ys ++ [d]) → X.grownBy w' v.ownBlock → (∀ g, v'.ownBlock = some g → v.ownBlock = some g ∨ X.heap.size ≤ g) → wpList P ops Q rest (a.put o.dst v') w') : wpList P ops Q (o :: rest) a X := by
  obtain ⟨g, cap, cur, fz, rfl, hg1, hh, hf, hl, hsz, ht⟩ := hob
  have hcell : ∀ j u, (vals .u8 ys)[j]? = some u → X.cell? ⟨g, 0 + j, none⟩ = some u := by
    intro j u hj
    have hjl : j < ys.length := by
      rcases Nat.lt_or_ge j ys.length with q | q
      · exact q
      · rw [List.getElem?_eq_none (by simpa [vals] using q)] at hj; cases hj
    have : cur[j]? = (vals .u8 ys)[j]? := by rw [← ht, List.getElem?_take_of_lt hjl, Array.getElem?_toList]
    simp only [World.cell?, hh, Option.isSome_none, Bool.false_eq_true, if_false, Nat.zero_add, this, hj]
  have vl : (vals .u8 (ys ++ [d])) = vals .u8 ys ++ [.int .u8 (d : Int)] := by simp [vals]
  have hlt := lt_of_block hh
  refine wpList_append_arg X hg s x t hop 5 i (.int .u8 0) 1 1 h1 h2 h3 h4 h5 rfl (by decide) g 0 ys.length cap (vals .u8 ys) hs (by simp [vals]) hcell ad 1 c [.int .u8 (d : Int)] hx rfl ?_ ?_ ?_ ?_ ?_ ?_ ?_
  · intro j u hj
    match j, hj with
    | 0, hj =>
      simp only [List.getElem?_cons_zero, Option.some.injEq] at hj
      subst hj
      have e : ad.add 0 = ad := by unfold Addr.add; simp
      rw [e]; exact hc
  · intro u hu
    simp only [List.mem_singleton] at hu
    subst hu
    rfl
  · intro hr j hj
    have : j = 0 := by simpa using hj
    subst this
    have hi : 0 + ys.length * 1 + 0 = ys.length := by omega
    rw [hi]
    constructor
    · simp only [World.cell?, hh, Option.isSome_none, Bool.false_eq_true, if_false]
      simp; omega
    · simp only [World.frozen?, hh]
      rcases hf with rfl | hf
      · simp
      · simp; omega
  · unfold maxLen; omega
  · omega
  · intro hr
    have hi : 0 + ys.length * 1 = ys.length := by omega
    rw [hi]
    refine h _ _ ⟨g, cap, cur.set! ys.length (.int .u8 (d : Int)), fz, ?_, hg1, ?_, hf, ?_, ?_, ?_⟩ ?_ ?_
    · rw [List.length_append]; rfl
    · simp only [World.setCells, World.setCell, Array.getElem?_modify, if_true, hh, Option.map_some]
      rfl
    · rw [List.length_append]; exact hr
    · simp [hsz]
    · rw [vl, List.length_append]
      simp only [List.length_singleton, Array.set!_eq_setIfInBounds, Array.toList_setIfInBounds]
      rw [List.take_add_one, List.take_set_of_le (Nat.le_refl _), ht]
      congr 1
      rw [List.getElem?_set_self (by simp; omega)]
      rfl
    · refine ⟨rfl, rfl, rfl, ?_, fun k hk hne => ?_⟩
      · simp [World.setCells, World.setCell]
      · simp only [World.setCells, World.setCell, Array.getElem?_modify]
        rw [if_neg (fun e => hne (by simp [Value.ownBlock, e]))]
    · intro k hk
      exact .inl hk
  · intro hr v' w' ho hgr
    obtain ⟨_, ho⟩ := ho
    rcases ho with ⟨_, h0⟩ | ⟨g', cap', cur', rfl, hg', hh', hn', _, hs', ht'⟩
    · omega
    · refine h _ _ ⟨g', cap', cur', (0, 0), by rw [List.length_append]; rfl, by omega, hh', .inl rfl, by rw [List.length_append]; exact hn', by omega, by rw [vl, List.length_append]; simpa using ht'⟩ ⟨hgr.os, hgr.tape, hgr.output, hgr.size, fun k hk _ => hgr.block k hk (by simp)⟩ ?_
      intro k hk
      simp only [Value.ownBlock, Option.some.injEq] at hk
      subst hk
      exact .inr hg'

end Go.Proofs.YtihnakblcfealaaGreatDoor

namespace Go.Proofs.YtihnakblcfealaaGreatDoor
open Go.RowKit

theorem strB_of (l : List UInt8) : strOfNums ((l.map UInt8.toNat).map fun (x : Nat) => (x : Int)) = ⟨l.toArray⟩ := by
  apply ByteArray.ext
  apply Array.toList_inj.1
  rw [strOfNums_data, List.map_map, List.map_map]
  show _ = l
  conv => rhs; rw [← List.map_id l]
  apply List.map_congr_left
  intro x _
  simp

theorem Tryz.infoBz : (Tryz.prog.info? 5).map (fun i => (i.zero, i.size, i.bytes)) = some (some (.int .u8 0), 1, 1) := by kernel_rfl

theorem convB_at {X : World} {g o cap : Nat} {l : List UInt8} (h : ∀ i, i < l.length → X.cell? ⟨g, o + i, none⟩ = some (.int .u8 ((byt l i : Nat) : Int))) : (convert 67 9 (.slice (some ⟨g, o, none⟩) l.length cap)).run Tryz.prog X = .ok (.string ⟨l.toArray⟩) X := by
  have kc := run_convert_bytes_arg (P := Tryz.prog) X 67 5 Tryz.underlying67 Tryz.underlying5 g o l.length cap ((l.map UInt8.toNat).map fun (x : Nat) => (x : Int)) (by rw [List.length_map, List.length_map]) (fun i hi => by
    rw [h i hi]
    unfold byt
    simp [List.getD, hi]) 9 Tryz.underlying9
  rw [strB_of] at kc
  exact kc

theorem convB_ob {base : Nat} {X : World} {v : Value} {l : List UInt8} (h : Ob base X v (l.map UInt8.toNat)) : (convert 67 9 v).run Tryz.prog X = .ok (.string ⟨l.toArray⟩) X := by
  obtain ⟨g, cap, cur, fz, rfl, hr⟩ := id h
  obtain ⟨_, _, _, _, hc⟩ := h.cells
  rw [List.length_map] at hc ⊢
  refine convB_at fun i hi => ?_
  rw [Nat.zero_add, hc i hi]
  unfold byt
  simp [hi]

theorem convB_by (s : ByteArray) : ∀ X : World, (convert 9 67 (.string s)).run Tryz.prog X = .ok (.slice (some ⟨X.heap.size, 0, none⟩) s.size (grownCap X s.size 0 5)) (Lib.bytesWorld X 5 s) := fun X =>
  Lib.run_convert_string_bytes (P := Tryz.prog) X 9 67 5 s Tryz.underlying9 Tryz.underlying67 Tryz.underlying5

end Go.Proofs.YtihnakblcfealaaGreatDoor

namespace Go.Proofs.YtihnakblcfealaaGreatDoor
open Go.RowKit

def bN (n : Int) (k : Nat) : UInt8 := UInt8.ofNat ((n / 2 ^ (8 * k)) % 256).toNat
theorem bN_nat (n : Int) (k : Nat) : (((bN n k).toNat : Nat) : Int) = (n / 2 ^ (8 * k)) % 256 := by
  unfold bN
  rw [UInt8.toNat_ofNat']
  have h1 := Int.emod_nonneg (n / 2 ^ (8 * k)) (show (256 : Int) ≠ 0 by decide)
  have h2 := Int.emod_lt_of_pos (n / 2 ^ (8 * k)) (show (0 : Int) < 256 by decide)
  omega

set_option maxHeartbeats 1000000 in
theorem Put8_any (n : Int) (w : World) : Calls Tryz.prog 30 #[.int .i64 n] w fun e w' => e = .returned (.string ⟨#[bN n 0]⟩) ∧ Below w.heap.size w w' := by
  have hb : n % 256 = (((bN n 0).toNat : Nat) : Int) := by rw [bN_nat]; simp
  have HCV : Hid ((convert 67 9 (.slice (some ⟨w.heap.size, 0, none⟩) 1 1)).run Tryz.prog (w.alloc (.cells #[.int .u8 (n % 256)] 5)) = .ok (.string ⟨#[bN n 0]⟩) (w.alloc (.cells #[.int .u8 (n % 256)] 5))) :=
    convB_at (l := [bN n 0]) (fun i hi => by
      obtain rfl : i = 0 := by simpa using hi
      have := (Blk.new w #[.int .u8 (n % 256)] 5).cell 0
      rw [Nat.add_zero, this, hb]
      rfl)
  have hcv := HCV.out
  clear HCV hb
  go_enter Tryz.func30, Tryz.ntmps30
  go_wp2
  go_ret
  exact ⟨rfl, (Below.refl _ _).alloc (Nat.le_refl _) _⟩

theorem bN_shift (n : Int) (j k : Nat) : bN (n / 2 ^ (8 * j)) k = bN n (j + k) := by
  unfold bN
  rw [Int.ediv_ediv_of_nonneg (by exact Int.le_of_lt (Int.pow_pos (by decide))), ← Int.pow_add, ← Nat.mul_add]

def put2 (n : Int) : ByteArray := ⟨#[bN n 1, bN n 0]⟩
def put4 (n : Int) : ByteArray := ⟨#[bN n 3, bN n 2, bN n 1, bN n 0]⟩

theorem cat2 (n : Int) : (⟨#[bN (n / 256) 0]⟩ : ByteArray) ++ ⟨#[bN n 0]⟩ = put2 n := by
  have := bN_shift n 1 0
  rw [show (2 : Int) ^ (8 * 1) = 256 by decide] at this
  rw [this]
  rfl
theorem cat4 (n : Int) : put2 (n / 65536) ++ put2 n = put4 n := by
  have h0 := bN_shift n 2 0
  have h1 := bN_shift n 2 1
  rw [show (2 : Int) ^ (8 * 2) = 65536 by decide] at h0 h1
  unfold put2 put4
  rw [h0, h1]
  rfl

set_option maxHeartbeats 1000000 in
theorem Put16_any (n : Int) (w : World) : Calls Tryz.prog 57 #[.int .i64 n] w fun e w' => e = .returned (.string (put2 n)) ∧ Below w.heap.size w w' := by
  have HP : Hid (∀ m X, Calls Tryz.prog 30 #[.int .i64 m] X fun e w' => e = .returned (.string ⟨#[bN m 0]⟩) ∧ Below X.heap.size X w') := fun m X => Put8_any m X
  have HC := hide (cat2 n)
  have hz : ¬ 9223372036854775807 < (⟨#[bN (n / 256) 0]⟩ : ByteArray).size + (⟨#[bN n 0]⟩ : ByteArray).size := by show ¬ _ < 1 + 1; omega
  go_enter Tryz.func57, Tryz.ntmps57
  go_wp2_with fail
  refine (HP.out _ _).mono ?_
  generalize (⟨#[bN (n / 256) 0]⟩ : ByteArray) = A at *
  rintro e w1 ⟨rfl, hb⟩
  have HB := hide hb
  clear hb
  go_wp2_with fail
  refine (HP.out _ _).mono ?_
  clear HP
  generalize (⟨#[bN n 0]⟩ : ByteArray) = B at *
  rintro e w2 ⟨rfl, hb⟩
  have HB2 := hide (HB.out.trans (hb.mono HB.out.size))
  clear hb HB
  have hc := HC.out
  go_wp2
  go_ret
  first | exact ⟨rfl, HB2.out⟩ | exact ⟨by rw [← hc]; rfl, HB2.out⟩

set_option maxHeartbeats 1000000 in
theorem Put32_any (n : Int) (w : World) : Calls Tryz.prog 83 #[.int .i64 n] w fun e w' => e = .returned (.string (put4 n)) ∧ Below w.heap.size w w' := by
  have HP : Hid (∀ m X, Calls Tryz.prog 57 #[.int .i64 m] X fun e w' => e = .returned (.string (put2 m)) ∧ Below X.heap.size X w') := fun m X => Put16_any m X
  have HC := hide (cat4 n)
  have hz : ¬ 9223372036854775807 < (put2 (n / 65536)).size + (put2 n).size := by show ¬ _ < 2 + 2; omega
  go_enter Tryz.func83, Tryz.ntmps83
  go_wp2_with fail
  refine (HP.out _ _).mono ?_
  generalize put2 (n / 65536) = A at *
  rintro e w1 ⟨rfl, hb⟩
  have HB := hide hb
  clear hb
  go_wp2_with fail
  refine (HP.out _ _).mono ?_
  clear HP
  generalize put2 n = B at *
  rintro e w2 ⟨rfl, hb⟩
  have HB2 := hide (HB.out.trans (hb.mono HB.out.size))
  clear hb HB
  have hc := HC.out
  go_wp2
  go_ret
  first | exact ⟨rfl, HB2.out⟩ | exact ⟨by rw [← hc]; rfl, HB2.out⟩

def ptxE (s : ByteArray) : Nat := if 1024 < s.size then 112 else if (runesL (bys s)).isSome = false then 111 else 0
def ptxV (s : ByteArray) : ByteArray := if ptxE s = 0 then put2 (s.size : Int) ++ s else ⟨#[]⟩

set_option maxHeartbeats 1000000 in
theorem PutText_any (s : ByteArray) (w : World) (hT : U8 w) : Calls Tryz.prog 58 #[.string s] w fun e w' => e = .returned (.tuple #[.string (ptxV s), .int .i64 (ptxE s : Int)]) ∧ Below w.heap.size w w' := by
  by_cases h1 : 1024 < s.size
  · have e1 : ptxE s = 112 := by unfold ptxE; rw [if_pos h1]
    have e2 : ptxV s = ⟨#[]⟩ := by unfold ptxV; rw [e1, if_neg (by decide)]
    rw [e1, e2]
    have h1' : 1024 < (s.size : Int) := by omega
    clear hT e1 e2
    go_enter Tryz.func58, Tryz.ntmps58
    go_wp2
    go_ret2
    exact ⟨rfl, Below.refl _ _⟩
  have h1' : ¬ 1024 < (s.size : Int) := by omega
  have HV := hide (Valid_any s w (by omega) hT)
  cases h2 : (runesL (bys s)).isSome with
  | false =>
    have e1 : ptxE s = 111 := by unfold ptxE; rw [if_neg h1, if_pos h2]
    have e2 : ptxV s = ⟨#[]⟩ := by unfold ptxV; rw [e1, if_neg (by decide)]
    rw [e1, e2]
    rw [h2] at HV
    clear hT e1 e2
    go_enter Tryz.func58, Tryz.ntmps58
    go_wp2_with fail
    refine HV.out.mono ?_
    rintro e w1 ⟨rfl, hb⟩
    go_wp2
    go_ret2
    exact ⟨rfl, hb⟩
  | true =>
    have e1 : ptxE s = 0 := by unfold ptxE; rw [if_neg h1, if_neg (by rw [h2]; decide)]
    have e2 : ptxV s = put2 (s.size : Int) ++ s := by unfold ptxV; rw [e1, if_pos rfl]
    rw [e1, e2]
    rw [h2] at HV
    have HP : Hid (∀ X, Calls Tryz.prog 57 #[.int .i64 (s.size : Int)] X fun e w' => e = .returned (.string (put2 (s.size : Int))) ∧ Below X.heap.size X w') := fun X => Put16_any _ X
    have hz : ¬ 9223372036854775807 < (put2 (s.size : Int)).size + s.size := by show ¬ _ < 2 + s.size; omega
    generalize put2 (s.size : Int) = A at *
    clear hT e1 e2
    go_enter Tryz.func58, Tryz.ntmps58
    go_wp2_with fail
    refine HV.out.mono ?_
    rintro e w1 ⟨rfl, hb⟩
    have HB := hide hb
    clear hb HV
    go_wp2_with fail
    refine (HP.out _).mono ?_
    rintro e w2 ⟨rfl, hb⟩
    have HB2 := hide (HB.out.trans (hb.mono HB.out.size))
    clear hb HB HP
    go_wp2
    go_ret2
    exact ⟨rfl, HB2.out⟩

end Go.Proofs.YtihnakblcfealaaGreatDoor

namespace Go.Proofs.YtihnakblcfealaaGreatDoor
open Go.RowKit

structure Kw (D : Nat) (w w' : World) : Prop where
  os : w'.os = w.os
  tape : w'.tape = w.tape
  output : w'.output = w.output
  size : w.heap.size ≤ w'.heap.size
  low : ∀ b, b < D → b < w.heap.size → w'.heap[b]? = w.heap[b]?
  block : ∀ b, b < w.heap.size → b ≠ D → (∀ cs fz, w.heap[b]? ≠ some (.cells cs 5 fz)) → w'.heap[b]? = w.heap[b]?

theorem Kw.refl (D : Nat) (w : World) : Kw D w w := ⟨rfl, rfl, rfl, Nat.le_refl _, fun _ _ _ => rfl, fun _ _ _ _ => rfl⟩
theorem Kw.trans {D : Nat} {a b c : World} (h : Kw D a b) (k : Kw D b c) : Kw D a c :=
  ⟨k.os.trans h.os, k.tape.trans h.tape, k.output.trans h.output, Nat.le_trans h.size k.size, fun i h1 h2 => (k.low i h1 (Nat.lt_of_lt_of_le h2 h.size)).trans (h.low i h1 h2), fun i h1 h2 h3 => by
    have e := h.block i h1 h2 h3
    exact (k.block i (Nat.lt_of_lt_of_le h1 h.size) h2 (by rw [e]; exact h3)).trans e⟩
theorem Kw.of_below {D : Nat} {a b : World} (h : Below a.heap.size a b) : Kw D a b := ⟨h.os, h.tape, h.output, h.size, fun i _ h2 => h.block i h2, fun i h1 _ _ => h.block i h1⟩
theorem Kw.blk {D : Nat} {a b : World} (h : Kw D a b) {g : Nat} {cs : Array Value} {t : TypeId} (hg : Blk a g cs t) (hn : g ≠ D) (ht : t ≠ 5) : Blk b g cs t := by
  have hlt := hg.lt
  unfold Blk at *
  rw [h.block g hlt hn (fun cs' fz q => by rw [hg] at q; simp at q; exact ht q.2.1)]
  exact hg
theorem Kw.frame {D : Nat} {a b c : World} (h : Below a.heap.size a b) (k : Kw D b c) (hD : a.heap.size ≤ D) : Below a.heap.size a c := ⟨k.os.trans h.os, k.tape.trans h.tape, k.output.trans h.output, Nat.le_trans h.size k.size, fun i hi => (k.low i (by omega) (Nat.lt_of_lt_of_le hi h.size)).trans (h.block i hi)⟩

def Wr (w : World) (D G : Nat) (l : List UInt8) : Prop :=
  ∃ p v, Blk w D #[p, v, .map (some G)] 71 ∧ (p = .pointer none ∨ p = .pointer (some ⟨D, 0, none⟩)) ∧ w.ownsRow D 5 1 v l.length (Lib.byteCells l)

theorem Wr.lt {w : World} {D G : Nat} {l : List UInt8} (h : Wr w D G l) : D < w.heap.size := by
  obtain ⟨p, v, h1, _⟩ := h
  exact h1.lt
theorem Wr.below {w w' : World} {D G : Nat} {l : List UInt8} (h : Wr w D G l) (hb : Below w.heap.size w w') : Wr w' D G l := by
  obtain ⟨p, v, h1, h2, h3⟩ := h
  exact ⟨p, v, h1.below hb h1.lt, h2, World.ownsRow.kept h3 (row := none) ⟨hb.os, hb.tape, hb.output, hb.size, fun k hk _ => hb.block k hk⟩ (by cases v.ownBlock <;> simp)⟩

theorem wr_lies : liesAt Tryz.prog Tryz.prog.depth 71 (3 / Tryz.prog.cellsOf 71) 0 69 1 = true := by kernel_rfl

theorem Blk.set0of3 {w : World} {b : Nat} {x0 x1 x2 : Value} {t : TypeId} (h : Blk w b #[x0, x1, x2] t) (v : Value) : Blk (w.setCell ⟨b, 0, none⟩ v) b #[v, x1, x2] t := by
  unfold Blk at *
  simp only [World.setCell, Array.getElem?_modify, if_true, h, Option.map_some]
  rfl

theorem kw_set {D i : Nat} (w : World) (v : Value) : Kw D w (w.setCell ⟨D, i, none⟩ v) := by
  refine ⟨rfl, rfl, rfl, by simp [World.setCell], fun k hk _ => ?_, fun k _ hk _ => ?_⟩
  · have : D ≠ k := by omega
    simp [World.setCell, Array.getElem?_modify, this]
  · have : D ≠ k := fun e => hk e.symm
    simp [World.setCell, Array.getElem?_modify, this]

theorem row_set {w : World} {B D i n : Nat} {v u : Value} {xs cs : List Value} {t : TypeId} {ca : Array Value} (h : w.ownsRow B 5 1 v n xs) (hD : Blk w D ca t) (ht : t ≠ 5) (_ : cs = xs) : (w.setCell ⟨D, i, none⟩ u).ownsRow B 5 1 v n xs :=
  h.kept (row := some D) ⟨rfl, rfl, rfl, by simp [World.setCell], fun k _ hk => by
    have : D ≠ k := fun e => hk (by rw [e])
    simp [World.setCell, Array.getElem?_modify, this]⟩ (Or.inr (Lib.ownBlock_ne h hD ht))

set_option maxRecDepth 100000 in
set_option maxHeartbeats 1000000 in
theorem wcheck_any {w : World} {D G : Nat} {l : List UInt8} (h : Wr w D G l) :
    Calls Tryz.prog 82 #[.pointer (some ⟨D, 0, none⟩)] w fun e w' => e = .returned (.tuple #[]) ∧ (∃ v, Blk w' D #[.pointer (some ⟨D, 0, none⟩), v, .map (some G)] 71 ∧ w'.ownsRow D 5 1 v l.length (Lib.byteCells l)) ∧ Kw D w w' := by
  obtain ⟨p, v, h1, h2, h3⟩ := h
  rcases h2 with rfl | rfl
  · have h0 : w.cell? ⟨D, 0, none⟩ = some (.pointer none) := h1.cell 0
    have hfz : w.frozen? ⟨D, 0, none⟩ = false := h1.free 0
    have hsh : w.shape? D = some (71, 3) := by unfold Blk at h1; simp [World.shape?, h1]
    obtain ⟨j, hj, hjs⟩ := Option.map_eq_some_iff.1 bld_size
    have k1 := Lib.run_to_unsafe (P := Tryz.prog) w ⟨D, 0, none⟩ Tryz.underlying66 Tryz.underlying135 hj (by rw [hjs]; decide) hsh (Nat.zero_lt_succ 2)
    have k2 := Lib.run_from_unsafe (P := Tryz.prog) w ⟨D, 0, none⟩ Tryz.underlying135 Tryz.underlying66 hj hsh wr_lies
    have H1 := hide h1
    have H3 := hide h3
    clear h1 h3
    go_enter Tryz.func82, Tryz.ntmps82
    go_wp2
    rw [run_callFunc_extern Tryz.func106 (by kernel_rfl) (by kernel_rfl) (by kernel_rfl) (e := Extern.AbiNoEscape.same) (by kernel_rfl), Lib.run_noEscape]
    simp only [Result.andThen]
    rw [Oper.upon_value]
    go_wp2
    go_end0
    exact ⟨rfl, ⟨v, H1.out.set0of3 _, row_set H3.out H1.out (by decide) rfl⟩, kw_set _ _⟩
  · have h0 : w.cell? ⟨D, 0, none⟩ = some (.pointer (some ⟨D, 0, none⟩)) := h1.cell 0
    obtain ⟨j, hj, _⟩ := Option.map_eq_some_iff.1 bld_size
    have key := Lib.run_neq_ptr_same (P := Tryz.prog) w ⟨D, 0, none⟩ Tryz.underlying66 hj
    have H1 := hide h1
    have H3 := hide h3
    clear h1 h3
    go_enter Tryz.func82, Tryz.ntmps82
    go_wp2
    go_end0
    exact ⟨rfl, ⟨v, H1.out, H3.out⟩, Kw.refl _ _⟩

theorem kw_grown {D n : Nat} {w w' : World} {v : Value} {xs : List Value} (h : w.grownBy w' v.ownBlock) (ho : w.ownsRow D 5 1 v n xs) : Kw D w w' := by
  have hv : ∀ k, v.ownBlock = some k → D ≤ k ∧ ∃ cs fz, w.heap[k]? = some (.cells cs 5 fz) := by
    intro k hk
    rcases ho.2 with ⟨rfl, _⟩ | ⟨g, cap, cur, rfl, hg, hh, _⟩
    · simp [Value.ownBlock] at hk
    · simp only [Value.ownBlock, Option.some.injEq] at hk
      subst hk
      exact ⟨hg, cur, (0, 0), hh⟩
  refine ⟨h.os, h.tape, h.output, h.size, fun i h1 h2 => h.block i h2 (fun e => ?_), fun i h1 _ h3 => h.block i h1 (fun e => ?_)⟩
  · have := (hv i e.symm).1; omega
  · obtain ⟨cs, fz, q⟩ := (hv i e.symm).2
    exact h3 cs fz q

set_option maxRecDepth 100000 in
set_option maxHeartbeats 2000000 in
theorem wput_any {w : World} {D G : Nat} {l : List UInt8} (s : ByteArray) (h : Wr w D G l) (hlen : l.length + s.size ≤ 140737488355328) :
    Calls Tryz.prog 60 #[.pointer (some ⟨D, 0, none⟩), .string s] w fun e w' => e = .returned (.tuple #[.int .i64 s.size, .nilIface]) ∧ Wr w' D G (l ++ bys s) ∧ Kw D w w' := by
  obtain ⟨i0, hi, hz0, hz1, hz2⟩ := info_parts byte_info
  have hDw := h.lt
  have HC := hide (wcheck_any h)
  clear h
  go_enter Tryz.func60, Tryz.ntmps60
  go_wp2_with fail
  refine HC.out.mono ?_
  rintro e w1 ⟨rfl, ⟨v, hbk, hown⟩, hk1⟩
  have c0 : w1.cell? ⟨D, 0, none⟩ = some (.pointer (some ⟨D, 0, none⟩)) := hbk.cell 0
  have c1 : w1.cell? ⟨D, 1, none⟩ = some v := hbk.cell 1
  have hlt := hbk.lt
  have hne : v.ownBlock ≠ some D := Lib.ownBlock_ne hown hbk (by decide)
  have HBK := hide hbk
  have HK := hide hk1
  clear hbk hk1 HC
  go_wp2_with (at_builtin; refine Lib.wpList_append_own_string _ rfl _ _ 67 9 rfl D 5 i0 Tryz.underlying67 Tryz.underlying9 hi hz0 hz1 hz2 _ _ _ rfl hown s rfl ?c3 ?c4 ?c5 ?_)
  case c3 => unfold maxLen; omega
  case c4 => omega
  case c5 => omega
  intro v' w2 hown' hgrow _
  have hb2 : Blk w2 D #[.pointer (some ⟨D, 0, none⟩), v, .map (some G)] 71 := by
    unfold Blk
    rw [hgrow.block D hlt (fun e => hne e.symm)]; exact HBK.out
  have d0 : w2.cell? ⟨D, 0, none⟩ = some (.pointer (some ⟨D, 0, none⟩)) := hb2.cell 0
  have d1 : w2.cell? ⟨D, 1, none⟩ = some v := hb2.cell 1
  have f1 : w2.frozen? ⟨D, 1, none⟩ = false := hb2.free 1
  have HB2 := hide hb2
  have HK2 := hide (HK.out.trans (kw_grown hgrow hown))
  obtain ⟨ao, n', cap, rfl⟩ : ∃ ao n' cap, v' = .slice ao n' cap := by
    rcases hown'.2 with ⟨hv, _⟩ | ⟨g, cap, cur, hv, _⟩
    · exact ⟨_, _, _, hv⟩
    · exact ⟨_, _, _, hv⟩
  have HO : Hid (w2.ownsRow D 5 1 (.slice ao n' cap) (l ++ bys s).length (Lib.byteCells (l ++ bys s))) := hide (by
    rw [Lib.byteCells_append, List.length_append, bys_len]
    exact hown')
  clear hb2 hown' hgrow hown
  go_wp2
  go_ret2
  exact ⟨rfl, ⟨_, _, HB2.out.set1of3 _, .inr rfl, row_set HO.out HB2.out (by decide) rfl⟩, HK2.out.trans (kw_set _ _)⟩

set_option maxHeartbeats 1000000 in
theorem put_any {w : World} {D G : Nat} {l : List UInt8} (s : ByteArray) (h : Wr w D G l) (hlen : l.length + s.size ≤ 140737488355328) :
    Calls Tryz.prog 29 #[.pointer (some ⟨D, 0, none⟩), .string s] w fun e w' => e = .returned (.tuple #[]) ∧ Wr w' D G (l ++ bys s) ∧ Kw D w w' := by
  have HC := hide (wput_any s h hlen)
  obtain ⟨p, v, h1, _, _⟩ := h
  have c0 := h1.cell 0
  clear h1
  go_enter Tryz.func29, Tryz.ntmps29
  go_wp2_with fail
  refine HC.out.mono ?_
  rintro e w1 ⟨rfl, h1, h2⟩
  have H1 := hide h1
  have H2 := hide h2
  clear h1 h2 HC
  go_wp2
  go_end0
  exact ⟨rfl, H1.out, H2.out⟩

end Go.Proofs.YtihnakblcfealaaGreatDoor

namespace Go.Proofs.YtihnakblcfealaaGreatDoor
open Go.RowKit

set_option maxRecDepth 100000 in
set_option maxHeartbeats 2000000 in
theorem wString_any {w : World} {D G B : Nat} {l : List UInt8} (h : Wr w D G l) (h0 : l ≠ []) (hB : B ≤ D) :
    Calls Tryz.prog 32 #[.pointer (some ⟨D, 0, none⟩)] w fun e w' => e = .returned (.string ⟨l.toArray⟩) ∧ Below B w w' := by
  obtain ⟨p, v, h1, _, hown⟩ := h
  have hl0 : l.length ≠ 0 := by simpa using h0
  obtain ⟨g, cap, cur, rfl, hbg, hg, hnc, hcm, hcs, htake⟩ : ∃ g cap cur, v = .slice (some ⟨g, 0, none⟩) l.length cap ∧ D ≤ g ∧ w.heap[g]? = some (.cells cur 5 (0, 0)) ∧ l.length ≤ cap ∧ cap ≤ maxLen ∧ cur.size = cap * 1 ∧ cur.toList.take (l.length * 1) = Lib.byteCells l := by
    rcases hown.2 with ⟨_, hz⟩ | ⟨g, cap, cur, hv, r⟩
    · exact absurd hz hl0
    · exact ⟨g, cap, cur, hv, r⟩
  have c1 : w.drew.cell? ⟨D, 1, none⟩ = some (.slice (some ⟨g, 0, none⟩) l.length cap) := h1.cell 1
  have hSD : (Builtin.unsafeSliceData_ #[67] 105 #[.slice (some ⟨g, 0, none⟩) l.length cap]).run Tryz.prog w.drew = .ok (.pointer (some ⟨g, 0, none⟩)) w.drew :=
    Lib.run_unsafeSliceData_row _ _ _ _ _ _ (by omega)
  have hUS : (Builtin.unsafeString_ #[105, 3] 9 #[.pointer (some ⟨g, 0, none⟩), .int .i64 l.length]).run Tryz.prog w.drew = .ok (.string ⟨l.toArray⟩) (w.drew.freeze ⟨g, 0, none⟩ l.length) := by
    refine Lib.run_unsafeString_row w.drew 105 3 9 5 Tryz.underlying105 (by kernel_rfl) g cur.size (by have hg' : w.drew.heap[g]? = some (.cells cur 5 (0, 0)) := hg; simp [World.shape?, hg']) l h0 (by omega) (by unfold maxLen at hcm; omega) ?_
    intro j x hx
    have := hown.cells (g := g) rfl j (.int .u8 x.toNat) (by simp [Lib.byteCells, hx])
    exact this
  have mixed : Tryz.prog.follows Departure.mixedOrders = true := by kernel_rfl
  clear hown h1 htake
  go_enter Tryz.func32, Tryz.ntmps32
  go_wp2
  go_region_o
  all_goals (go_wp2; go_ret; exact ⟨rfl, Lib.below_freeze (Below.drew (Below.refl B w)) (p := ⟨g, 0, none⟩) (Nat.le_trans hB hbg) _⟩)

end Go.Proofs.YtihnakblcfealaaGreatDoor

namespace Go.Proofs.YtihnakblcfealaaGreatDoor
open Go.RowKit Go.Maps

def numL (k : Nat) : Lit := .int .i64 (k : Int)
def foldP (k : Nat) (m : DataW Unit) : List (List UInt8) → DataW Unit
  | [] => m
  | s :: r => foldP (k + 1) (m.put (.string s) (.lit (numL k))) r

def plD (ps : List (List UInt8)) : DataW Unit := foldP 0 (.map []) ps

theorem foldP_snoc (s : List UInt8) : ∀ (ps : List (List UInt8)) (k : Nat) (m : DataW Unit), foldP k m (ps ++ [s]) = (foldP k m ps).put (.string s) (.lit (numL (k + ps.length)))
  | [], k, m => rfl
  | x :: r, k, m => by
    simp only [List.cons_append, foldP, List.length_cons]
    rw [foldP_snoc s r (k + 1)]
    congr 3
    omega

theorem isMap_put {D : DataW Unit} (h : IsMap D) (k : Lit) (d : DataW Unit) : IsMap (D.put k d) := by
  obtain ⟨es, rfl⟩ := h
  exact ⟨_, rfl⟩

def placeS (ps : List (List UInt8)) (s : List UInt8) : Nat := if s ∈ ps then ps.idxOf s else 0

theorem foldP_at (s : List UInt8) (z : DataW Unit) : ∀ (ps : List (List UInt8)) (k : Nat) (m : DataW Unit), IsMap m → ps.Nodup → (foldP k m ps).atKey (.string s) z = if s ∈ ps then .lit (numL (k + ps.idxOf s)) else m.atKey (.string s) z
  | [], k, m, _, _ => by simp [foldP]
  | x :: r, k, m, hm, hn => by
    simp only [foldP]
    rw [List.nodup_cons] at hn
    rw [foldP_at s z r (k + 1) _ (isMap_put hm _ _) hn.2]
    by_cases e : s = x
    · subst e
      rw [if_neg hn.1, if_pos (List.mem_cons_self ..), atKey_put_same hm (show WideAt.IsKeyLit (.string s) from trivial)]
      simp
    · have e2 : (Lit.string s) ≠ .string x := fun q => e (by injection q)
      rw [atKey_put_other e2]
      by_cases h : s ∈ r
      · rw [if_pos h, if_pos (List.mem_cons_of_mem _ h), List.idxOf_cons, show (x == s) = false from beq_eq_false_iff_ne.2 (fun q => e q.symm)]
        show DataW.lit (numL (k + 1 + r.idxOf s)) = .lit (numL (k + (r.idxOf s + 1)))
        congr 2
        omega
      · rw [if_neg h, if_neg (by simp [e, h])]

theorem plD_at (ps : List (List UInt8)) (s : List UInt8) (hn : ps.Nodup) : (plD ps).atKey (.string s) (.lit (numL 0)) = .lit (numL (placeS ps s)) := by
  unfold plD
  rw [foldP_at s _ ps 0 (.map []) ⟨_, rfl⟩ hn]
  unfold placeS
  by_cases h : s ∈ ps
  · rw [if_pos h, if_pos h, Nat.zero_add]
  · rw [if_neg h, if_neg h]; rfl

def PlAt (w : World) (G n : Nat) (ps : List (List UInt8)) : Prop := w.ownsMap (H := Unit) Tryz.prog 9 (plainElem Tryz.prog 3) G n (plD ps)

theorem PlAt.lt {w : World} {G n : Nat} {ps : List (List UInt8)} (h : PlAt w G n ps) : G < w.heap.size := World.ownsMap.lt h
theorem PlAt.kw {w w' : World} {G n D : Nat} {ps : List (List UInt8)} (h : PlAt w G n ps) (hk : Kw D w w') (hn : G < D) : PlAt w' G n ps := by
  have hlt := h.lt
  obtain ⟨es, clock, hb, hr⟩ := h
  exact ⟨es, clock, (hk.low G hn hlt).trans hb, hr⟩
theorem PlAt.below {w w' : World} {G n : Nat} {ps : List (List UInt8)} (h : PlAt w G n ps) (hb : Below w.heap.size w w') : PlAt w' G n ps := h.kw (D := G + 1) (.of_below hb) (Nat.lt_succ_self _)

theorem zeroI (w : World) : (zeroValue 3).run Tryz.prog w = .ok (.int .i64 0) w := by kernel_rfl

theorem PlAt.look {w : World} {G n : Nat} {ps : List (List UInt8)} (h : PlAt w G n ps) (hn : ps.Nodup) (s : ByteArray) (hs : s.size ≤ 140737488355328) : (Instr.lookup 65 (.map (some G)) (.string s) false).run Tryz.prog w = .ok (.int .i64 (placeS ps (bys s) : Int)) w := by
  have hkey : keyOf Tryz.prog 9 (.string s) = some (.string s.data.toList) := WideMaps.keyOf_string_mk Tryz.underlying9 (by unfold maxLen; omega)
  obtain ⟨c, h1, h2, _⟩ := World.ownsMap.lookup_int h keyS Tryz.underlying65 Tryz.underlying3 (zeroI w) hkey
  have h3 := plD_at ps (bys s) hn
  have h4 : (DataW.lit (H := Unit) (numL (placeS ps (bys s)))) = .lit (.int .i64 c) := h3.symm.trans h2
  have h5 : ((placeS ps (bys s) : Nat) : Int) = c := by
    simp only [DataW.lit.injEq, numL, Lit.int.injEq] at h4
    exact h4.2
  rw [h1, h5]

def p1 (n : Int) : List UInt8 := [bN n 0]
def p2 (n : Int) : List UInt8 := [bN n 1, bN n 0]
def p4 (n : Int) : List UInt8 := [bN n 3, bN n 2, bN n 1, bN n 0]

def entB (ps : List (List UInt8)) (e : Ent) : List UInt8 := p2 (placeS ps (bys e.key)) ++ p1 e.kind ++ (if e.kind = 1 then p4 e.num else p4 (placeS ps (bys e.text)))

set_option maxRecDepth 100000 in
set_option maxHeartbeats 4000000 in
theorem entry_any {w : World} {D G n : Nat} {l : List UInt8} {ps : List (List UInt8)} (e : Ent) (h : Wr w D G l) (hp : PlAt w G n ps) (hn : ps.Nodup) (hGD : G < D) (hl : l.length ≤ 1000000000000) (hk : e.key.size ≤ 140737488355328) (ht : e.text.size ≤ 140737488355328) :
    Calls Tryz.prog 62 #[.pointer (some ⟨D, 0, none⟩), entV e] w fun x w' => x = .returned (.tuple #[]) ∧ Wr w' D G (l ++ entB ps e) ∧ Kw D w w' := by
  obtain ⟨k, d, t, m⟩ := e
  unfold entV
  obtain ⟨WA, hWA⟩ : ∃ WA, WA = w.alloc (.cells #[.string k, .int .i64 d, .string t, .int .i64 m] 33) := ⟨_, rfl⟩
  have BA : Hid (Below w.heap.size w WA) := hide (by rw [hWA]; exact (Below.refl _ _).alloc (Nat.le_refl _) _)
  have Q : Hid (Blk WA w.heap.size #[.string k, .int .i64 d, .string t, .int .i64 m] 33) := hide (by rw [hWA]; exact Blk.newAt w w.heap.size rfl _ _)
  have WR := hide (h.below BA.out)
  have PA := hide (hp.below BA.out)
  have hne : w.heap.size ≠ D := Nat.ne_of_gt h.lt
  have HWA := hide hWA.symm
  have KW : Hid (Kw D w WA) := hide (.of_below BA.out)
  clear h hp hWA
  have c2 : Hid (∃ p v, Blk WA D #[p, v, .map (some G)] 71) := hide (by obtain ⟨p, v, h1, _⟩ := WR.out; exact ⟨p, v, h1⟩)
  obtain ⟨p, v, hD0⟩ := c2.out
  have cD0 : WA.cell? ⟨D, 0, none⟩ = some p := hD0.cell 0
  have cD2 : WA.cell? ⟨D, 2, none⟩ = some (.map (some G)) := hD0.cell 2
  have ce0 : WA.cell? ⟨w.heap.size, 0, none⟩ = some (.string k) := Q.out.cell 0
  have KP : Hid (∀ w', Kw D WA w' → (∃ l', Wr w' D G l') → w'.cell? ⟨D, 2, none⟩ = some (.map (some G)) ∧ w'.cell? ⟨w.heap.size, 0, none⟩ = some (.string k) ∧ (Instr.lookup 65 (.map (some G)) (.string k) false).run Tryz.prog w' = .ok (.int .i64 (placeS ps (bys k) : Int)) w') := hide (fun w' hk' hw' => by
    obtain ⟨l', p', v', h1, _⟩ := hw'
    exact ⟨h1.cell 2, (hk'.blk Q.out hne (by decide)).cell 0, PlAt.look (PA.out.kw hk' hGD) hn k hk⟩)
  have C1 : Hid (∀ X, Hid (Below WA.heap.size WA X) → Calls Tryz.prog 57 #[.int .i64 (placeS ps (bys k) : Int)] X fun x w' => x = .returned (.string (put2 (placeS ps (bys k) : Int))) ∧ Hid (Below WA.heap.size WA w') ∧ w'.cell? ⟨D, 2, none⟩ = some (.map (some G)) ∧ w'.cell? ⟨w.heap.size, 0, none⟩ = some (.string k) ∧ (Instr.lookup 65 (.map (some G)) (.string k) false).run Tryz.prog w' = .ok (.int .i64 (placeS ps (bys k) : Int)) w') := hide (fun X hX => (Put16_any _ X).mono (fun x w' q => ⟨q.1, hide (hX.out.trans (q.2.mono hX.out.size)), KP.out w' (.of_below (hX.out.trans (q.2.mono hX.out.size))) ⟨l, WR.out.below (hX.out.trans (q.2.mono hX.out.size))⟩⟩))
  have C2 : Hid (∀ X, Hid (Below WA.heap.size WA X) → Calls Tryz.prog 29 #[.pointer (some ⟨D, 0, none⟩), .string (put2 (placeS ps (bys k) : Int))] X fun x w' => x = .returned (.tuple #[]) ∧ Hid (Wr w' D G (l ++ p2 (placeS ps (bys k))) ∧ Kw D WA w') ∧ w'.cell? ⟨D, 2, none⟩ = some (.map (some G)) ∧ w'.cell? ⟨w.heap.size, 0, none⟩ = some (.string k) ∧ (Instr.lookup 65 (.map (some G)) (.string k) false).run Tryz.prog w' = .ok (.int .i64 (placeS ps (bys k) : Int)) w') := hide (fun X hX => (put_any (put2 (placeS ps (bys k) : Int)) (WR.out.below hX.out) (by show l.length + 2 ≤ _; omega)).mono (fun x w' q => ⟨q.1, hide ⟨q.2.1, (Kw.of_below hX.out).trans q.2.2⟩, KP.out w' ((Kw.of_below hX.out).trans q.2.2) ⟨_, q.2.1⟩⟩))
  have b0 : Hid (Below WA.heap.size WA WA.drew) := (Below.refl _ _).drew
  obtain ⟨s1, s2, s3⟩ := KP.out WA.drew (.of_below b0.out) ⟨l, WR.out.below b0.out⟩
  have hl2 : Hid (∀ x, (l ++ p2 x).length = l.length + 2) := hide (fun x => by rw [List.length_append]; rfl)
  have ER : Hid (entB ps ⟨k, d, t, m⟩ = p2 (placeS ps (bys k)) ++ p1 d ++ (if d = 1 then p4 m else p4 (placeS ps (bys t)))) := hide rfl
  generalize hPK : (placeS ps (bys k) : Int) = PK at *
  clear hPK
  have hD1 := hide hD0
  clear hD0 KP
  go_enter Tryz.func62, Tryz.ntmps62
  go_wp2_with (simp only [HWA.out])
  have mk0 : True := trivial
  go_region_held3 (fun w' => w'.cell? ⟨D, 2, none⟩ = some (.map (some G)) ∧ w'.cell? ⟨w.heap.size, 0, none⟩ = some (.string k) ∧ (Instr.lookup 65 (.map (some G)) (.string k) false).run Tryz.prog w' = .ok (.int .i64 PK) w') (go_keep) (first
    | (clear mk0; go_at_call 57; refine (C1.out _ b0).mono ?_; rintro x v1 ⟨rfl, P1, y1, y2, y3⟩; have mk1 : True := trivial)
    | (clear mk1; go_at_call 29; refine (C2.out _ P1).mono ?_; rintro x v2 ⟨rfl, P2, y4, y5, y6⟩; have mk2 : True := trivial))
  obtain ⟨R1, K1⟩ := P2.out
  have WR1 := hide R1
  have KW1 := hide K1
  clear R1 K1 P2 P1 C1 C2 mk2 y1 y2 y3 y4 y5 y6 s1 s2 s3 b0
  have z1 : v2.cell? ⟨w.heap.size, 1, none⟩ = some (.int .i64 d) := (KW1.out.blk Q.out hne (by decide)).cell 1
  have C3 := hide (Put8_any d v2)
  go_wp2_with fail
  refine C3.out.mono ?_
  rintro x w3 ⟨rfl, hb3⟩
  have WR3 := hide (WR1.out.below hb3)
  have KW3 := hide (KW1.out.trans (.of_below hb3))
  have C4 := hide (put_any (⟨#[bN d 0]⟩ : ByteArray) WR3.out (by rw [hl2.out]; show l.length + 2 + 1 ≤ _; omega))
  clear hb3 C3 z1 WR1 KW1
  go_wp2_with fail
  refine C4.out.mono ?_
  rintro x w4 ⟨rfl, hr4, hk4⟩
  have WR4 : Hid (Wr w4 D G (l ++ p2 PK ++ p1 d)) := hide hr4
  have KW4 := hide (KW3.out.trans hk4)
  have Q4 := hide (KW4.out.blk Q.out hne (by decide))
  have z1 : w4.cell? ⟨w.heap.size, 1, none⟩ = some (.int .i64 d) := Q4.out.cell 1
  have hl3 : Hid ((l ++ p2 PK ++ p1 d).length = l.length + 3) := hide (by rw [List.length_append, hl2.out]; rfl)
  clear hr4 hk4 C4 WR3 KW3
  by_cases h1 : d = 1
  · subst h1
    have ER2 : Hid (l ++ entB ps ⟨k, 1, t, m⟩ = l ++ p2 PK ++ p1 1 ++ p4 m) := hide (by rw [ER.out, if_pos rfl]; simp only [List.append_assoc])
    have z3 : w4.cell? ⟨w.heap.size, 3, none⟩ = some (.int .i64 m) := Q4.out.cell 3
    have C5 := hide (Put32_any m w4)
    clear ER
    go_wp2_with fail
    refine C5.out.mono ?_
    rintro x w5 ⟨rfl, hb5⟩
    have WR5 := hide (WR4.out.below hb5)
    have KW5 := hide (KW4.out.trans (.of_below hb5))
    have C6 := hide (put_any (put4 m) WR5.out (by rw [hl3.out]; show l.length + 3 + 4 ≤ _; omega))
    clear hb5 C5 z1 z3
    go_wp2_with fail
    refine C6.out.mono ?_
    rintro x w6 ⟨rfl, hr6, hk6⟩
    have WR6 := hide hr6
    have KW6 := hide (KW5.out.trans hk6)
    clear hr6 hk6 C6
    go_wp2
    refine bodyPost_ret (results_none rfl _ _ _) rfl ?_
    exact ⟨rfl, by rw [ER2.out]; exact WR6.out, KW.out.trans KW6.out⟩
  · have ER2 : Hid (l ++ entB ps ⟨k, d, t, m⟩ = l ++ p2 PK ++ p1 d ++ p4 (placeS ps (bys t))) := hide (by rw [ER.out, if_neg h1]; simp only [List.append_assoc])
    have h1' : (d == 1) = false := beq_eq_false_iff_ne.2 h1
    have KP : Hid (∀ w', Kw D w4 w' → (∃ l', Wr w' D G l') → w'.cell? ⟨D, 2, none⟩ = some (.map (some G)) ∧ w'.cell? ⟨w.heap.size, 2, none⟩ = some (.string t) ∧ (Instr.lookup 65 (.map (some G)) (.string t) false).run Tryz.prog w' = .ok (.int .i64 (placeS ps (bys t) : Int)) w') := hide (fun w' hk' hw' => by
      obtain ⟨l', p', v', h1, _⟩ := hw'
      exact ⟨h1.cell 2, (hk'.blk Q4.out hne (by decide)).cell 2, PlAt.look ((PA.out.kw KW4.out hGD).kw hk' hGD) hn t ht⟩)
    have C5 : Hid (∀ X, Hid (Below w4.heap.size w4 X) → Calls Tryz.prog 83 #[.int .i64 (placeS ps (bys t) : Int)] X fun x w' => x = .returned (.string (put4 (placeS ps (bys t) : Int))) ∧ Hid (Below w4.heap.size w4 w') ∧ w'.cell? ⟨D, 2, none⟩ = some (.map (some G)) ∧ w'.cell? ⟨w.heap.size, 2, none⟩ = some (.string t) ∧ (Instr.lookup 65 (.map (some G)) (.string t) false).run Tryz.prog w' = .ok (.int .i64 (placeS ps (bys t) : Int)) w') := hide (fun X hX => (Put32_any _ X).mono (fun x w' q => ⟨q.1, hide (hX.out.trans (q.2.mono hX.out.size)), KP.out w' (.of_below (hX.out.trans (q.2.mono hX.out.size))) ⟨_, WR4.out.below (hX.out.trans (q.2.mono hX.out.size))⟩⟩))
    have C6 : Hid (∀ X, Hid (Below w4.heap.size w4 X) → Calls Tryz.prog 29 #[.pointer (some ⟨D, 0, none⟩), .string (put4 (placeS ps (bys t) : Int))] X fun x w' => x = .returned (.tuple #[]) ∧ Hid (Wr w' D G (l ++ p2 PK ++ p1 d ++ p4 (placeS ps (bys t))) ∧ Kw D w4 w') ∧ w'.cell? ⟨D, 2, none⟩ = some (.map (some G)) ∧ w'.cell? ⟨w.heap.size, 2, none⟩ = some (.string t) ∧ (Instr.lookup 65 (.map (some G)) (.string t) false).run Tryz.prog w' = .ok (.int .i64 (placeS ps (bys t) : Int)) w') := hide (fun X hX => (put_any (put4 (placeS ps (bys t) : Int)) (WR4.out.below hX.out) (by rw [hl3.out]; show l.length + 3 + 4 ≤ _; omega)).mono (fun x w' q => ⟨q.1, hide ⟨q.2.1, (Kw.of_below hX.out).trans q.2.2⟩, KP.out w' ((Kw.of_below hX.out).trans q.2.2) ⟨_, q.2.1⟩⟩))
    have b0 : Hid (Below w4.heap.size w4 w4.drew) := (Below.refl _ _).drew
    obtain ⟨s1, s2, s3⟩ := KP.out w4.drew (.of_below b0.out) ⟨_, WR4.out.below b0.out⟩
    generalize hPT : (placeS ps (bys t) : Int) = PT at *
    clear hPT KP ER
    go_wp2_with fail
    have mk0 : True := trivial
    go_region_held3 (fun w' => w'.cell? ⟨D, 2, none⟩ = some (.map (some G)) ∧ w'.cell? ⟨w.heap.size, 2, none⟩ = some (.string t) ∧ (Instr.lookup 65 (.map (some G)) (.string t) false).run Tryz.prog w' = .ok (.int .i64 PT) w') (go_keep) (first
      | (clear mk0; go_at_call 83; refine (C5.out _ b0).mono ?_; rintro x v5 ⟨rfl, P1, y1, y2, y3⟩; have mk1 : True := trivial)
      | (clear mk1; go_at_call 29; refine (C6.out _ P1).mono ?_; rintro x v6 ⟨rfl, P2, y4, y5, y6⟩; have mk2 : True := trivial))
    go_wp2
    go_end0
    exact ⟨rfl, by rw [ER2.out]; exact P2.out.1, KW.out.trans (KW4.out.trans P2.out.2)⟩

end Go.Proofs.YtihnakblcfealaaGreatDoor

namespace Go.Proofs.YtihnakblcfealaaGreatDoor
open Go.RowKit Go.Maps

def parB (p : Int) : Int := if p = -1 then 255 else p

set_option maxHeartbeats 1000000 in
theorem parentByte_any (p : Int) (w : World) : Calls Tryz.prog 61 #[.int .i64 p] w fun e w' => e = .returned (.int .i64 (parB p)) ∧ w = w' := by
  by_cases h : p = -1
  · subst h
    go_enter Tryz.func61, Tryz.ntmps61
    go_wp2
    go_ret
    exact ⟨rfl, rfl⟩
  · have h' : (p == -1) = false := beq_eq_false_iff_ne.2 h
    have e : Hid (parB p = p) := hide (if_neg h)
    go_enter Tryz.func61, Tryz.ntmps61
    go_wp2
    go_ret
    exact ⟨by rw [e.out]; rfl, rfl⟩

def tabB (ps : List (List UInt8)) (t : Tab) : List UInt8 := p2 (placeS ps (bys t.name)) ++ p1 (parB t.parent) ++ p2 (t.ents.length : Int) ++ t.ents.flatMap (entB ps)

theorem entB_len (ps : List (List UInt8)) (e : Ent) : (entB ps e).length = 7 := by unfold entB; split <;> rfl
theorem entsB_len (ps : List (List UInt8)) : ∀ es : List Ent, (es.flatMap (entB ps)).length = 7 * es.length
  | [] => rfl
  | e :: r => by rw [List.flatMap_cons, List.length_append, entB_len, entsB_len ps r, List.length_cons]; omega
theorem entsB_next (ps : List (List UInt8)) (es : List Ent) (j : Nat) (hj : j < es.length) : (es.take (j + 1)).flatMap (entB ps) = (es.take j).flatMap (entB ps) ++ entB ps (entN es j) := by
  rw [List.take_add_one, entN_some hj, List.flatMap_append]
  simp

set_option maxRecDepth 100000 in
set_option maxHeartbeats 4000000 in
theorem table_any {w0 w : World} {D G n : Nat} {l : List UInt8} {ps : List (List UInt8)} {a2 : Option Addr} {cap2 : Nat} (t : Tab) (h : Wr w D G l) (hp : PlAt w G n ps) (hn : ps.Nodup) (hGD : G < D) (hl : l.length ≤ 100000000000) (hk : t.name.size ≤ 140737488355328) (hE : ESl w0 (.slice a2 t.ents.length cap2) t.ents) (hz : SzE t.ents) (hel : t.ents.length ≤ 1024) (hw0 : Below w0.heap.size w0 w) (hD0 : w0.heap.size ≤ D) :
    Calls Tryz.prog 31 #[.pointer (some ⟨D, 0, none⟩), .agg #[.string t.name, .int .i64 t.parent, .slice a2 t.ents.length cap2]] w fun x w' => x = .returned (.tuple #[]) ∧ Wr w' D G (l ++ tabB ps t) ∧ Kw D w w' := by
  obtain ⟨k, d, es⟩ := t
  simp only at *
  obtain ⟨M, hM⟩ : ∃ M, M = es.length := ⟨_, rfl⟩
  obtain ⟨WA, hWA⟩ : ∃ WA, WA = w.alloc (.cells #[.string k, .int .i64 d, .slice a2 M cap2] 31) := ⟨_, rfl⟩
  have BA : Hid (Below w.heap.size w WA) := hide (by rw [hWA]; exact (Below.refl _ _).alloc (Nat.le_refl _) _)
  have Q : Hid (Blk WA w.heap.size #[.string k, .int .i64 d, .slice a2 M cap2] 31) := hide (by rw [hWA]; exact Blk.newAt w w.heap.size rfl _ _)
  have WR := hide (h.below BA.out)
  have PA := hide (hp.below BA.out)
  have hne : w.heap.size ≠ D := Nat.ne_of_gt h.lt
  have HWA := hide hWA.symm
  have KW : Hid (Kw D w WA) := hide (.of_below BA.out)
  have W0A := hide (hw0.trans (BA.out.mono hw0.size))
  have HZ := hide hz
  obtain ⟨_, _, hv, hc2, hE2⟩ := hE
  simp only [Value.slice.injEq] at hv
  obtain ⟨rfl, _, rfl⟩ := hv
  have HE2 := hide hE2
  have HD0 := hide hD0
  rw [← hM] at hel hc2 ⊢
  have HM := hide hM
  clear h hp hWA hw0 hz hE2 hM hD0
  have KP : Hid (∀ w', Kw D WA w' → (∃ l', Wr w' D G l') → w'.cell? ⟨D, 2, none⟩ = some (.map (some G)) ∧ w'.cell? ⟨w.heap.size, 0, none⟩ = some (.string k) ∧ (Instr.lookup 65 (.map (some G)) (.string k) false).run Tryz.prog w' = .ok (.int .i64 (placeS ps (bys k) : Int)) w') := hide (fun w' hk' hw' => by
    obtain ⟨l', p', v', h1, _⟩ := hw'
    exact ⟨h1.cell 2, (hk'.blk Q.out hne (by decide)).cell 0, PlAt.look (PA.out.kw hk' hGD) hn k hk⟩)
  have C1 : Hid (∀ X, Hid (Below WA.heap.size WA X) → Calls Tryz.prog 57 #[.int .i64 (placeS ps (bys k) : Int)] X fun x w' => x = .returned (.string (put2 (placeS ps (bys k) : Int))) ∧ Hid (Below WA.heap.size WA w') ∧ w'.cell? ⟨D, 2, none⟩ = some (.map (some G)) ∧ w'.cell? ⟨w.heap.size, 0, none⟩ = some (.string k) ∧ (Instr.lookup 65 (.map (some G)) (.string k) false).run Tryz.prog w' = .ok (.int .i64 (placeS ps (bys k) : Int)) w') := hide (fun X hX => (Put16_any _ X).mono (fun x w' q => ⟨q.1, hide (hX.out.trans (q.2.mono hX.out.size)), KP.out w' (.of_below (hX.out.trans (q.2.mono hX.out.size))) ⟨l, WR.out.below (hX.out.trans (q.2.mono hX.out.size))⟩⟩))
  have C2 : Hid (∀ X, Hid (Below WA.heap.size WA X) → Calls Tryz.prog 29 #[.pointer (some ⟨D, 0, none⟩), .string (put2 (placeS ps (bys k) : Int))] X fun x w' => x = .returned (.tuple #[]) ∧ Hid (Wr w' D G (l ++ p2 (placeS ps (bys k))) ∧ Kw D WA w') ∧ w'.cell? ⟨D, 2, none⟩ = some (.map (some G)) ∧ w'.cell? ⟨w.heap.size, 0, none⟩ = some (.string k) ∧ (Instr.lookup 65 (.map (some G)) (.string k) false).run Tryz.prog w' = .ok (.int .i64 (placeS ps (bys k) : Int)) w') := hide (fun X hX => (put_any (put2 (placeS ps (bys k) : Int)) (WR.out.below hX.out) (by show l.length + 2 ≤ _; omega)).mono (fun x w' q => ⟨q.1, hide ⟨q.2.1, (Kw.of_below hX.out).trans q.2.2⟩, KP.out w' ((Kw.of_below hX.out).trans q.2.2) ⟨_, q.2.1⟩⟩))
  have b0 : Hid (Below WA.heap.size WA WA.drew) := (Below.refl _ _).drew
  obtain ⟨s1, s2, s3⟩ := KP.out WA.drew (.of_below b0.out) ⟨l, WR.out.below b0.out⟩
  have hl2 : Hid (∀ x, (l ++ p2 x).length = l.length + 2) := hide (fun x => by rw [List.length_append]; rfl)
  have ER : Hid (tabB ps ⟨k, d, es⟩ = p2 (placeS ps (bys k)) ++ p1 (parB d) ++ p2 (M : Int) ++ es.flatMap (entB ps)) := hide (by rw [HM.out]; rfl)
  generalize hPK : (placeS ps (bys k) : Int) = PK at *
  clear hPK KP
  go_enter Tryz.func31, Tryz.ntmps31
  go_wp2_with (simp only [HWA.out])
  have mk0 : True := trivial
  go_region_held3 (fun w' => w'.cell? ⟨D, 2, none⟩ = some (.map (some G)) ∧ w'.cell? ⟨w.heap.size, 0, none⟩ = some (.string k) ∧ (Instr.lookup 65 (.map (some G)) (.string k) false).run Tryz.prog w' = .ok (.int .i64 PK) w') (go_keep) (first
    | (clear mk0; go_at_call 57; refine (C1.out _ b0).mono ?_; rintro x v1 ⟨rfl, P1, y1, y2, y3⟩; have mk1 : True := trivial)
    | (clear mk1; go_at_call 29; refine (C2.out _ P1).mono ?_; rintro x v2 ⟨rfl, P2, y4, y5, y6⟩; have mk2 : True := trivial))
  obtain ⟨R1, K1⟩ := P2.out
  have WR1 := hide R1
  have KW1 := hide K1
  clear R1 K1 P2 P1 C1 C2 mk2 y1 y2 y3 y4 y5 y6 s1 s2 s3 b0
  have z1 : v2.cell? ⟨w.heap.size, 1, none⟩ = some (.int .i64 d) := (KW1.out.blk Q.out hne (by decide)).cell 1
  have C3 := hide (parentByte_any d v2)
  go_wp2_with fail
  refine C3.out.mono ?_
  rintro x w2 ⟨rfl, rfl⟩
  have C4 := hide (Put8_any (parB d) v2)
  clear C3
  go_wp2_with fail
  refine C4.out.mono ?_
  rintro x w3 ⟨rfl, hb3⟩
  have WR3 := hide (WR1.out.below hb3)
  have KW3 := hide (KW1.out.trans (.of_below hb3))
  have C5 := hide (put_any (⟨#[bN (parB d) 0]⟩ : ByteArray) WR3.out (by rw [hl2.out]; show l.length + 2 + 1 ≤ _; omega))
  clear hb3 C4 z1 WR1 KW1
  go_wp2_with fail
  refine C5.out.mono ?_
  rintro x w4 ⟨rfl, hr4, hk4⟩
  have WR4 : Hid (Wr w4 D G (l ++ p2 PK ++ p1 (parB d))) := hide hr4
  have KW4 := hide (KW3.out.trans hk4)
  have hl3 : Hid ((l ++ p2 PK ++ p1 (parB d)).length = l.length + 3) := hide (by rw [List.length_append, hl2.out]; rfl)
  have z2 : w4.cell? ⟨w.heap.size, 2, none⟩ = some (.slice a2 M cap2) := (KW4.out.blk Q.out hne (by decide)).cell 2
  have C6 := hide (Put16_any (M : Int) w4)
  clear hr4 hk4 C5 WR3 KW3
  go_wp2_with fail
  refine C6.out.mono ?_
  rintro x w5 ⟨rfl, hb5⟩
  have WR5 := hide (WR4.out.below hb5)
  have KW5 := hide (KW4.out.trans (.of_below hb5))
  have C7 := hide (put_any (put2 (M : Int)) WR5.out (by rw [hl3.out]; show l.length + 3 + 2 ≤ _; omega))
  clear hb5 C6 z2 WR4 KW4
  go_wp2_with fail
  refine C7.out.mono ?_
  rintro x w6 ⟨rfl, hr6, hk6⟩
  have WR6 : Hid (Wr w6 D G (l ++ p2 PK ++ p1 (parB d) ++ p2 (M : Int))) := hide hr6
  have KW6 := hide (KW5.out.trans hk6)
  have hl5 : Hid ((l ++ p2 PK ++ p1 (parB d) ++ p2 (M : Int)).length = l.length + 5) := hide (by rw [List.length_append, hl3.out]; rfl)
  have z2 : w6.cell? ⟨w.heap.size, 2, none⟩ = some (.slice a2 M cap2) := (KW6.out.blk Q.out hne (by decide)).cell 2
  have ER2 : Hid (l ++ tabB ps ⟨k, d, es⟩ = l ++ p2 PK ++ p1 (parB d) ++ p2 (M : Int) ++ es.flatMap (entB ps)) := hide (by rw [ER.out]; simp only [List.append_assoc])
  generalize hl1 : l ++ p2 PK ++ p1 (parB d) ++ p2 (M : Int) = l1 at *
  clear hl1 hr6 hk6 C7 WR5 KW5 ER
  have PA6 := hide (PA.out.kw KW6.out hGD)
  go_wp2
  go_loopw [31] (fun p wr => ∃ j : Nat, j ≤ M ∧ p = .int .i64 (j : Int) ∧ Hid (Wr wr D G (l1 ++ (es.take j).flatMap (entB ps))) ∧ Hid (Kw D w6 wr)) (fun p _ => M - (intOf p).toNat)
  case atStart => exact ⟨0, Nat.zero_le _, rfl, hide (by simpa using WR6.out), Kw.refl _ _⟩
  case round =>
    obtain ⟨j, hj, rfl, HWr, HKw⟩ := hrel
    have K0 := hide (Kw.frame W0A.out (KW6.out.trans HKw.out) HD0.out)
    by_cases hjl : j < M
    · have hjl' : (j : Int) < (M : Int) := by omega
      have hjt : j < es.length := by rw [← HM.out]; exact hjl
      obtain ⟨b2, o2, ha2, hb2, hcl⟩ : ∃ b o, a2 = some ⟨b, o, none⟩ ∧ b < w0.heap.size ∧ ∀ i, i < es.length → w0.cell? ⟨b, o + i * 4, none⟩ = some (.string (entN es i).key) ∧ w0.cell? ⟨b, o + i * 4 + 1, none⟩ = some (.int .i64 (entN es i).kind) ∧ w0.cell? ⟨b, o + i * 4 + 2, none⟩ = some (.string (entN es i).text) ∧ w0.cell? ⟨b, o + i * 4 + 3, none⟩ = some (.int .i64 (entN es i).num) := by
        rcases HE2.out with h | h
        · rw [h] at hjt; simp at hjt
        · exact h
      subst ha2
      obtain ⟨x0, x1, x2, x3⟩ := hcl j hjt
      have bc : ∀ i, wr.cell? ⟨b2, i, none⟩ = w0.cell? ⟨b2, i, none⟩ := fun i => K0.out.cell hb2
      rw [← bc] at x0 x1 x2 x3
      obtain ⟨zk, zt⟩ := HZ.out j
      have NE := hide (entsB_next ps es j hjt)
      have LE : Hid ((l1 ++ (es.take j).flatMap (entB ps)).length ≤ 1000000000000) := hide (by
        rw [List.length_append, hl5.out, entsB_len, List.length_take]
        omega)
      obtain ⟨g, hg⟩ : ∃ g, g = entN es j := ⟨_, rfl⟩
      rw [← hg] at x0 x1 x2 x3 zk zt NE
      obtain ⟨WB, hWB⟩ : ∃ WB, WB = wr.alloc (.cells #[.string g.key, .int .i64 g.kind, .string g.text, .int .i64 g.num] 33) := ⟨_, rfl⟩
      have BB : Hid (Below wr.heap.size wr WB) := hide (by rw [hWB]; exact (Below.refl _ _).alloc (Nat.le_refl _) _)
      have QE := hide (Blk.newAt wr wr.heap.size rfl #[.string g.key, .int .i64 g.kind, .string g.text, .int .i64 g.num] 33)
      rw [← hWB] at QE
      have HWB := hide hWB.symm
      have CE : Hid (Calls Tryz.prog 62 #[.pointer (some ⟨D, 0, none⟩), .agg #[.string g.key, .int .i64 g.kind, .string g.text, .int .i64 g.num]] WB fun x w' => x = .returned (.tuple #[]) ∧ Wr w' D G (l1 ++ (es.take j).flatMap (entB ps) ++ entB ps g) ∧ Kw D WB w') := hide (entry_any g (HWr.out.below BB.out) ((PA6.out.kw HKw.out hGD).below BB.out) hn hGD LE.out zk zt)
      have KB := hide (HKw.out.trans (.of_below BB.out))
      have y0 := QE.out.cell 0
      have y1 := QE.out.cell 1
      have y2 := QE.out.cell 2
      have y3 := QE.out.cell 3
      clear hg bc hcl hjt hWB zk zt LE HWr HKw BB K0 hb2 z2
      go_wp2_with (simp only [HWB.out])
      refine CE.out.mono ?_
      rintro x w7 ⟨rfl, hr7, hk7⟩
      have WN : Hid (Wr w7 D G (l1 ++ (es.take (j + 1)).flatMap (entB ps))) := hide (by rw [NE.out, ← List.append_assoc]; exact hr7)
      have KN := hide (KB.out.trans hk7)
      clear hr7 hk7 CE KB NE
      go_wp2
      exact ⟨⟨j + 1, by omega, by go_num, WN, KN⟩, by simp [intOf]; omega⟩
    · obtain rfl : j = M := by omega
      have hjl' : ¬ (j : Int) < (j : Int) := by omega
      have WN : Hid (Wr wr D G (l1 ++ es.flatMap (entB ps))) := hide (by
        have := HWr.out
        rwa [List.take_of_length_le (l := es) (by rw [← HM.out]; exact Nat.le_refl _)] at this)
      clear HWr hjl
      go_wp2
      go_end0
      exact ⟨rfl, by rw [ER2.out]; exact WN.out, KW.out.trans (KW6.out.trans HKw.out)⟩

end Go.Proofs.YtihnakblcfealaaGreatDoor
