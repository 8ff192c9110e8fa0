/-
  Digits as they are written: what written and joined answer.
  Arguments that are an api.Symbols, a quipulaw16.Way, a quipulaw16.Groups, an api.Shown: as values; how long their texts are.
  What joined, grouped, foremost and end answer.
  How a list of texts is cut into groups.
  How groups are put into a row.
  Lists of bytes in blocks of their own, out of a conversion or an append: an append to one; what a conversion makes.
  Texts and lists of bytes: conversions, there and back.
  A text that is appended to a list of bytes in a block of its own, out of a conversion or an append.
  What quipuref16's add and Write answer.
-/
import Derived.Test.YtionbkmbhhlmjaaGreatDoorXB11
import Derived.Test.YtionbkmbhhlmjaaGreatDoorXB9
import Derived.Laws.RangeAny
import Derived.Lib.OthersKept
import Derived.Test.YtionbkmbhhlmjaaGreatDoorXB1
import Derived.Test.YtionbkmbhhlmjaaGreatDoorRows
import Derived.Lib.SmallJoins
import Derived.Test.YtionbkmbhhlmjaaGreatDoorXB2
import Derived.ArgAppend
import Derived.Lib.ConvBytes
import Derived.Laws.BytesArg
import Derived.Lib.AppendStr
namespace Go.Proofs.YtionbkmbhhlmjaaGreatDoor
open Go.RowKit

def symC (s : Sy) : Array Value := #[.string s.d0, .string s.d1, .string s.d2, .string s.d3, .string s.d4, .string s.d5, .string s.d6, .string s.d7, .string s.d8, .string s.d9, .string s.dec, .string s.grp, .string s.min, .string s.plu, .string s.pct, .string s.pml, .string s.exp, .string s.inf, .string s.nan, .string s.app, .string s.rng]
def symV (s : Sy) : Value := .agg (symC s)
theorem symC_dig (s : Sy) (q : Nat) (h : q < 10) : (symC s)[q]? = some (.string (s.dig q)) := by
  have : q = 0 ∨ q = 1 ∨ q = 2 ∨ q = 3 ∨ q = 4 ∨ q = 5 ∨ q = 6 ∨ q = 7 ∨ q = 8 ∨ q = 9 := by omega
  rcases this with rfl | rfl | rfl | rfl | rfl | rfl | rfl | rfl | rfl | rfl <;> rfl
def cellsD (s : Sy) (ds : List UInt8) : List Value := ds.map fun c => .string (digT s c)
theorem wpD_append {w : World} {ops : Array Oper} {rest : List Oper} {o : Oper} {a : Act} {Q : Exit → Act → World → Prop} (hgd : o.guard = none) (s x : Operand)
    (ho : o.op = .call { callee := .builtin .append, args := #[s, x], argTypes := #[53, 53] })
    (base : Nat) (v : Value) (n : Nat) (xs : List Value) (hs : a.eval s = v) (hown : w.ownsRow base 9 1 v n xs)
    (g : Nat) (r : ByteArray) (hx : a.eval x = .slice (some ⟨g, 0, none⟩) 1 1) (hsrc : Blk w g #[.string r] 9) (XS : List Value) (hX : xs ++ [.string r] = XS) (hb : (n + 1) * 16 ≤ 140737488355328) (hbase : base ≤ w.heap.size)
    (h : ∀ uo uc w', w'.ownsRow base 9 1 (.slice uo (n + 1) uc) (n + 1) XS → w.grownBy w' v.ownBlock → wpList Tryz.prog ops Q rest (a.put o.dst (.slice uo (n + 1) uc)) w') : wpList Tryz.prog ops Q (o :: rest) a w := by
  obtain ⟨i0, hi, hz0, hz1, hz2⟩ := info_parts infoSt
  subst hX
  refine wpList_append_own w hgd s x _ ho base _ i0 (.string ⟨#[]⟩) 1 16 Tryz.underlying53 hi hz0 hz1 hz2 rfl (by decide) v n xs hs hown ⟨g, 0, none⟩ 1 1 [.string r] hx rfl (fun j u hj => ?_) (fun u hu => ?_) (by unfold maxLen; omega) hb hbase (fun v' w' h3 h4 _ => ?_)
  · rw [Addr.add_lit, Nat.zero_add, hsrc.cell j]
    simpa using hj
  · rw [List.mem_singleton.1 hu]; rfl
  · obtain ⟨uo, uc, rfl⟩ := ownD_slice h3
    exact h uo uc w' h3 h4

def ItAt (w : World) (I : Nat) (t : ByteArray) (k : Nat) : Prop := w.heap[I]? = some (.stringIter t k)
theorem ItAt.lt {w : World} {I k : Nat} {t : ByteArray} (h : ItAt w I t k) : I < w.heap.size := (Array.getElem?_eq_some_iff.1 h).1
theorem ItAt.below {w w' : World} {I k : Nat} {t : ByteArray} (h : ItAt w I t k) (hb : Below w.heap.size w w') : ItAt w' I t k := by
  unfold ItAt at *
  rw [hb.block I (ItAt.lt h)]; exact h
theorem ItAt.grown {w w' : World} {I k B n m : Nat} {e : TypeId} {v : Value} {xs : List Value} {t : ByteArray} (h : ItAt w I t k) (ho : w.ownsRow B e m v n xs) (hg : w.grownBy w' v.ownBlock) : ItAt w' I t k := by
  have hlt := ItAt.lt h
  unfold ItAt at *
  rw [hg.block I hlt (fun q => by
    rcases ho.2 with ⟨hv, _⟩ | ⟨g, cap, cur, hv, hb, hgg, _⟩
    · rw [hv] at q; simp [Value.ownBlock] at q
    · rw [hv] at q
      simp only [Value.ownBlock, Option.some.injEq] at q
      subst q
      rw [h] at hgg
      simp at hgg)]
  exact h
theorem ItAt.pos {w : World} {I k : Nat} {t : ByteArray} (h : ItAt w I t k) : w.iterPos I = k := by
  unfold ItAt at h
  unfold World.iterPos
  rw [h]
theorem ItAt.step {w : World} {I k j : Nat} {t : ByteArray} (h : ItAt w I t k) : ItAt (w.iterAt I t j) I t j := Lib.iterAt_heap w I t k j h
theorem iterAt_blk {w : World} {b I j : Nat} {t : ByteArray} {cs : Array Value} {T : TypeId} (h : Blk w b cs T) (hn : b ≠ I) : Blk (w.iterAt I t j) b cs T := by
  unfold Blk at *
  rw [Lib.iterAt_other w I b t j hn]; exact h
theorem ItAt.apart {w : World} {B n m I k : Nat} {e : TypeId} {v : Value} {xs : List Value} {t : ByteArray} (hi : ItAt w I t k) (h : w.ownsRow B e m v n xs) : v.ownBlock ≠ some I := by
  intro q
  rcases h.2 with ⟨hv, _⟩ | ⟨g, cap, cur, hv, hb, hgg, _⟩
  · rw [hv] at q; simp [Value.ownBlock] at q
  · rw [hv] at q
    simp only [Value.ownBlock, Option.some.injEq] at q
    subst q
    unfold ItAt at hi
    rw [hi] at hgg
    simp at hgg
theorem iterAt_own {w : World} {B n m I k j : Nat} {e : TypeId} {v : Value} {xs : List Value} {t : ByteArray} (hi : ItAt w I t k) (h : w.ownsRow B e m v n xs) : (w.iterAt I t j).ownsRow B e m v n xs :=
  World.ownsRow.kept h (row := some I) ⟨rfl, rfl, rfl, by rw [Lib.iterAt_size]; exact Nat.le_refl _, fun b _ hb => Lib.iterAt_other w I b t j (fun e => hb (by rw [e]))⟩ (.inr (ItAt.apart hi h))
theorem Blk.grownD {w w' : World} {b B n m : Nat} {cs : Array Value} {T e : TypeId} {v : Value} {xs : List Value} (h : Blk w b cs T) (ho : w.ownsRow B e m v n xs) (hb : b < B) (hg : w.grownBy w' v.ownBlock) : Blk w' b cs T := by
  have hlt := h.lt
  unfold Blk at *
  rw [hg.block b hlt (fun q => by have := (World.ownsRow.lt ho b q.symm).1; omega)]
  exact h
theorem ownD_mono {w : World} {B B' n k : Nat} {e : TypeId} {v : Value} {xs : List Value} (h : w.ownsRow B e k v n xs) (hB : B' ≤ B) : w.ownsRow B' e k v n xs := by
  refine ⟨h.1, ?_⟩
  rcases h.2 with q | ⟨g, cap, cur, hv, hb, rest⟩
  · exact .inl q
  · exact .inr ⟨g, cap, cur, hv, Nat.le_trans hB hb, rest⟩

theorem digB_at {l : List UInt8} (h : DigB l) (k : Nat) (hk : k < l.length) : ∃ q, q < 10 ∧ byt l k = 48 + q ∧ ∃ c, l[k]? = some c ∧ c.toNat = 48 + q := by
  obtain ⟨h1, h2⟩ := h k hk
  refine ⟨byt l k - 48, by omega, by omega, l[k], List.getElem?_eq_getElem hk, ?_⟩
  have : byt l k = l[k].toNat := by unfold byt; rw [List.getElem?_eq_getElem hk]; rfl
  omega

set_option maxRecDepth 100000 in
set_option maxHeartbeats 4000000 in
theorem written_any (ds : ByteArray) (s : Sy) (w : World) (hd : DigB (bys ds)) (hn : ds.size ≤ 100000) :
    Calls Tryz.prog 23 #[.string ds, symV s] w fun e w' => (∃ v, e = .returned v ∧ w'.ownsRow (w.heap.size + 1) 9 1 v ds.size (cellsD s (bys ds))) ∧ Below w.heap.size w w' := by
  have HD : Hid (∀ k, k < ds.size → ∃ q, q < 10 ∧ (∀ h : k < ds.size, ds[k].toNat = 48 + q) ∧ (bys ds)[k]? = some (UInt8.ofNat (48 + q)) ∧ digT s (UInt8.ofNat (48 + q)) = s.dig q) := hide (fun k hk => by
    obtain ⟨q, h1, h2, c, h3, h4⟩ := digB_at hd k (by rw [bys_len]; exact hk)
    have hc : c = UInt8.ofNat (48 + q) := by rw [← h4]; simp
    refine ⟨q, h1, fun h => by rw [byt_get ds k h, h2], by rw [h3, hc], ?_⟩
    unfold digT
    rw [← hc, h4]
    congr 1
    omega)
  clear hd
  obtain ⟨i0, hi, hz0, hz1, hz2⟩ := info_parts infoSt
  obtain ⟨W, hW⟩ : ∃ W, W = w.alloc (.cells (symC s) 26) := ⟨_, rfl⟩
  have BS0 : Blk W w.heap.size (symC s) 26 := by rw [hW]; exact Blk.newAt w w.heap.size rfl _ _
  have BW : Below w.heap.size w W ∧ W.heap.size = w.heap.size + 1 := by rw [hW]; exact ⟨(Below.refl _ _).alloc (Nat.le_refl _) _, by simp⟩
  obtain ⟨W2, hmk, hown, hgr⟩ := run_makeSlice_owned (P := Tryz.prog) W (w.heap.size + 1) 53 9 i0 (.string ⟨#[]⟩) 1 Tryz.underlying53 hi hz0 hz1 .i64 .i64 ds.size (by omega) (by rw [hz2]; omega) (by unfold maxLen; omega) (Nat.le_of_eq BW.2.symm)
  rw [BW.2] at hmk hown
  have B12 : Below W.heap.size W W2 := ⟨hgr.os, hgr.tape, hgr.output, hgr.size, fun k hk => hgr.block k hk (by simp)⟩
  have hIw : w.heap.size + 1 < W2.heap.size := by exact (World.ownsRow.lt hown _ rfl).2
  have BIt : Below W2.heap.size W2 (W2.iter ds 0) := (Below.refl _ _).alloc (Nat.le_refl _) _
  have B2 : Hid (Below w.heap.size w (W2.iter ds 0)) := hide (BW.1.trans ((B12.trans (BIt.mono B12.size)).mono BW.1.size))
  have S2 : Hid (Blk (W2.iter ds 0) w.heap.size (symC s) 26) := hide ((BS0.below B12 BS0.lt).below BIt (BS0.below B12 BS0.lt).lt)
  have O2 : Hid ((W2.iter ds 0).ownsRow (w.heap.size + 1) 9 1 (.slice (some ⟨w.heap.size + 1, 0, none⟩) 0 ds.size) 0 (cellsD s ((bys ds).take 0))) := hide (ownD_below hown BIt)
  have IT2 : Hid (ItAt (W2.iter ds 0) W2.heap.size ds 0) := hide (by unfold ItAt World.iter; exact heap_alloc_new _ _)
  unfold symC at hW
  have HW := hide hW.symm
  have HMK := hide hmk
  clear hW hmk BS0 BW hown hgr B12 BIt hi hz0 hz1 hz2
  unfold symV symC
  go_enter Tryz.func23, Tryz.ntmps23
  go_wp2_with (first | simp only [HW.out] | simp only [HMK.out])
  go_loopw [5] (fun x wr => ∃ (k : Nat) (uo : Option Addr) (uc : Nat), k ≤ ds.size ∧ x = .slice uo k uc ∧ Hid (ItAt wr W2.heap.size ds k) ∧ Hid (Blk wr w.heap.size (symC s) 26) ∧ Hid (wr.ownsRow (w.heap.size + 1) 9 1 (.slice uo k uc) k (cellsD s ((bys ds).take k))) ∧ Hid (Below w.heap.size w wr)) (fun _ wr => ds.size - wr.iterPos W2.heap.size)
  case atStart => exact ⟨0, _, _, Nat.zero_le _, rfl, IT2, S2, O2, B2⟩
  case round =>
    obtain ⟨k, uo, uc, hk, rfl, IT, S, OW, BB⟩ := hrel
    by_cases hlt : k < ds.size
    · obtain ⟨q, hq, hc, hcs, hdg⟩ := HD.out k hlt
      obtain ⟨x, hx⟩ : ∃ x, x = s.dig q := ⟨_, rfl⟩
      obtain ⟨wn, hwn⟩ : ∃ wn, wn = wr.iterAt W2.heap.size ds (k + 1) := ⟨_, rfl⟩
      have hnx : ∀ ty, (Instr.next (.pointer (some ⟨W2.heap.size, 0, none⟩)) true ty).run Tryz.prog wr = .ok (.tuple #[.bool true, .int .i64 (k : Int), .int .i32 ((48 + q : Nat) : Int)]) wn := fun ty => by
        have h := Lib.run_next_ascii_at (P := Tryz.prog) wr W2.heap.size ds k ty IT.out hlt (by rw [hc hlt]; omega)
        rw [hc hlt, ← hwn] at h
        exact h
      have ITn : Hid (ItAt wn W2.heap.size ds (k + 1)) := hide (by rw [hwn]; exact ItAt.step IT.out)
      have Sn : Hid (Blk wn w.heap.size (symC s) 26) := hide (by rw [hwn]; exact iterAt_blk S.out (by omega))
      have On : Hid (wn.ownsRow (w.heap.size + 1) 9 1 (.slice uo k uc) k (cellsD s ((bys ds).take k))) := hide (by rw [hwn]; exact iterAt_own IT.out OW.out)
      have Bn : Hid (Below w.heap.size w wn) := hide (by rw [hwn]; exact Lib.below_iterAt BB.out (by omega) ds (k + 1))
      have cq : wn.cell? ⟨w.heap.size, q, none⟩ = some (.string x) := by rw [Sn.out.cell q, symC_dig s q hq, hx]
      have q10 : (q : Int) < 10 := by omega
      have BA : Hid (Below wn.heap.size wn (wn.alloc (.cells #[.string x] 9))) := hide ((Below.refl _ _).alloc (Nat.le_refl _) _)
      have SR := hide (Blk.newAt wn wn.heap.size rfl #[.string x] 9)
      have OA := hide (ownD_below On.out BA.out)
      have EX : Hid (cellsD s ((bys ds).take k) ++ [.string x] = cellsD s ((bys ds).take (k + 1))) := hide (by
        rw [List.take_add_one, hcs]
        unfold cellsD
        rw [List.map_append, hx, ← hdg]
        rfl)
      have BS : Hid (w.heap.size + 1 ≤ (wn.alloc (.cells #[.string x] 9)).heap.size) := hide (by have := Bn.out.size; have := ITn.out.lt; have := BA.out.size; omega)
      have hkl : k ≤ 100000 := by omega
      have hwr : IntKind.i32.wrap (((48 + q : Nat) : Int) - 48) = (q : Int) := by rw [IntKind.wrap_i32]; omega
      have MS : Hid (wr.iterPos W2.heap.size = k) := hide IT.out.pos
      have HBA := hide (Bn.out.trans (BA.out.mono Bn.out.size))
      clear hx hwn HD hcs hdg hc IT S OW BB
      go_wp2_with (at_builtin; refine wpD_append rfl _ _ rfl (w.heap.size + 1) (.slice uo k uc) k (cellsD s ((bys ds).take k)) rfl OA.out wn.heap.size x rfl SR.out _ EX.out (by omega) BS.out ?_; intro uo2 uc2 w4 hown hgr)
      have IT4 := hide ((ITn.out.below BA.out).grown OA.out hgr)
      have S4 := hide ((Sn.out.below BA.out Sn.out.lt).grownD OA.out (Nat.lt_succ_self _) hgr)
      have B4 := hide (HBA.out.grown hgr HBA.out.size (fun q hq => Nat.le_of_succ_le (World.ownsRow.lt OA.out q hq).1))
      have O4 := hide hown
      exact ⟨⟨k + 1, uo2, uc2, by omega, rfl, IT4, S4, O4, B4⟩, by rw [MS.out, IT4.out.pos]; omega⟩
    · have hk0 : ¬ k < ds.size := by omega
      have hnx : ∀ ty, (Instr.next (.pointer (some ⟨W2.heap.size, 0, none⟩)) true ty).run Tryz.prog wr = _ := fun ty => Lib.run_next_end_at wr W2.heap.size ds k ty IT.out hk0
      obtain rfl : k = ds.size := by omega
      have OE : Hid (wr.ownsRow (w.heap.size + 1) 9 1 (.slice uo ds.size uc) ds.size (cellsD s (bys ds))) := hide (by
        have q := OW.out
        rw [List.take_of_length_le (by rw [bys_len]; exact Nat.le_refl _)] at q
        exact q)
      clear HD hlt hk OW
      go_wp2
      go_ret
      exact ⟨⟨_, rfl, OE.out⟩, BB.out⟩

end Go.Proofs.YtionbkmbhhlmjaaGreatDoor

namespace Go.Proofs.YtionbkmbhhlmjaaGreatDoor
open Go.ChangeShapes Go.WideShapes Go.ChangeAt Go.RowKit

theorem Tryz.cellsSy : Tryz.prog.cellsOf 26 = 21 := by kernel_rfl
theorem Tryz.cellsA10 : Tryz.prog.cellsOf 24 = 10 := by kernel_rfl

theorem array22 {α : Type} {cs : Array α} (h : cs.size = 22) : ∃ c, ∃ c0 c1 c2 c3 c4 c5 c6 c7 c8 c9 c10 c11 c12 c13 c14 c15 c16 c17 c18 c19 c20, cs = #[c, c0, c1, c2, c3, c4, c5, c6, c7, c8, c9, c10, c11, c12, c13, c14, c15, c16, c17, c18, c19, c20] := by
  rcases cs with ⟨l⟩
  match l, h with
  | [c, c0, c1, c2, c3, c4, c5, c6, c7, c8, c9, c10, c11, c12, c13, c14, c15, c16, c17, c18, c19, c20], _ => exact ⟨c, c0, c1, c2, c3, c4, c5, c6, c7, c8, c9, c10, c11, c12, c13, c14, c15, c16, c17, c18, c19, c20, rfl⟩
theorem list12 {α : Type} {l : List α} (h : l.length = 12) : ∃ y0 y1 y2 y3 y4 y5 y6 y7 y8 y9 y10 y11, l = [y0, y1, y2, y3, y4, y5, y6, y7, y8, y9, y10, y11] := by
  match l, h with
  | [y0, y1, y2, y3, y4, y5, y6, y7, y8, y9, y10, y11], _ => exact ⟨y0, y1, y2, y3, y4, y5, y6, y7, y8, y9, y10, y11, rfl⟩
theorem list10 {α : Type} {l : List α} (h : l.length = 10) : ∃ z0 z1 z2 z3 z4 z5 z6 z7 z8 z9, l = [z0, z1, z2, z3, z4, z5, z6, z7, z8, z9] := by
  match l, h with
  | [z0, z1, z2, z3, z4, z5, z6, z7, z8, z9], _ => exact ⟨z0, z1, z2, z3, z4, z5, z6, z7, z8, z9, rfl⟩

set_option maxRecDepth 100000 in
set_option maxHeartbeats 2000000 in
theorem symTrod {H : Type} {enc : TypeId × Value → H} {W : World} {n : Nat} {c0 c1 c2 c3 c4 c5 c6 c7 c8 c9 c10 c11 c12 c13 c14 c15 c16 c17 c18 c19 c20 : Value} {y : DataW H × List MemPlace} (hf : DataW.trod enc Tryz.prog W 0 (fun _ => true) true n 26 [c0, c1, c2, c3, c4, c5, c6, c7, c8, c9, c10, c11, c12, c13, c14, c15, c16, c17, c18, c19, c20] = some y) :
    ∃ s : Sy, #[c0, c1, c2, c3, c4, c5, c6, c7, c8, c9, c10, c11, c12, c13, c14, c15, c16, c17, c18, c19, c20] = symC s ∧ ∀ q, (s.dig q).size ≤ Rows.uptoBulk y.1 := by
  obtain ⟨xs, n, _, hx, _, hl, hg⟩ := DataW.trod_struct Tryz.underlying26 hf
  obtain ⟨y0, y1, y2, y3, y4, y5, y6, y7, y8, y9, y10, y11, rfl⟩ := list12 (l := xs) (by simpa using hl)
  have hd : y.1 = .agg [y0.1, y1.1, y2.1, y3.1, y4.1, y5.1, y6.1, y7.1, y8.1, y9.1, y10.1, y11.1] := by simpa using congrArg Prod.fst hx
  have k0 : DataW.trod enc Tryz.prog W 0 (fun _ => true) true n 24 [c0, c1, c2, c3, c4, c5, c6, c7, c8, c9] = some y0 := by simpa [Value.cells, Tryz.cellsA10] using hg 0 _ rfl
  obtain ⟨zs, m, _, hz, _, hlz, hgz⟩ := DataW.trod_array Tryz.underlying24 k0
  obtain ⟨z0, z1, z2, z3, z4, z5, z6, z7, z8, z9, rfl⟩ := list10 (l := zs) (by simpa using hlz)
  have hd0 : y0.1 = .agg [z0.1, z1.1, z2.1, z3.1, z4.1, z5.1, z6.1, z7.1, z8.1, z9.1] := by simpa using congrArg Prod.fst hz
  have r0 : DataW.trod enc Tryz.prog W 0 (fun _ => true) true m 9 [c0] = some z0 := by simpa [Tryz.cellsSt] using hgz 0 (by decide)
  obtain ⟨a0, e0, g0⟩ := DataW.trod_string Tryz.underlying9 r0
  have r1 : DataW.trod enc Tryz.prog W 0 (fun _ => true) true m 9 [c1] = some z1 := by simpa [Tryz.cellsSt] using hgz 1 (by decide)
  obtain ⟨a1, e1, g1⟩ := DataW.trod_string Tryz.underlying9 r1
  have r2 : DataW.trod enc Tryz.prog W 0 (fun _ => true) true m 9 [c2] = some z2 := by simpa [Tryz.cellsSt] using hgz 2 (by decide)
  obtain ⟨a2, e2, g2⟩ := DataW.trod_string Tryz.underlying9 r2
  have r3 : DataW.trod enc Tryz.prog W 0 (fun _ => true) true m 9 [c3] = some z3 := by simpa [Tryz.cellsSt] using hgz 3 (by decide)
  obtain ⟨a3, e3, g3⟩ := DataW.trod_string Tryz.underlying9 r3
  have r4 : DataW.trod enc Tryz.prog W 0 (fun _ => true) true m 9 [c4] = some z4 := by simpa [Tryz.cellsSt] using hgz 4 (by decide)
  obtain ⟨a4, e4, g4⟩ := DataW.trod_string Tryz.underlying9 r4
  have r5 : DataW.trod enc Tryz.prog W 0 (fun _ => true) true m 9 [c5] = some z5 := by simpa [Tryz.cellsSt] using hgz 5 (by decide)
  obtain ⟨a5, e5, g5⟩ := DataW.trod_string Tryz.underlying9 r5
  have r6 : DataW.trod enc Tryz.prog W 0 (fun _ => true) true m 9 [c6] = some z6 := by simpa [Tryz.cellsSt] using hgz 6 (by decide)
  obtain ⟨a6, e6, g6⟩ := DataW.trod_string Tryz.underlying9 r6
  have r7 : DataW.trod enc Tryz.prog W 0 (fun _ => true) true m 9 [c7] = some z7 := by simpa [Tryz.cellsSt] using hgz 7 (by decide)
  obtain ⟨a7, e7, g7⟩ := DataW.trod_string Tryz.underlying9 r7
  have r8 : DataW.trod enc Tryz.prog W 0 (fun _ => true) true m 9 [c8] = some z8 := by simpa [Tryz.cellsSt] using hgz 8 (by decide)
  obtain ⟨a8, e8, g8⟩ := DataW.trod_string Tryz.underlying9 r8
  have r9 : DataW.trod enc Tryz.prog W 0 (fun _ => true) true m 9 [c9] = some z9 := by simpa [Tryz.cellsSt] using hgz 9 (by decide)
  obtain ⟨a9, e9, g9⟩ := DataW.trod_string Tryz.underlying9 r9
  have k1 : DataW.trod enc Tryz.prog W 0 (fun _ => true) true n 9 [c10] = some y1 := by simpa [Value.cells, Tryz.cellsSt] using hg 1 _ rfl
  obtain ⟨a10, e10, _⟩ := DataW.trod_string Tryz.underlying9 k1
  have k2 : DataW.trod enc Tryz.prog W 0 (fun _ => true) true n 9 [c11] = some y2 := by simpa [Value.cells, Tryz.cellsSt] using hg 2 _ rfl
  obtain ⟨a11, e11, _⟩ := DataW.trod_string Tryz.underlying9 k2
  have k3 : DataW.trod enc Tryz.prog W 0 (fun _ => true) true n 9 [c12] = some y3 := by simpa [Value.cells, Tryz.cellsSt] using hg 3 _ rfl
  obtain ⟨a12, e12, _⟩ := DataW.trod_string Tryz.underlying9 k3
  have k4 : DataW.trod enc Tryz.prog W 0 (fun _ => true) true n 9 [c13] = some y4 := by simpa [Value.cells, Tryz.cellsSt] using hg 4 _ rfl
  obtain ⟨a13, e13, _⟩ := DataW.trod_string Tryz.underlying9 k4
  have k5 : DataW.trod enc Tryz.prog W 0 (fun _ => true) true n 9 [c14] = some y5 := by simpa [Value.cells, Tryz.cellsSt] using hg 5 _ rfl
  obtain ⟨a14, e14, _⟩ := DataW.trod_string Tryz.underlying9 k5
  have k6 : DataW.trod enc Tryz.prog W 0 (fun _ => true) true n 9 [c15] = some y6 := by simpa [Value.cells, Tryz.cellsSt] using hg 6 _ rfl
  obtain ⟨a15, e15, _⟩ := DataW.trod_string Tryz.underlying9 k6
  have k7 : DataW.trod enc Tryz.prog W 0 (fun _ => true) true n 9 [c16] = some y7 := by simpa [Value.cells, Tryz.cellsSt] using hg 7 _ rfl
  obtain ⟨a16, e16, _⟩ := DataW.trod_string Tryz.underlying9 k7
  have k8 : DataW.trod enc Tryz.prog W 0 (fun _ => true) true n 9 [c17] = some y8 := by simpa [Value.cells, Tryz.cellsSt] using hg 8 _ rfl
  obtain ⟨a17, e17, _⟩ := DataW.trod_string Tryz.underlying9 k8
  have k9 : DataW.trod enc Tryz.prog W 0 (fun _ => true) true n 9 [c18] = some y9 := by simpa [Value.cells, Tryz.cellsSt] using hg 9 _ rfl
  obtain ⟨a18, e18, _⟩ := DataW.trod_string Tryz.underlying9 k9
  have k10 : DataW.trod enc Tryz.prog W 0 (fun _ => true) true n 9 [c19] = some y10 := by simpa [Value.cells, Tryz.cellsSt] using hg 10 _ rfl
  obtain ⟨a19, e19, _⟩ := DataW.trod_string Tryz.underlying9 k10
  have k11 : DataW.trod enc Tryz.prog W 0 (fun _ => true) true n 9 [c20] = some y11 := by simpa [Value.cells, Tryz.cellsSt] using hg 11 _ rfl
  obtain ⟨a20, e20, _⟩ := DataW.trod_string Tryz.underlying9 k11
  simp at e0 e1 e2 e3 e4 e5 e6 e7 e8 e9 e10 e11 e12 e13 e14 e15 e16 e17 e18 e19 e20
  subst e0 e1 e2 e3 e4 e5 e6 e7 e8 e9 e10 e11 e12 e13 e14 e15 e16 e17 e18 e19 e20
  refine ⟨⟨a0, a1, a2, a3, a4, a5, a6, a7, a8, a9, a10, a11, a12, a13, a14, a15, a16, a17, a18, a19, a20⟩, rfl, fun q => ?_⟩
  have hb : Rows.uptoBulk y0.1 ≤ Rows.uptoBulk y.1 := by
    rw [hd]
    simp only [Rows.uptoBulk, Rows.uptoBulkAll]
    omega
  refine Nat.le_trans ?_ hb
  rw [hd0]
  simp only [Rows.uptoBulk, Rows.uptoBulkAll, g0, g1, g2, g3, g4, g5, g6, g7, g8, g9]
  have hq : q = 0 ∨ q = 1 ∨ q = 2 ∨ q = 3 ∨ q = 4 ∨ q = 5 ∨ q = 6 ∨ q = 7 ∨ q = 8 ∨ 9 ≤ q := by omega
  have l0 : a0.data.toList.length = a0.size := bys_len a0
  have l1 : a1.data.toList.length = a1.size := bys_len a1
  have l2 : a2.data.toList.length = a2.size := bys_len a2
  have l3 : a3.data.toList.length = a3.size := bys_len a3
  have l4 : a4.data.toList.length = a4.size := bys_len a4
  have l5 : a5.data.toList.length = a5.size := bys_len a5
  have l6 : a6.data.toList.length = a6.size := bys_len a6
  have l7 : a7.data.toList.length = a7.size := bys_len a7
  have l8 : a8.data.toList.length = a8.size := bys_len a8
  have l9 : a9.data.toList.length = a9.size := bys_len a9
  rcases hq with rfl | rfl | rfl | rfl | rfl | rfl | rfl | rfl | rfl | hq
  · show a0.size ≤ _
    omega
  · show a1.size ≤ _
    omega
  · show a2.size ≤ _
    omega
  · show a3.size ≤ _
    omega
  · show a4.size ≤ _
    omega
  · show a5.size ≤ _
    omega
  · show a6.size ≤ _
    omega
  · show a7.size ≤ _
    omega
  · show a8.size ≤ _
    omega
  · have e : Sy.dig ⟨a0, a1, a2, a3, a4, a5, a6, a7, a8, a9, a10, a11, a12, a13, a14, a15, a16, a17, a18, a19, a20⟩ q = a9 := by
      obtain ⟨k, rfl⟩ : ∃ k, q = k + 9 := ⟨q - 9, by omega⟩
      rfl
    rw [e]
    omega

theorem Tryz.cellsWy : Tryz.prog.cellsOf 38 = 22 := by kernel_rfl
def wayV (p : Bool) (s : Sy) : Value := .agg #[.bool p, .string s.d0, .string s.d1, .string s.d2, .string s.d3, .string s.d4, .string s.d5, .string s.d6, .string s.d7, .string s.d8, .string s.d9, .string s.dec, .string s.grp, .string s.min, .string s.plu, .string s.pct, .string s.pml, .string s.exp, .string s.inf, .string s.nan, .string s.app, .string s.rng]
theorem pairY {α : Type} {l : List α} (h : l.length = 2) : ∃ a b, l = [a, b] := by
  match l, h with
  | [a, b], _ => exact ⟨a, b, rfl⟩
set_option maxRecDepth 100000 in
theorem viewWy {H : Type} {enc : TypeId × Value → H} {W : World} {base : Nat} {v : Value} {d : DataW H} {p : List MemPlace} (hval : Value.okWide Tryz.prog W .any base 38 v) (h : DataW.Trod enc Tryz.prog W 0 (fun _ => true) true 38 v d p) :
    ∃ (b : Bool) (s : Sy), v = wayV b s ∧ ∀ q, (s.dig q).size ≤ Rows.uptoBulk d := by
  obtain ⟨cs, rfl, hsz⟩ := okWide_struct Tryz.underlying38 hval
  obtain ⟨c, c0, c1, c2, c3, c4, c5, c6, c7, c8, c9, c10, c11, c12, c13, c14, c15, c16, c17, c18, c19, c20, rfl⟩ := array22 (hsz.trans Tryz.cellsWy)
  obtain ⟨fuel, hf⟩ := h
  obtain ⟨xs, n, _, hx, _, hl, hg⟩ := DataW.trod_struct Tryz.underlying38 hf
  obtain ⟨y0, y1, rfl⟩ := pairY (l := xs) (by simpa using hl)
  have hd : d = .agg [y0.1, y1.1] := by simpa using congrArg Prod.fst hx
  have k0 : DataW.trod enc Tryz.prog W 0 (fun _ => true) true n 4 [c] = some y0 := by simpa [Value.cells, Tryz.cellsBo] using hg 0 _ rfl
  obtain ⟨b, e0, _⟩ := DataW.trod_bool Tryz.underlying4 k0
  have k1 : DataW.trod enc Tryz.prog W 0 (fun _ => true) true n 26 [c0, c1, c2, c3, c4, c5, c6, c7, c8, c9, c10, c11, c12, c13, c14, c15, c16, c17, c18, c19, c20] = some y1 := by simpa [Value.cells, Tryz.cellsSy] using hg 1 _ rfl
  obtain ⟨s, h1, h2⟩ := symTrod k1
  simp at e0
  subst e0
  refine ⟨b, s, ?_, fun q => ?_⟩
  · have h1' : [c0, c1, c2, c3, c4, c5, c6, c7, c8, c9, c10, c11, c12, c13, c14, c15, c16, c17, c18, c19, c20] = (symC s).toList := by rw [← h1]
    unfold wayV
    have e : #[Value.bool b, c0, c1, c2, c3, c4, c5, c6, c7, c8, c9, c10, c11, c12, c13, c14, c15, c16, c17, c18, c19, c20] = (⟨Value.bool b :: (symC s).toList⟩ : Array Value) := by rw [← h1']
    rw [e]
    rfl
  · have := h2 q
    rw [hd]
    simp only [Rows.uptoBulk, Rows.uptoBulkAll]
    omega


theorem wfN16 {z : Int} (h : (Lit.int .i64 z).wf = true) : -9223372036854775808 ≤ z ∧ z ≤ 9223372036854775807 := by
  have h2 : IntKind.i64.min ≤ z ∧ z ≤ IntKind.i64.max := by simpa [Lit.wf] using h
  rw [show IntKind.i64.min = -9223372036854775808 by decide, show IntKind.i64.max = 9223372036854775807 by decide] at h2
  exact h2

theorem wrL_le (s : Sy) (N : Nat) (h : ∀ q, (s.dig q).size ≤ N) : ∀ ds : List UInt8, (wrL s ds).length ≤ ds.length * N
  | [] => by simp [wrL]
  | c :: ds => by
    have h1 := wrL_le s N h ds
    have h2 : (bys (digT s c)).length ≤ N := by rw [bys_len]; exact h _
    rw [wrL_cons, List.length_append, List.length_cons, Nat.add_mul]
    omega

end Go.Proofs.YtionbkmbhhlmjaaGreatDoor

namespace Go.Proofs.YtionbkmbhhlmjaaGreatDoor
open Go.RowKit

theorem join_flat (xs : List (List UInt8)) : Lib.join xs [] = xs.flatten := by
  cases xs with
  | nil => rfl
  | cons x r =>
    rw [Lib.join_cons]
    unfold Lib.joinTail
    simp
theorem join_wr (s : Sy) (ds : List UInt8) : Lib.join ((ds.map (digT s)).map (·.data.toList)) (⟨#[]⟩ : ByteArray).data.toList = wrL s ds := by
  rw [show (⟨#[]⟩ : ByteArray).data.toList = [] from rfl, join_flat, List.map_map]
  rfl

set_option maxHeartbeats 1000000 in
theorem joined_at (b o n cap : Nat) (s : Sy) (ds : List UInt8) (w : World) (hn : ds.length = n) (hcells : ∀ j c, ds[j]? = some c → w.cell? ⟨b, o + j, none⟩ = some (.string (digT s c))) (hb : b < w.heap.size) (hN : n ≤ 100000) (hc : n ≤ cap) (hl : (wrL s ds).length ≤ 140737488355328) :
    Calls Tryz.prog 22 #[.slice (some ⟨b, o, none⟩) n cap] w fun e w' => e = .returned (.string (mkP (wrL s ds))) ∧ Below w.heap.size w w' := by
  have H := Tryz.strings_Join b o cap (ds.map (digT s)) ⟨#[]⟩ w (fun j x hx => by
    rw [List.getElem?_map] at hx
    cases hd : ds[j]? with
    | none => rw [hd] at hx; cases hx
    | some c =>
      rw [hd] at hx
      have := hcells j c hd
      simp only [Option.map_some, Option.some.injEq] at hx
      rw [this, hx]) hb (by rw [List.length_map]; omega) (by rw [List.length_map]; omega) (by rw [join_wr]; exact hl)
  rw [join_wr, List.length_map, hn] at H
  have HJ := hide H
  obtain ⟨r, hr⟩ : ∃ r, r = mkP (wrL s ds) := ⟨_, rfl⟩
  rw [show (⟨(wrL s ds).toArray⟩ : ByteArray) = mkP (wrL s ds) from rfl, ← hr] at HJ
  rw [← hr]
  clear H hcells hr hl hn
  go_enter Tryz.func22, Tryz.ntmps22
  go_wp2_with fail
  refine HJ.out.mono ?_
  rintro e w1 ⟨rfl, hb1⟩
  go_wp2
  go_ret
  exact ⟨rfl, hb1⟩
set_option maxHeartbeats 1000000 in
theorem joined_none (a : Option Addr) (cap : Nat) (w : World) : Calls Tryz.prog 22 #[.slice a 0 cap] w fun e w' => e = .returned (.string ⟨#[]⟩) ∧ Below w.heap.size w w' := by
  have HJ := hide (Tryz.strings_Join_none a cap ⟨#[]⟩ w)
  go_enter Tryz.func22, Tryz.ntmps22
  go_wp2_with fail
  refine HJ.out.mono ?_
  rintro e w1 ⟨rfl, rfl⟩
  go_wp2
  go_ret
  exact ⟨rfl, Below.refl _ _⟩
theorem joined_own {w : World} {B n : Nat} {v : Value} (s : Sy) (ds : List UInt8) (h : w.ownsRow B 9 1 v n (cellsD s ds)) (hn : ds.length = n) (hN : n ≤ 100000) (hl : (wrL s ds).length ≤ 140737488355328) :
    Calls Tryz.prog 22 #[v] w fun e w' => e = .returned (.string (mkP (wrL s ds))) ∧ Below w.heap.size w w' := by
  by_cases h0 : n = 0
  · obtain ⟨ao, cap, rfl⟩ := ownD_slice h
    obtain rfl : ds = [] := List.eq_nil_of_length_eq_zero (by omega)
    subst h0
    exact joined_none ao cap w
  · obtain ⟨g, cap, rfl, h1, h2, h3⟩ := ownD_some h h0
    refine joined_at g 0 n cap s ds w hn (fun j c hj => ?_) h2 hN h3 hl
    have hlt : j < n := by rw [← hn]; exact (List.getElem?_eq_some_iff.1 hj).1
    rw [Nat.zero_add, h.cellAt j (by omega)]
    unfold cellsD
    rw [List.getElem?_map, hj]
    rfl

theorem maxI_run (a b : Int) : ∀ (w : World) (ts : Array TypeId) (t : TypeId), (Builtin.max_ ts t #[.int .i64 a, .int .i64 b]).run Tryz.prog w = .ok (.int .i64 (max a b)) w := by
  intro w ts t
  rw [run_max_int2]
  congr 2
  omega

theorem results_grp {fn : Func} {a : Tmp} (h : fn.results = #[.cell a 69]) (tmps : Array Value) (H : Nat) (x0 x1 x2 : Value) (w : World) (ht : tmps.getD a undef = .pointer (some ⟨H, 0, none⟩)) (hp : Blk w H #[x0, x1, x2] 69) :
    (results fn tmps).run Tryz.prog w = .ok (.agg #[x0, x1, x2]) w := by
  have c0 := hp.cell 0
  have c1 := hp.cell 1
  have c2 := hp.cell 2
  simp at c0 c1 c2
  rw [Array.getD_eq_getD_getElem?] at ht
  simp [results, h, ht, go_sem, c0, c1, c2]
def grpV (first further least : Int) : Value := .agg #[.int .i64 first, .int .i64 (furR first further), .int .i64 (max 1 least)]

set_option maxHeartbeats 1000000 in
theorem grouped_any (first further least : Int) (w : World) : Calls Tryz.prog 30 #[.int .i64 first, .int .i64 further, .int .i64 least] w fun e w' => e = .returned (grpV first further least) ∧ Below w.heap.size w w' := by
  have MX := maxI_run 1 least
  obtain ⟨m, hm⟩ : ∃ m, m = max 1 least := ⟨_, rfl⟩
  unfold grpV
  rw [← hm] at MX ⊢
  unfold furR
  have B0 : Hid (Below w.heap.size w (w.alloc (.cells #[.int .i64 0, .int .i64 0, .int .i64 0] 69))) := (Below.refl _ _).alloc (Nat.le_refl _) _
  have R0 := hide (Blk.newAt w w.heap.size rfl #[.int .i64 0, .int .i64 0, .int .i64 0] 69)
  clear hm
  by_cases h : further ≤ 0
  · rw [if_pos h]
    have h' : decide (further ≤ 0) = true := decide_eq_true h
    go_enter Tryz.func30, Tryz.ntmps30
    go_wp2
    refine bodyPost_ret (results_grp rfl _ _ _ _ _ _ rfl (Blk.newAt w w.heap.size rfl _ _)) rfl ?_
    exact ⟨rfl, (Below.refl _ _).alloc (Nat.le_refl _) _⟩
  · rw [if_neg h]
    have h' : decide (further ≤ 0) = false := decide_eq_false h
    go_enter Tryz.func30, Tryz.ntmps30
    go_wp2
    refine bodyPost_ret (results_grp rfl _ _ _ _ _ _ rfl (Blk.newAt w w.heap.size rfl _ _)) rfl ?_
    exact ⟨rfl, (Below.refl _ _).alloc (Nat.le_refl _) _⟩

set_option maxRecDepth 100000 in
set_option maxHeartbeats 2000000 in
theorem foremost_any (n : Nat) (first further least : Int) (w : World) (hn : n ≤ 100000) (hf : first ≤ 9223372036854775807) (hu : further ≤ 9223372036854775807) :
    Calls Tryz.prog 56 #[grpV first further least, .int .i64 (n : Int)] w fun e w' => e = .returned (.int .i64 (if Grp n first least then foreI n first (furR first further) else n)) ∧ Below w.heap.size w w' := by
  have AL : Hid (∀ o, Below w.heap.size w (w.alloc o)) := hide fun o => (Below.refl _ _).alloc (Nat.le_refl _) _
  unfold grpV
  by_cases h1 : 0 < first
  · have hR := furR_pos (further := further) h1
    have hR2 : furR first further ≤ 9223372036854775807 := by unfold furR; split <;> omega
    have hm1 : 1 ≤ max 1 least := by omega
    have E1 : Hid (Grp n first least ↔ max 1 least ≤ (n : Int) - first) := hide ⟨fun h => h.2, fun h => ⟨h1, h⟩⟩
    unfold foreI
    generalize furR first further = R at *
    generalize max 1 least = m at *
    have h1' : ¬ first ≤ 0 := by omega
    by_cases h2 : m ≤ (n : Int) - first
    · rw [if_pos (E1.out.2 h2)]
      have h2' : ¬ (n : Int) - first < m := by omega
      obtain ⟨d, hd⟩ : ∃ d, d = (n : Int) - first := ⟨_, rfl⟩
      rw [← hd] at h2 h2' ⊢
      have hw : IntKind.i64.wrap ((n : Int) - first) = d := by rw [IntKind.wrap_i64]; omega
      have hd0 : 0 ≤ d := by omega
      have ht : Int.tmod d R = d % R := Int.tmod_eq_emod_of_nonneg hd0
      have hz : ¬ R = 0 := by omega
      have b1 := Int.emod_nonneg d hz
      have b2 := Int.emod_lt_of_pos d hR
      obtain ⟨r, hr⟩ : ∃ r, r = d % R := ⟨_, rfl⟩
      rw [← hr] at ht b1 b2 ⊢
      have hwr : IntKind.i64.wrap r = r := by rw [IntKind.wrap_i64]; omega
      clear E1 hd hr h1 hf hu
      by_cases h3 : 0 < r
      · rw [if_pos h3]
        go_enter Tryz.func56, Tryz.ntmps56
        go_wp2
        go_ret
        exact ⟨rfl, AL.out _⟩
      · rw [if_neg h3]
        go_enter Tryz.func56, Tryz.ntmps56
        go_wp2
        go_ret
        exact ⟨rfl, AL.out _⟩
    · rw [if_neg (fun h => h2 (E1.out.1 h))]
      have h2' : (n : Int) - first < m := by omega
      have hw : IntKind.i64.wrap ((n : Int) - first) = (n : Int) - first := by rw [IntKind.wrap_i64]; omega
      clear E1
      go_enter Tryz.func56, Tryz.ntmps56
      go_wp2
      go_ret
      exact ⟨rfl, AL.out _⟩
  · rw [if_neg (fun h : Grp n first least => h1 h.1)]
    generalize furR first further = R at *
    generalize max 1 least = m at *
    have h1' : first ≤ 0 := by omega
    go_enter Tryz.func56, Tryz.ntmps56
    go_wp2
    go_ret
    exact ⟨rfl, AL.out _⟩

set_option maxRecDepth 100000 in
set_option maxHeartbeats 2000000 in
theorem end_any (n a t : Nat) (first further least : Int) (w : World) (hn : n ≤ 100000) (ha : a ≤ n) (ht : t ≤ n) (hf : first ≤ 9223372036854775807) (hu : further ≤ 9223372036854775807) (he : endI n first further least a = (t : Int)) :
    Calls Tryz.prog 40 #[grpV first further least, .int .i64 (a : Int), .int .i64 (n : Int)] w fun e w' => e = .returned (.int .i64 (t : Int)) ∧ Below w.heap.size w w' := by
  obtain ⟨W, hW⟩ : ∃ W, W = w.alloc (.cells #[.int .i64 first, .int .i64 (furR first further), .int .i64 (max 1 least)] 69) := ⟨_, rfl⟩
  have BS := hide (show Blk W w.heap.size #[.int .i64 first, .int .i64 (furR first further), .int .i64 (max 1 least)] 69 by rw [hW]; exact Blk.newAt w w.heap.size rfl _ _)
  have BW : Hid (Below w.heap.size w W) := hide (by rw [hW]; exact (Below.refl _ _).alloc (Nat.le_refl _) _)
  have HW := hide hW.symm
  have HF := hide (foremost_any n first further least W hn hf hu)
  unfold endI at he
  clear hW
  by_cases h0 : a = 0
  · subst h0
    rw [if_pos rfl] at he
    rw [he] at HF
    unfold grpV at *
    generalize furR first further = R at *
    generalize max 1 least = m at *
    have c0 := BS.out.cell 0
    have c1 := BS.out.cell 1
    have c2 := BS.out.cell 2
    clear he
    go_enter Tryz.func40, Tryz.ntmps40
    go_wp2_with (simp only [HW.out])
    refine HF.out.mono ?_
    rintro e w1 ⟨rfl, hb1⟩
    have HB := hide (BW.out.trans (hb1.mono BW.out.size))
    clear hb1 c0 c1 c2
    go_wp2
    go_ret
    exact ⟨rfl, HB.out⟩
  · rw [if_neg h0] at he
    unfold grpV
    generalize furR first further = R at *
    generalize max 1 least = m at *
    have c0 := BS.out.cell 0
    have c1 := BS.out.cell 1
    have c2 := BS.out.cell 2
    have h0' : ((a : Int) == 0) = false := beq_eq_false_iff_ne.2 (by omega)
    have h0'' : ¬ (a : Int) = 0 := by omega
    clear HF
    by_cases h1 : first < (n : Int) - a
    · rw [if_pos h1] at he
      have hw : IntKind.i64.wrap ((a : Int) + R) = (t : Int) := by rw [IntKind.wrap_i64]; omega
      clear he
      go_enter Tryz.func40, Tryz.ntmps40
      go_wp2_with (simp only [HW.out])
      go_ret
      exact ⟨rfl, BW.out⟩
    · rw [if_neg h1] at he
      obtain rfl : n = t := by omega
      clear he
      go_enter Tryz.func40, Tryz.ntmps40
      go_wp2_with (simp only [HW.out])
      go_ret
      exact ⟨rfl, BW.out⟩

end Go.Proofs.YtionbkmbhhlmjaaGreatDoor

namespace Go.Proofs.YtionbkmbhhlmjaaGreatDoor
open Go.RowKit

def cellsG (b : Nat) : Nat → List Nat → List Value
  | _, [] => []
  | a, s :: t => .slice (some ⟨b, a, none⟩) s s :: cellsG b (a + s) t
theorem szG_len (n : Nat) (first further least : Int) : ∀ (f a : Nat) (L : List Nat), n - a ≤ f → Rem n first further least a L → L.length ≤ n - a
  | f, a, L, hf, h => by
    by_cases ha : a < n
    · obtain ⟨s, L', rfl, h1, h2, h3, h4, _⟩ := h.step ha
      cases f with
      | zero => omega
      | succ f =>
        have := szG_len n first further least f (a + s) L' (by omega) h4
        rw [List.length_cons]
        omega
    · have hle := h.1
      obtain rfl : a = n := by omega
      rw [h.done]
      simp
theorem Rem.len {n a : Nat} {first further least : Int} {L : List Nat} (h : Rem n first further least a L) : L.length ≤ n - a := szG_len n first further least (n - a) a L (Nat.le_refl _) h

theorem wpG_append {w : World} {ops : Array Oper} {rest : List Oper} {o : Oper} {a : Act} {Q : Exit → Act → World → Prop} (hgd : o.guard = none) (s x : Operand)
    (ho : o.op = .call { callee := .builtin .append, args := #[s, x], argTypes := #[67, 67] })
    (base : Nat) (v : Value) (n : Nat) (xs : List Value) (hs : a.eval s = v) (hown : w.ownsRow base 53 1 v n xs)
    (g : Nat) (r : Value) (h1c : r.oneCell' = true) (hx : a.eval x = .slice (some ⟨g, 0, none⟩) 1 1) (hsrc : Blk w g #[r] 53) (XS : List Value) (hX : xs ++ [r] = XS) (hb : (n + 1) * 24 ≤ 140737488355328) (hbase : base ≤ w.heap.size)
    (h : ∀ uo uc w', w'.ownsRow base 53 1 (.slice uo (n + 1) uc) (n + 1) XS → w.grownBy w' v.ownBlock → wpList Tryz.prog ops Q rest (a.put o.dst (.slice uo (n + 1) uc)) w') : wpList Tryz.prog ops Q (o :: rest) a w := by
  obtain ⟨i0, hi, hz0, hz1, hz2⟩ := info_parts infoLs
  subst hX
  refine wpList_append_own w hgd s x _ ho base _ i0 (.slice none 0 0) 1 24 Tryz.underlying67 hi hz0 hz1 hz2 rfl (by decide) v n xs hs hown ⟨g, 0, none⟩ 1 1 [r] hx rfl (fun j u hj => ?_) (fun u hu => ?_) (by unfold maxLen; omega) hb hbase (fun v' w' h3 h4 _ => ?_)
  · rw [Addr.add_lit, Nat.zero_add, hsrc.cell j]
    simpa using hj
  · rw [List.mem_singleton.1 hu]; exact h1c
  · obtain ⟨uo, uc, rfl⟩ := ownD_slice h3
    exact h uo uc w' h3 h4

set_option maxRecDepth 100000 in
set_option maxHeartbeats 4000000 in
theorem cutG_any (b n cap : Nat) (first further least : Int) (w : World) (hn : n ≤ 100000) (hc : n ≤ cap) (hf : first ≤ 9223372036854775807) (hu : further ≤ 9223372036854775807) :
    Calls Tryz.prog 31 #[grpV first further least, .slice (some ⟨b, 0, none⟩) n cap] w fun e w' => (∃ v, e = .returned v ∧ w'.ownsRow w.heap.size 53 1 v (szG n first further least).length (cellsG b 0 (szG n first further least))) ∧ Below w.heap.size w w' := by
  have R0 := hide (Rem.start n first further least)
  obtain ⟨L0, hL0⟩ : ∃ L0, L0 = szG n first further least := ⟨_, rfl⟩
  rw [← hL0] at R0 ⊢
  clear hL0
  have EN : Hid (∀ a t W, a ≤ n → t ≤ n → endI n first further least a = ((t : Nat) : Int) → Calls Tryz.prog 40 #[grpV first further least, .int .i64 ((a : Nat) : Int), .int .i64 (n : Int)] W fun e w' => e = .returned (.int .i64 ((t : Nat) : Int)) ∧ Below W.heap.size W w') := hide (fun a t W h1 h2 h3 => end_any n a t first further least W hn h1 h2 hf hu h3)
  obtain ⟨W, hW⟩ : ∃ W, W = w.alloc (.cells #[.int .i64 first, .int .i64 (furR first further), .int .i64 (max 1 least)] 69) := ⟨_, rfl⟩
  have BS0 := hide (show Blk W w.heap.size #[.int .i64 first, .int .i64 (furR first further), .int .i64 (max 1 least)] 69 by rw [hW]; exact Blk.newAt w w.heap.size rfl _ _)
  have BW : Hid (Below w.heap.size w W) := hide (by rw [hW]; exact (Below.refl _ _).alloc (Nat.le_refl _) _)
  have NW : W.heap.size = w.heap.size + 1 := by rw [hW]; simp
  have HW := hide hW.symm
  have ST : Hid (∀ a L, Rem n first further least a L → a < n → ∃ s L', L = s :: L' ∧ 0 < s ∧ a + s ≤ n ∧ endI n first further least a = ((a + s : Nat) : Int) ∧ Rem n first further least (a + s) L') := hide (fun a L h h' => by
    obtain ⟨s, L', h1, h2, h3, h4, h5, _⟩ := h.step h'
    exact ⟨s, L', h1, h2, h3, h4, h5⟩)
  have LEN : Hid (∀ a L, Rem n first further least a L → L.length ≤ n - a) := hide (fun a L h => Rem.len h)
  have DN : Hid (∀ L, Rem n first further least n L → L = []) := hide (fun L h => h.done)
  clear hW hf hu
  unfold grpV at *
  generalize furR first further = R at *
  generalize max 1 least = m at *
  have O0 : Hid (W.ownsRow (w.heap.size + 1) 53 1 (.slice none 0 0) 0 []) := hide (World.ownsRow_nil _ _ _ _)
  go_enter Tryz.func31, Tryz.ntmps31
  go_wp2_with (simp only [HW.out])
  go_loopw [5, 6] (fun x q wr => ∃ (a k : Nat) (uo : Option Addr) (uc : Nat) (L : List Nat) (xs : List Value), a ≤ n ∧ k ≤ a ∧ x = .slice uo k uc ∧ q = .int .i64 (a : Int) ∧ Hid (Rem n first further least a L ∧ xs ++ cellsG b a L = cellsG b 0 L0 ∧ k + L.length = L0.length) ∧ Hid (Blk wr w.heap.size #[.int .i64 first, .int .i64 R, .int .i64 m] 69) ∧ Hid (wr.ownsRow (w.heap.size + 1) 53 1 (.slice uo k uc) k xs) ∧ Hid (Below w.heap.size w wr)) (fun _ q _ => n - (intOf q).toNat)
  case atStart => exact ⟨0, 0, none, 0, L0, [], Nat.zero_le _, Nat.le_refl _, rfl, rfl, hide ⟨R0.out, rfl, by simp⟩, BS0, O0, BW⟩
  case round =>
    obtain ⟨a, k, uo, uc, L, xs, ha, hk, rfl, rfl, RM, BS, OW, BB⟩ := hrel
    by_cases hlt : a < n
    · obtain ⟨s, L', rfl, hs, hasn, hen, hrm⟩ := ST.out a L RM.out.1 hlt
      have HC := hide (EN.out a (a + s) wr ha hasn hen)
      obtain ⟨t, ht⟩ : ∃ t, t = a + s := ⟨_, rfl⟩
      rw [← ht] at HC hasn hrm
      have RM' : Hid (Rem n first further least t L' ∧ (xs ++ [.slice (some ⟨b, a, none⟩) s s]) ++ cellsG b t L' = cellsG b 0 L0 ∧ k + 1 + L'.length = L0.length) := hide ⟨hrm, by rw [← RM.out.2.1, List.append_assoc, cellsG, ht]; rfl, by have := RM.out.2.2; simp only [List.length_cons] at this; omega⟩
      have hts : t - a = s := by omega
      have hat : a ≤ t := by omega
      have hlt' : (a : Int) < (n : Int) := by omega
      have c0 := BS.out.cell 0
      have c1 := BS.out.cell 1
      have c2 := BS.out.cell 2
      clear hen hrm RM ST LEN DN R0 EN
      go_wp2_with fail
      refine HC.out.mono ?_
      rintro e w1 ⟨rfl, hb1⟩
      have BS1 := hide (BS.out.below hb1 BS.out.lt)
      have OW1 := hide (ownD_below OW.out hb1)
      have BB1 := hide (BB.out.trans (hb1.mono BB.out.size))
      clear hb1 BS OW BB c0 c1 c2 HC
      have BA : Hid (Below w1.heap.size w1 (w1.alloc (.cells #[.slice (some ⟨b, a, none⟩) s s] 53))) := hide ((Below.refl _ _).alloc (Nat.le_refl _) _)
      have SR := hide (Blk.newAt w1 w1.heap.size rfl #[.slice (some ⟨b, a, none⟩) s s] 53)
      have OA := hide (ownD_below OW1.out BA.out)
      have BBA := hide (BB1.out.trans (BA.out.mono BB1.out.size))
      have BASE : Hid (w.heap.size + 1 ≤ (w1.alloc (.cells #[.slice (some ⟨b, a, none⟩) s s] 53)).heap.size) := hide (by have := BA.out.size; have := BS1.out.lt; omega)
      go_wp2_with (at_builtin; refine wpG_append rfl _ _ rfl (w.heap.size + 1) (.slice uo k uc) k xs rfl OA.out w1.heap.size (.slice (some ⟨b, a, none⟩) s s) rfl rfl SR.out _ rfl (by omega) BASE.out ?_; intro uo2 uc2 w4 hown hgr)
      have S4 := hide ((BS1.out.below BA.out BS1.out.lt).grownD OA.out (Nat.lt_succ_self _) hgr)
      have B4 := hide (BBA.out.grown hgr BBA.out.size (fun q hq => Nat.le_of_succ_le (World.ownsRow.lt OA.out q hq).1))
      have O4 := hide hown
      exact ⟨⟨t, k + 1, uo2, uc2, L', _, hasn, by omega, rfl, by rw [ht]; rfl, RM', S4, O4, B4⟩, by simp [intOf]; omega⟩
    · obtain rfl : a = n := by omega
      have hlt' : ¬ (a : Int) < (a : Int) := by omega
      have E0 := DN.out L RM.out.1
      have EX : Hid (k = L0.length ∧ xs = cellsG b 0 L0) := hide (by
        obtain ⟨_, h1, h2⟩ := RM.out
        rw [E0] at h1 h2
        exact ⟨by simpa using h2, by simpa [cellsG] using h1⟩)
      clear E0 DN ST LEN RM hlt
      go_wp2
      go_ret
      refine ⟨⟨_, rfl, ?_⟩, BB.out⟩
      rw [← EX.out.1, ← EX.out.2]
      exact ownD_mono OW.out (Nat.le_succ _)

set_option maxHeartbeats 1000000 in
theorem cutG_nil (ao : Option Addr) (cap : Nat) (first further least : Int) (w : World) :
    Calls Tryz.prog 31 #[grpV first further least, .slice ao 0 cap] w fun e w' => e = .returned (.slice none 0 0) ∧ Below w.heap.size w w' := by
  have AL : Hid (∀ o, Below w.heap.size w (w.alloc o)) := hide fun o => (Below.refl _ _).alloc (Nat.le_refl _) _
  unfold grpV
  generalize furR first further = R
  generalize max 1 least = m
  go_enter Tryz.func31, Tryz.ntmps31
  go_wp2
  go_loopw [5, 6] (fun x q wr => x = .slice none 0 0 ∧ q = .int .i64 0 ∧ wr = w.alloc (.cells #[.int .i64 first, .int .i64 R, .int .i64 m] 69)) (fun _ _ _ => 0)
  case atStart => exact ⟨rfl, rfl, rfl⟩
  case round =>
    obtain ⟨rfl, rfl, rfl⟩ := hrel
    go_wp2
    go_ret
    exact ⟨rfl, AL.out _⟩

end Go.Proofs.YtionbkmbhhlmjaaGreatDoor

namespace Go.Proofs.YtionbkmbhhlmjaaGreatDoor
open Go.RowKit

def KD (w w' : World) : Prop := w.heap.size ≤ w'.heap.size ∧ ∀ (j : Nat) (cs : Array Value) (T : TypeId) (fz : Nat × Nat), w.heap[j]? = some (Obj.cells cs T fz) → T ≠ 50 → T ≠ 34 → w'.heap[j]? = w.heap[j]?
theorem KD.refl (w : World) : KD w w := ⟨Nat.le_refl _, fun _ _ _ _ _ _ _ => rfl⟩
theorem KD.trans {a b c : World} (h : KD a b) (k : KD b c) : KD a c := ⟨Nat.le_trans h.1 k.1, fun j cs T fz hj h1 h2 => by
  have e := h.2 j cs T fz hj h1 h2
  rw [k.2 j cs T fz (e.trans hj) h1 h2, e]⟩
theorem KD.below {w w' : World} (hb : Below w.heap.size w w') : KD w w' := ⟨hb.size, fun j _ _ _ hj _ _ => hb.block j (Array.getElem?_eq_some_iff.1 hj).1⟩
theorem KD.of {w w' : World} {D : Nat} {v : Value} {ps : List Pc} (h : RowV w D v ps) (ho : OthD D v.ownBlock w w') : KD w w' := ⟨ho.1, fun j cs T fz hj h1 h2 => by
  refine ho.2 j (Array.getElem?_eq_some_iff.1 hj).1 (fun e => ?_) (fun e => ?_)
  · subst e
    have q := h.1
    unfold Blk at q
    rw [q] at hj
    simp only [Option.some.injEq, Obj.cells.injEq] at hj
    exact h1 hj.2.1.symm
  · rcases h.2.2 with ⟨hv, _⟩ | ⟨g, cap, cur, hv, _, hg, _⟩
    · rw [hv] at e; simp [Value.ownBlock] at e
    · rw [hv] at e
      simp only [Value.ownBlock, Option.some.injEq] at e
      subst e
      rw [hg] at hj
      simp only [Option.some.injEq, Obj.cells.injEq] at hj
      exact h2 hj.2.1.symm⟩
theorem KD.own {w w' : World} {B n k : Nat} {e : TypeId} {v : Value} {xs : List Value} (h : KD w w') (ho : w.ownsRow B e k v n xs) (h1 : e ≠ 50) (h2 : e ≠ 34) : w'.ownsRow B e k v n xs := by
  refine ⟨ho.1, ?_⟩
  rcases ho.2 with q | ⟨g, cap, cur, hv, hb, hg, rest⟩
  · exact .inl q
  · exact .inr ⟨g, cap, cur, hv, hb, (h.2 g _ _ _ hg h1 h2).trans hg, rest⟩
theorem KD.blk {w w' : World} {b : Nat} {cs : Array Value} {T : TypeId} (h : KD w w') (hb : Blk w b cs T) (h1 : T ≠ 50) (h2 : T ≠ 34) : Blk w' b cs T := by
  unfold Blk at *
  exact (h.2 b _ _ _ hb h1 h2).trans hb

theorem cellsG_at (b : Nat) : ∀ (a i : Nat) (L L' : List Nat) (s : Nat), L.drop i = s :: L' → (cellsG b a L)[i]? = some (.slice (some ⟨b, a + (L.take i).sum, none⟩) s s)
  | a, 0, L, L', s, h => by
    rw [List.drop_zero] at h
    subst h
    simp [cellsG]
  | a, i + 1, [], L', s, h => by simp at h
  | a, i + 1, x :: L, L', s, h => by
    rw [List.drop_succ_cons] at h
    have q := cellsG_at b (a + x) i L L' s h
    rw [cellsG, List.getElem?_cons_succ, q, List.take_succ_cons, List.sum_cons, Nat.add_assoc]

theorem wrL_part (s : Sy) (ds : List UInt8) (a k : Nat) : (wrL s ((ds.drop a).take k)).length ≤ (wrL s ds).length := by
  have e : ds = ds.take a ++ ((ds.drop a).take k ++ (ds.drop a).drop k) := by rw [List.take_append_drop, List.take_append_drop]
  conv => rhs; rw [e, wrL_app, wrL_app]
  simp only [List.length_append]
  omega
theorem take_sum_le : ∀ (L : List Nat) (i : Nat), (L.take i).sum ≤ L.sum
  | [], i => by simp
  | x :: L, 0 => by simp
  | x :: L, i + 1 => by have := take_sum_le L i; rw [List.take_succ_cons, List.sum_cons, List.sum_cons]; omega

def leftP (s : Sy) (L : List Nat) (ds : List UInt8) (i : Nat) : List Pc := if i = 0 then intP s L ds else intT s (L.drop i) (ds.drop (L.take i).sum)
theorem leftP_end (s : Sy) (L : List Nat) (ds : List UInt8) : leftP s L ds L.length = [] := by
  unfold leftP
  split
  · rename_i h
    rw [List.eq_nil_of_length_eq_zero h]; rfl
  · rw [List.drop_length]; rfl
theorem leftP_step (s : Sy) (L : List Nat) (ds : List UInt8) (i : Nat) (h : i < L.length) : ∃ a sz, (cellsG 0 0 [] = cellsG 0 0 []) ∧ (∀ b, (cellsG b 0 L)[i]? = some (.slice (some ⟨b, a, none⟩) sz sz)) ∧ a + sz ≤ L.sum ∧ leftP s L ds i = (if i = 0 then [] else oneP s.grp 3) ++ (oneP (mkP (wrL s ((ds.drop a).take sz))) 2 ++ leftP s L ds (i + 1)) := by
  have hd : L.drop i = L[i] :: L.drop (i + 1) := List.drop_eq_getElem_cons h
  have hs : (L.take (i + 1)).sum = (L.take i).sum + L[i] := by
    rw [List.take_add_one, List.getElem?_eq_getElem h, List.sum_append]
    simp
  refine ⟨(L.take i).sum, L[i], rfl, fun b => by have := cellsG_at b 0 i L _ _ hd; rwa [Nat.zero_add] at this, by have := take_sum_le L (i + 1); omega, ?_⟩
  have e1 : leftP s L ds (i + 1) = intT s (L.drop (i + 1)) ((ds.drop (L.take i).sum).drop L[i]) := by
    unfold leftP
    rw [if_neg (by omega), hs, List.drop_drop]
  rw [e1]
  unfold leftP
  by_cases h0 : i = 0
  · subst h0
    rw [if_pos rfl, if_pos rfl, List.nil_append, List.take_zero]
    rw [List.drop_zero] at hd
    conv => lhs; rw [hd]
    rfl
  · rw [if_neg h0, if_neg h0, hd]
    rfl

set_option maxRecDepth 100000 in
set_option maxHeartbeats 4000000 in
theorem putGroups_some {w : World} {D : Nat} {v : Value} (ps : List Pc) (s : Sy) (ds : List UInt8) (L : List Nat) (bt ct gg gc Bt Bg : Nat) (h : RowV w D v ps) (hL : L.sum = ds.length) (hl : ds.length ≤ 100000) (hLn : L.length ≤ 100000) (hps : ps.length ≤ 100000) (hw : (wrL s ds).length ≤ 140737488355328)
    (hG : w.ownsRow Bg 53 1 (.slice (some ⟨gg, 0, none⟩) L.length gc) L.length (cellsG bt 0 L)) (hT : w.ownsRow Bt 9 1 (.slice (some ⟨bt, 0, none⟩) ds.length ct) ds.length (cellsD s ds)) :
    Calls Tryz.prog 29 #[.pointer (some ⟨D, 0, none⟩), .slice (some ⟨gg, 0, none⟩) L.length gc, .string s.grp] w fun e w' => e = .returned (.tuple #[]) ∧ (∃ v', RowV w' D v' (ps ++ intP s L ds)) ∧ Below D w w' ∧ KD w w' := by
  have hgc : L.length ≤ gc := by
    rcases hG.2 with ⟨q, _⟩ | ⟨g, cap, cur, q, _, _, q2, _⟩
    · cases q
    · cases q; exact q2
  have STP : Hid (∀ i, i < L.length → ∃ a sz, (∀ b, (cellsG b 0 L)[i]? = some (.slice (some ⟨b, a, none⟩) sz sz)) ∧ a + sz ≤ ds.length ∧ leftP s L ds i = (if i = 0 then [] else oneP s.grp 3) ++ (oneP (mkP (wrL s ((ds.drop a).take sz))) 2 ++ leftP s L ds (i + 1))) := hide (fun i hi => by
    obtain ⟨a, sz, _, h1, h2, h3⟩ := leftP_step s L ds i hi
    exact ⟨a, sz, h1, by omega, h3⟩)
  have EN : Hid (leftP s L ds L.length = []) := hide (leftP_end s L ds)
  have BG : Hid (leftP s L ds 0 = intP s L ds) := hide (by unfold leftP; rw [if_pos rfl])
  have WP : Hid (∀ a k, (wrL s ((ds.drop a).take k)).length ≤ 140737488355328) := hide (fun a k => Nat.le_trans (wrL_part s ds a k) hw)
  have HG := hide hG
  have HT := hide hT
  obtain ⟨N, hN⟩ : ∃ N, N = L.length := ⟨_, rfl⟩
  obtain ⟨sep, hsep⟩ : ∃ sep, sep = s.grp := ⟨_, rfl⟩
  obtain ⟨T, hTt⟩ : ∃ T, T = ps ++ intP s L ds := ⟨_, rfl⟩
  have TB : Hid (ps ++ leftP s L ds 0 = T) := hide (by rw [BG.out, hTt])
  rw [← hN] at HG EN STP hLn hgc ⊢
  rw [← hsep] at STP ⊢
  rw [← hTt]
  have R0 := hide h
  have CJ : Hid (∀ a sz wr, a + sz ≤ ds.length → KD w wr → Calls Tryz.prog 22 #[.slice (some ⟨bt, a, none⟩) sz sz] wr fun e w' => e = .returned (.string (mkP (wrL s ((ds.drop a).take sz)))) ∧ Below wr.heap.size wr w') := hide (fun a sz wr h1 hk => by
    have ho := hk.own HT.out (by decide) (by decide)
    refine joined_at bt a sz sz s _ wr (by rw [List.length_take, List.length_drop]; omega) (fun j c hj => ?_) (World.ownsRow.lt ho bt rfl).2 (by omega) (Nat.le_refl _) (WP.out a sz)
    have hlt : j < sz := by
      have := (List.getElem?_eq_some_iff.1 hj).1
      rw [List.length_take, List.length_drop] at this
      omega
    rw [List.getElem?_take_of_lt hlt, List.getElem?_drop] at hj
    rw [ho.cellAt (a + j) (by omega)]
    unfold cellsD
    rw [List.getElem?_map, hj]
    rfl)
  have GA : Hid (∀ i wr x, KD w wr → i < N → (cellsG bt 0 L)[i]? = some x → wr.cell? ⟨gg, i, none⟩ = some x) := hide (fun i wr x hk h1 h2 => by
    have ho := hk.own HG.out (by decide) (by decide)
    rw [ho.cellAt i (by omega)]
    exact h2)
  clear hN hsep hTt BG hG hT h HT HG WP hw
  go_enter Tryz.func29, Tryz.ntmps29
  go_wp2
  go_loopw [10] (fun q wr => ∃ (i : Nat) (v' : Value) (acc : List Pc), i ≤ N ∧ q = .int .i64 (i : Int) ∧ acc.length ≤ ps.length + 2 * i ∧ Hid (RowV wr D v' acc ∧ acc ++ leftP s L ds i = T) ∧ Hid (Below D w wr ∧ KD w wr)) (fun q _ => N - (intOf q).toNat)
  case atStart => exact ⟨0, v, ps, Nat.zero_le _, rfl, Nat.le_refl _, hide ⟨R0.out, TB.out⟩, hide ⟨Below.refl _ _, KD.refl _⟩⟩
  case round =>
    obtain ⟨i, v', acc, hi, rfl, hacc, RA, BB⟩ := hrel
    by_cases hlt : i < N
    · obtain ⟨a, sz, h1, h2, h3⟩ := STP.out i hlt
      have cg := GA.out i wr _ BB.out.2 hlt (h1 bt)
      rcases Nat.eq_zero_or_pos i with rfl | h0
      · rw [if_pos rfl, List.nil_append] at h3
        have hlt' : (0 : Int) < (N : Int) := by omega
        have CC := hide (CJ.out a sz wr h2 BB.out.2)
        obtain ⟨g, hg⟩ : ∃ g, g = mkP (wrL s ((ds.drop a).take sz)) := ⟨_, rfl⟩
        rw [← hg] at h3 CC
        have RT : Hid ((acc ++ oneP g 2) ++ leftP s L ds (0 + 1) = T) := hide (by rw [← RA.out.2, h3, List.append_assoc])
        clear h1 h3 STP EN GA TB R0 hg CJ
        rw [show ((0 : Nat) : Int) = 0 from rfl]
        go_wp2_with fail
        refine CC.out.mono ?_
        rintro e w1 ⟨rfl, hb1⟩
        have R1 := hide (RA.out.1.below hb1)
        have HP := hide (put_any acc g 2 R1.out (by omega))
        have B1 : Hid (Below D w w1 ∧ KD w w1) := hide ⟨BB.out.1.trans (hb1.mono (Nat.le_of_lt RA.out.1.1.lt)), BB.out.2.trans (KD.below hb1)⟩
        clear hb1 CC BB RA
        go_wp2_with fail
        refine HP.out.mono ?_
        rintro e w2 ⟨rfl, ⟨v2, hv2⟩, hb2, ho2⟩
        have R2 := hide hv2
        have B2 : Hid (Below D w w2 ∧ KD w w2) := hide ⟨B1.out.1.trans hb2, B1.out.2.trans (KD.of R1.out ho2)⟩
        clear hv2 hb2 ho2 HP B1 R1
        go_wp2
        exact ⟨⟨0 + 1, v2, acc ++ oneP g 2, by omega, by go_num, by have := oneP_len g 2; rw [List.length_append]; omega, hide ⟨R2.out, RT.out⟩, B2⟩, by simp [intOf]; omega⟩
      · rw [if_neg (by omega)] at h3
        have hlt' : (i : Int) < (N : Int) := by omega
        have h0' : (0 : Int) < (i : Int) := by omega
        obtain ⟨g, hg⟩ : ∃ g, g = mkP (wrL s ((ds.drop a).take sz)) := ⟨_, rfl⟩
        rw [← hg] at h3
        have CC : Hid (∀ X, KD w X → Calls Tryz.prog 22 #[.slice (some ⟨bt, a, none⟩) sz sz] X fun e w' => e = .returned (.string g) ∧ Below X.heap.size X w') := hide (fun X hX => by have := CJ.out a sz X h2 hX; rwa [← hg] at this)
        have RT : Hid (((acc ++ oneP sep 3) ++ oneP g 2) ++ leftP s L ds (i + 1) = T) := hide (by rw [← RA.out.2, h3]; simp only [List.append_assoc])
        have HS := hide (put_any acc sep 3 RA.out.1 (by omega))
        clear h1 h3 STP EN GA TB R0 hg CJ
        go_wp2_with fail
        refine HS.out.mono ?_
        rintro e w1 ⟨rfl, ⟨v1, hv1⟩, hb1, ho1⟩
        have R1 := hide hv1
        have B1 : Hid (Below D w w1 ∧ KD w w1) := hide ⟨BB.out.1.trans hb1, BB.out.2.trans (KD.of RA.out.1 ho1)⟩
        have CC1 := hide (CC.out w1 B1.out.2)
        clear hv1 hb1 ho1 HS CC BB RA
        go_wp2_with fail
        refine CC1.out.mono ?_
        rintro e w2 ⟨rfl, hb2⟩
        have R2 := hide (R1.out.below hb2)
        have HP := hide (put_any (acc ++ oneP sep 3) g 2 R2.out (by have := oneP_len sep 3; rw [List.length_append]; omega))
        have B2 : Hid (Below D w w2 ∧ KD w w2) := hide ⟨B1.out.1.trans (hb2.mono (Nat.le_of_lt R1.out.1.lt)), B1.out.2.trans (KD.below hb2)⟩
        clear hb2 CC1 B1 R1
        go_wp2_with fail
        refine HP.out.mono ?_
        rintro e w3 ⟨rfl, ⟨v3, hv3⟩, hb3, ho3⟩
        have R3 := hide hv3
        have B3 : Hid (Below D w w3 ∧ KD w w3) := hide ⟨B2.out.1.trans hb3, B2.out.2.trans (KD.of R2.out ho3)⟩
        clear hv3 hb3 ho3 HP B2 R2
        go_wp2
        exact ⟨⟨i + 1, v3, acc ++ oneP sep 3 ++ oneP g 2, by omega, by go_num, by have := oneP_len g 2; have := oneP_len sep 3; simp only [List.length_append]; omega, hide ⟨R3.out, RT.out⟩, B3⟩, by simp [intOf]; omega⟩
    · obtain rfl : i = N := by omega
      have hlt' : ¬ (i : Int) < (i : Int) := by omega
      have EX : Hid (acc = T) := hide (by have := RA.out.2; rw [EN.out, List.append_nil] at this; exact this)
      clear STP EN GA CJ TB R0
      go_wp2
      go_end0
      refine ⟨rfl, ⟨v', ?_⟩, BB.out⟩
      rw [← EX.out]
      exact RA.out.1

end Go.Proofs.YtionbkmbhhlmjaaGreatDoor

namespace Go.Proofs.YtionbkmbhhlmjaaGreatDoor
open Go.RowKit

def Ob (base : Nat) (X : World) (v : Value) (ys : List Nat) : Prop :=
  ∃ g cap cur fz, v = .slice (some ⟨g, 0, none⟩) ys.length cap ∧ base ≤ g ∧ X.heap[g]? = some (.cells cur 5 fz) ∧ (fz = (0, 0) ∨ cap ≤ fz.1) ∧ ys.length ≤ cap ∧ cur.size = cap ∧ cur.toList.take ys.length = vals .u8 ys

theorem Ob.cells {base : Nat} {X : World} {g n cap : Nat} {ys : List Nat} (h : Ob base X (.slice (some ⟨g, 0, none⟩) n cap) ys) : n = ys.length ∧ base ≤ g ∧ g < X.heap.size ∧ n ≤ cap ∧ ∀ i, i < ys.length → X.cell? ⟨g, i, none⟩ = some (.int .u8 ((ys[i]?.getD 0 : Nat) : Int)) := by
  obtain ⟨g', cap', cur, fz, hv, hg1, hh, hf, hn, hsz, ht⟩ := h
  simp only [Value.slice.injEq, Option.some.injEq, Addr.mk.injEq] at hv
  obtain ⟨⟨rfl, _, _⟩, rfl, rfl⟩ := hv
  refine ⟨rfl, hg1, lt_of_block hh, hn, fun i hi => ?_⟩
  have hc : cur[i]? = (vals .u8 ys)[i]? := by rw [← ht, List.getElem?_take_of_lt hi, Array.getElem?_toList]
  simp only [World.cell?, hh, Option.isSome_none, Bool.false_eq_true, if_false, hc]
  simp [vals, hi]

theorem Ob.lt {base : Nat} {X : World} {v : Value} {ys : List Nat} (h : Ob base X v ys) : ∀ g, v.ownBlock = some g → base ≤ g ∧ g < X.heap.size := by
  obtain ⟨g, cap, cur, fz, rfl, hg1, hh, hr⟩ := h
  intro k hk
  simp only [Value.ownBlock, Option.some.injEq] at hk
  subst hk
  exact ⟨hg1, lt_of_block hh⟩

end Go.Proofs.YtionbkmbhhlmjaaGreatDoor

namespace Go.Proofs.YtionbkmbhhlmjaaGreatDoor
open Go.RowKit

theorem strB_of (l : List UInt8) : strOfNums ((l.map UInt8.toNat).map fun (x : Nat) => (x : Int)) = ⟨l.toArray⟩ := by
  apply ByteArray.ext
  apply Array.toList_inj.1
  rw [strOfNums_data, List.map_map, List.map_map]
  show _ = l
  conv => rhs; rw [← List.map_id l]
  apply List.map_congr_left
  intro x _
  simp

theorem Tryz.infoBz : (Tryz.prog.info? 5).map (fun i => (i.zero, i.size, i.bytes)) = some (some (.int .u8 0), 1, 1) := by kernel_rfl

theorem convB_at {X : World} {g o cap : Nat} {l : List UInt8} (h : ∀ i, i < l.length → X.cell? ⟨g, o + i, none⟩ = some (.int .u8 ((byt l i : Nat) : Int))) : (convert 60 9 (.slice (some ⟨g, o, none⟩) l.length cap)).run Tryz.prog X = .ok (.string ⟨l.toArray⟩) X := by
  have kc := run_convert_bytes_arg (P := Tryz.prog) X 60 5 Tryz.underlying60 Tryz.underlying5 g o l.length cap ((l.map UInt8.toNat).map fun (x : Nat) => (x : Int)) (by rw [List.length_map, List.length_map]) (fun i hi => by
    rw [h i hi]
    unfold byt
    simp [List.getD, hi]) 9 Tryz.underlying9
  rw [strB_of] at kc
  exact kc

theorem convB_ob {base : Nat} {X : World} {v : Value} {l : List UInt8} (h : Ob base X v (l.map UInt8.toNat)) : (convert 60 9 v).run Tryz.prog X = .ok (.string ⟨l.toArray⟩) X := by
  obtain ⟨g, cap, cur, fz, rfl, hr⟩ := id h
  obtain ⟨_, _, _, _, hc⟩ := h.cells
  rw [List.length_map] at hc ⊢
  refine convB_at fun i hi => ?_
  rw [Nat.zero_add, hc i hi]
  unfold byt
  simp [hi]

end Go.Proofs.YtionbkmbhhlmjaaGreatDoor

namespace Go.Proofs.YtionbkmbhhlmjaaGreatDoor
open Go.RowKit Go.Lib

theorem run_storeCells_atG (P : Program) (g o : Nat) (t : TypeId) (fz : Nat × Nat) : ∀ (vs : List Value) (i : Nat) (cur : Array Value) (w : World), w.heap[g]? = some (.cells cur t fz) → (fz = (0, 0) ∨ o + i + vs.length ≤ fz.1) → o + i + vs.length ≤ cur.size → (∀ v ∈ vs, v.oneCell' = true) →
    (storeCells ⟨g, o, none⟩ vs i).run P w = .ok () (w.setRow g (cur.toList.take (o + i) ++ vs ++ cur.toList.drop (o + i + vs.length)).toArray)
  | [], i, cur, w, hg, _, _, _ => by
    simp only [storeCells, List.append_nil, List.length_nil, Nat.add_zero, List.take_append_drop, Array.toArray_toList]
    rw [setRow_self w g cur t fz hg]
    rfl
  | v :: rest, i, cur, w, hg, hfz, hl, h1 => by
    have hi : o + i < cur.size := by simp at hl; omega
    have hadd : (⟨g, o, none⟩ : Addr).add i = ⟨g, o + i, none⟩ := by unfold Addr.add; split <;> simp_all
    have hcell : w.cell? ⟨g, o + i, none⟩ = some cur[o + i] := by simp [World.cell?, hg, hi]
    have hfro : w.frozen? ⟨g, o + i, none⟩ = false := by
      obtain ⟨lo, hi'⟩ := fz
      simp only [World.frozen?, hg, Bool.and_eq_false_iff, decide_eq_false_iff_not]
      rcases hfz with q | q
      · simp only [Prod.mk.injEq] at q
        right
        omega
      · left
        simp only [List.length_cons] at q
        omega
    have hst : (store ((⟨g, o, none⟩ : Addr).add i) v).run P w = .ok () (w.setRow g (cur.setIfInBounds (o + i) v)) := by
      rw [hadd, run_store P w _ v _ (h1 v (by simp)), hcell]
      simp [hfro, setCell_eq_setRow w g (o + i) cur t fz v hg]
    have ih := run_storeCells_atG P g o t fz rest (i + 1) (cur.setIfInBounds (o + i) v) (w.setRow g (cur.setIfInBounds (o + i) v)) (setRow_heap w g cur _ t _ hg) (by
      rcases hfz with q | q
      · exact .inl q
      · right; simp only [List.length_cons] at q; omega) (by simp at hl ⊢; omega) (fun x hx => h1 x (by simp [hx]))
    simp only [storeCells, Sem.run_bind, hst, Result.andThen_ok, ih, setRow_setRow]
    congr 3
    have e := list_seg_step cur.toList (o + i) v rest (by simp at hl ⊢; omega)
    simpa [Array.toList_setIfInBounds, Nat.add_assoc] using e

theorem strCells_vals (s : ByteArray) : strCells s = vals .u8 ((bys s).map UInt8.toNat) := by
  unfold strCells vals bys
  rw [List.map_map]
  rfl

theorem appendS_ob {P : Program} {base : Nat} (X : World) {ops : Array Oper} {rest : List Oper} {o : Oper} {a : Act} {Q : Exit → Act → World → Prop}
    (hgd : o.guard = none) (s x : Operand) (t u : TypeId) (hop : o.op = Op.call { callee := Callee.builtin Builtin.append, args := #[s, x], argTypes := #[t, u] })
    (i : TypeInfo) (ht : P.underlying t = some (.slice 5)) (hu : P.underlying u = some .string) (hi : P.info? 5 = some i) (hz : i.zero = some (.int .u8 0)) (h4 : i.size = 1) (h5 : i.bytes = 1)
    (v : Value) (ys : List Nat) (hs : a.eval s = v) (hob : Ob base X v ys) (tx : ByteArray) (hx : a.eval x = .string tx) (hn : ys.length + tx.size ≤ 100000000000) (hbase : base ≤ X.heap.size)
    (h : ∀ v' w', Ob base w' v' (ys ++ (bys tx).map UInt8.toNat) → X.grownBy w' v.ownBlock → wpList P ops Q rest (a.put o.dst v') w') : wpList P ops Q (o :: rest) a X := by
  obtain ⟨g, cap, cur, fz, rfl, hg1, hh, hf, hl, hsz, htk⟩ := hob
  have hvl : (vals .u8 ys).length = ys.length := by simp [vals]
  have hsl : ((bys tx).map UInt8.toNat).length = tx.size := by rw [List.length_map, bys_len]
  have hval : vals .u8 (ys ++ (bys tx).map UInt8.toNat) = vals .u8 ys ++ strCells tx := by rw [strCells_vals]; simp [vals]
  have run : ∀ v' w', (Builtin.append_ #[t, u] o.type #[.slice (some ⟨g, 0, none⟩) ys.length cap, .string tx]).run P X = .ok v' w' → Ob base w' v' (ys ++ (bys tx).map UInt8.toNat) → X.grownBy w' (some g) → wpList P ops Q (o :: rest) a X := fun v' w' hr h2 h3 => by
    refine wpList_plain hgd fun K hK => ?_
    unfold Oper.wp execOp
    simp only [hop, resolve, invoke, builtin, Sem.run_bind, Sem.run_pure, Result.andThen_ok, List.map_toArray, List.map_cons, List.map_nil, hs, hx, hr]
    exact hK _ _ (h v' w' h2 h3)
  by_cases hroom : ys.length + tx.size ≤ cap
  · have hf0 := run_firstCells_string (P := P) X 1 tx
    have hst := run_storeCells_atG P g ys.length 5 fz (strCells tx) 0 cur X hh (by
      rcases hf with q | q
      · exact .inl q
      · right; rw [strCells_length]; omega) (by rw [strCells_length]; omega) (strCells_oneCell tx)
    simp only [Nat.add_zero, strCells_length] at hst
    refine run (.slice (some ⟨g, 0, none⟩) (ys.length + tx.size) cap) (X.setRow g (cur.toList.take ys.length ++ strCells tx ++ cur.toList.drop (ys.length + tx.size)).toArray) ?_ ?_ ?_
    · simp [Builtin.append_, run_underlying ht, run_underlying hu, sizeOf, typeInfo, hi, h4, Builtin.lenOf, hroom, hf0, Addr.add_lit, hst]
    · refine ⟨g, cap, _, fz, by rw [List.length_append, hsl], hg1, setRow_heap X g cur _ 5 _ hh, hf, by rw [List.length_append, hsl]; exact hroom, ?_, ?_⟩
      · simp only [List.size_toArray, List.length_append, List.length_take, List.length_drop, Array.length_toList, strCells_length]
        omega
      · rw [hval, htk, List.length_append, hsl]
        simp only []
        have e : ys.length + tx.size = (vals .u8 ys ++ strCells tx).length := by rw [List.length_append, hvl, strCells_length]
        rw [e]
        exact List.take_left
    · exact ⟨rfl, rfl, rfl, by simp, fun k _ hk => setRow_other X g k _ (fun e => hk (by simp [e]))⟩
  · have holds : ∀ j w', (vals .u8 ys)[j]? = some w' → X.cell? ((⟨g, 0, none⟩ : Addr).add j) = some w' := fun j w' hj => by
      have hjl : j < ys.length := by
        rw [← hvl]
        exact (List.getElem?_eq_some_iff.1 hj).1
      have hc : cur[j]? = (vals .u8 ys)[j]? := by rw [← htk, List.getElem?_take_of_lt hjl, Array.getElem?_toList]
      rw [Addr.add_lit, Nat.zero_add]
      simp only [World.cell?, hh, Option.isSome_none, Bool.false_eq_true, if_false, hc, hj]
    have hr := run_append_grow_string (P := P) X t u o.type 5 i (.int .u8 0) ht hu hi hz ⟨g, 0, none⟩ ys.length cap (vals .u8 ys) (by rw [h4, hvl, Nat.mul_one]) holds tx (by omega) (by omega) (by rw [h5]; exact growslice_fits (by omega) (by omega))
    have hge := grownCap_ge X (ys.length + tx.size) cap 5
    refine run _ _ hr ⟨X.heap.size, _, _, (0, 0), by rw [List.length_append, hsl], hbase, heap_alloc_new X.drew _, .inl rfl, by rw [List.length_append, hsl]; exact hge, ?_, ?_⟩ ⟨rfl, rfl, rfl, by simp, fun k hk _ => heap_alloc_old X.drew _ hk⟩
    · have hz1 : (Value.int IntKind.u8 0).cells.size = 1 := rfl
      simp only [Array.size_append, List.size_toArray, size_zeroCells, hz1, hvl, strCells_length]
      omega
    · rw [hval, List.length_append, hsl]
      simp only [Array.toList_append, List.append_assoc]
      have e : ys.length + tx.size = (vals .u8 ys ++ strCells tx).length := by rw [List.length_append, hvl, strCells_length]
      rw [e, ← List.append_assoc]
      exact List.take_left

end Go.Proofs.YtionbkmbhhlmjaaGreatDoor

namespace Go.Proofs.YtionbkmbhhlmjaaGreatDoor
open Go.RowKit

set_option maxRecDepth 100000 in
set_option maxHeartbeats 4000000 in
theorem raddP_more {w : World} {B : Nat} {v : Value} (ps : List Pc) (t : ByteArray) (f : Int) (h : w.ownsRow B 34 2 v ps.length (cellsP ps)) (hB : B ≤ w.heap.size) (hp : ps.length ≤ 1000000) (ht : t.size ≠ 0) :
    Calls Tryz.prog 19 #[v, .string t, .int .i64 f] w fun e w' => (∃ v', e = .returned v' ∧ w'.ownsRow B 34 2 v' (ps ++ [(⟨t, f⟩ : Pc)]).length (cellsP (ps ++ [(⟨t, f⟩ : Pc)]))) ∧ Below B w w' := by
  obtain ⟨ao, cap, rfl⟩ := ownD_slice h
  obtain ⟨n, hn⟩ : ∃ n, n = ps.length := ⟨_, rfl⟩
  obtain ⟨xs, hxs⟩ : ∃ xs, xs = cellsP ps := ⟨_, rfl⟩
  rw [← hn] at hp h ⊢
  rw [← hxs] at h
  have i1 := tlD_ne ht
  have i2 := tlD_ie ht
  have i3 := tlD_nb ht
  have BA : Hid (Below w.heap.size w (w.alloc (.cells #[.string t, .int .i64 f] 34))) := hide ((Below.refl _ _).alloc (Nat.le_refl _) _)
  have OW : Hid ((w.alloc (.cells #[.string t, .int .i64 f] 34)).ownsRow B 34 2 (.slice ao n cap) n xs) := hide (ownD_below h BA.out)
  have TB : Hid (Blk (w.alloc (.cells #[.string t, .int .i64 f] 34)) w.heap.size #[.string t, .int .i64 f] 34) := hide (Blk.newAt w w.heap.size rfl _ _)
  have BASE : Hid (B ≤ (w.alloc (.cells #[.string t, .int .i64 f] 34)).heap.size) := hide (by have := BA.out.size; omega)
  have FR : Hid (∀ w4, (w.alloc (.cells #[.string t, .int .i64 f] 34)).grownBy w4 (Value.slice ao n cap).ownBlock → Below B w w4) := hide (fun w4 hg => (BA.out.mono hB).grown hg BASE.out (fun q hq => (World.ownsRow.lt OW.out q hq).1))
  have G4 : Hid (n + 1 = (ps ++ [(⟨t, f⟩ : Pc)]).length) := hide (by rw [hn]; simp)
  have G5 : Hid (xs ++ [.string t, .int .i64 f] = cellsP (ps ++ [(⟨t, f⟩ : Pc)])) := hide (by rw [hxs, cellsP_app]; rfl)
  clear h BA hn hxs ht
  go_enter Tryz.func19, Tryz.ntmps19
  go_wp2_with (at_builtin; refine wpP_append rfl _ _ _ rfl Tryz.underlying29 B (.slice ao n cap) n xs rfl OW.out w.heap.size t f rfl TB.out _ G5.out (by omega) BASE.out ?_; intro uo uc w4 hown hgr)
  have BL := FR.out w4 hgr
  go_ret
  exact ⟨⟨_, rfl, by rw [← G4.out]; exact hown⟩, BL⟩

set_option maxHeartbeats 1000000 in
theorem raddP_none (a : Value) (f : Int) (w : World) : Calls Tryz.prog 19 #[a, .string ⟨#[]⟩, .int .i64 f] w fun e w' => e = .returned a ∧ w' = w := by
  go_enter Tryz.func19, Tryz.ntmps19
  go_wp2
  go_ret
  exact ⟨rfl, rfl⟩

theorem raddP_any {w : World} {B : Nat} {v : Value} (ps : List Pc) (t : ByteArray) (f : Int) (h : w.ownsRow B 34 2 v ps.length (cellsP ps)) (hB : B ≤ w.heap.size) (hp : ps.length ≤ 1000000) :
    Calls Tryz.prog 19 #[v, .string t, .int .i64 f] w fun e w' => (∃ v', e = .returned v' ∧ w'.ownsRow B 34 2 v' (ps ++ oneP t f).length (cellsP (ps ++ oneP t f))) ∧ Below B w w' := by
  unfold oneP
  by_cases ht : t.size = 0
  · rw [if_pos ht, List.append_nil, emptyD ht]
    refine (raddP_none _ f w).mono ?_
    rintro e w' ⟨h1, rfl⟩
    exact ⟨⟨v, h1, h⟩, Below.refl _ _⟩
  · rw [if_neg ht]
    exact raddP_more ps t f h hB hp ht

set_option maxRecDepth 100000 in
set_option maxHeartbeats 4000000 in
theorem rWrite_any (ds : ByteArray) (s : Sy) (w : World) (hd : DigB (bys ds)) (hn : ds.size ≤ 100000) (hl : (wrL s (bys ds)).length ≤ 100000000000) :
    Calls Tryz.prog 17 #[.string ds, symV s] w fun e w' => e = .returned (.string (mkP (wrL s (bys ds)))) ∧ Below w.heap.size w w' := by
  have HD : Hid (∀ k, k < ds.size → ∃ q, q < 10 ∧ (∀ h : k < ds.size, ds[k].toNat = 48 + q) ∧ (bys ds)[k]? = some (UInt8.ofNat (48 + q)) ∧ digT s (UInt8.ofNat (48 + q)) = s.dig q) := hide (fun k hk => by
    obtain ⟨q, h1, h2, c, h3, h4⟩ := digB_at hd k (by rw [bys_len]; exact hk)
    have hc : c = UInt8.ofNat (48 + q) := by rw [← h4]; simp
    refine ⟨q, h1, fun h => by rw [byt_get ds k h, h2], by rw [h3, hc], ?_⟩
    unfold digT
    rw [← hc, h4]
    congr 1
    omega)
  obtain ⟨i0, hi, hz0, hz1, hz2⟩ := info_parts Tryz.infoBz
  have WL : Hid (∀ k, (wrL s ((bys ds).take k)).length ≤ 100000000000) := hide (fun k => by
    have := wrL_part s (bys ds) 0 k
    rw [List.drop_zero] at this
    omega)
  obtain ⟨SC, hSC⟩ : ∃ SC, SC = symC s := ⟨_, rfl⟩
  have CD : Hid (∀ q, q < 10 → SC[q]? = some (.string (s.dig q))) := hide (fun q h => by rw [hSC]; exact symC_dig s q h)
  obtain ⟨W, hW⟩ : ∃ W, W = w.alloc (.cells SC 26) := ⟨_, rfl⟩
  have BS0 := hide (show Blk W w.heap.size SC 26 by rw [hW]; exact Blk.newAt w w.heap.size rfl _ _)
  have BW : Below w.heap.size w W ∧ W.heap.size = w.heap.size + 1 := by rw [hW]; exact ⟨(Below.refl _ _).alloc (Nat.le_refl _) _, by simp⟩
  obtain ⟨W2, hW2⟩ : ∃ W2, W2 = W.alloc (.cells #[] 5) := ⟨_, rfl⟩
  have B12 : Below W.heap.size W W2 := by rw [hW2]; exact (Below.refl _ _).alloc (Nat.le_refl _) _
  have BS2 := Blk.on BS0 B12
  have O2 : Hid (Ob (w.heap.size + 1) W2 (.slice (some ⟨W.heap.size, 0, none⟩) 0 0) ((wrL s ((bys ds).take 0)).map UInt8.toNat)) := hide (by
    rw [hW2]
    exact ⟨W.heap.size, 0, #[], (0, 0), rfl, by omega, heap_alloc_new _ _, .inl rfl, Nat.le_refl _, rfl, rfl⟩)
  have BB2 := hide (BW.1.trans (B12.mono BW.1.size))
  have HW := hide hW.symm
  have HW2 := hide hW2.symm
  have EV : symV s = .agg SC := by rw [hSC]; rfl
  rw [EV]
  clear hW hW2 BW B12 BS0 EV hSC hd hl
  go_enter Tryz.func17, Tryz.ntmps17
  go_wp2_with (first | simp only [HW.out] | simp only [HW2.out])
  go_loopw [5, 6] (fun x q wr => ∃ k : Nat, k ≤ ds.size ∧ q = .int .i64 (k : Int) ∧ Hid (Blk wr w.heap.size SC 26) ∧ Hid (Ob (w.heap.size + 1) wr x ((wrL s ((bys ds).take k)).map UInt8.toNat)) ∧ Hid (Below w.heap.size w wr)) (fun _ q _ => ds.size - (intOf q).toNat)
  case atStart => exact ⟨0, Nat.zero_le _, rfl, BS2, O2, BB2⟩
  case round =>
    rename_i x _ wr
    obtain ⟨k, hk, rfl, BS, OB, BB⟩ := hrel
    by_cases hlt : k < ds.size
    · obtain ⟨q, hq, hc, hcs, hdg⟩ := HD.out k hlt
      have hc' := hc hlt
      obtain ⟨x, hx⟩ : ∃ x, x = s.dig q := ⟨_, rfl⟩
      have cq : wr.cell? ⟨w.heap.size, q, none⟩ = some (.string x) := by rw [BS.out.cell q, CD.out q hq, hx]
      have q10 : (q : Int) < 10 := by omega
      have hlt' : (k : Int) < (ds.size : Int) := by omega
      have hwr : IntKind.u8.wrap (((48 + q : Nat) : Int) - 48) = (q : Int) := by rw [IntKind.wrap_u8]; omega
      have E1 : wrL s ((bys ds).take (k + 1)) = wrL s ((bys ds).take k) ++ bys x := by
        rw [List.take_add_one, hcs, wrL_app, hx, ← hdg]
        simp [wrL]
      have EX : Hid ((wrL s ((bys ds).take k)).map UInt8.toNat ++ (bys x).map UInt8.toNat = (wrL s ((bys ds).take (k + 1))).map UInt8.toNat) := hide (by rw [E1, List.map_append])
      have LN : Hid ((wrL s ((bys ds).take k)).length + x.size ≤ 100000000000) := hide (by
        have := WL.out (k + 1)
        rw [E1, List.length_append, bys_len] at this
        exact this)
      have BASE : Hid (w.heap.size + 1 ≤ wr.heap.size) := hide BS.out.lt
      clear hx E1 HD hcs hdg hc WL CD HW HW2 O2 BS2 BB2
      go_wp2_with (at_builtin; refine appendS_ob _ rfl _ _ 60 9 rfl i0 Tryz.underlying60 Tryz.underlying9 hi hz0 hz1 hz2 _ _ rfl OB.out x rfl (by rw [List.length_map]; exact LN.out) BASE.out ?_; intro v4 w4 hob hgr)
      have BS4 : Hid (Blk w4 w.heap.size SC 26) := hide (by
        have q := BS.out
        have hlt := q.lt
        unfold Blk at *
        rw [hgr.block _ hlt (fun e => by have := (Ob.lt OB.out _ e.symm).1; omega)]
        exact q)
      have BB4 := hide (BB.out.grown hgr BB.out.size (fun j hj => Nat.le_of_succ_le (Ob.lt OB.out j hj).1))
      rw [EX.out] at hob
      have OB4 := hide hob
      exact ⟨⟨k + 1, by omega, by go_num, BS4, OB4, BB4⟩, by simp [intOf]; omega⟩
    · obtain rfl : k = ds.size := by omega
      have hlt' : ¬ (ds.size : Int) < (ds.size : Int) := by omega
      have e : (bys ds).take ds.size = bys ds := List.take_of_length_le (by rw [bys_len]; exact Nat.le_refl _)
      have CV := convB_ob OB.out
      rw [e] at CV
      have HCV : ∀ X : World, True := fun _ => trivial
      clear HD WL CD HW HW2 O2 BS2 BB2 hlt hk HCV
      go_wp2
      go_ret
      exact ⟨rfl, BB.out⟩

end Go.Proofs.YtionbkmbhhlmjaaGreatDoor
