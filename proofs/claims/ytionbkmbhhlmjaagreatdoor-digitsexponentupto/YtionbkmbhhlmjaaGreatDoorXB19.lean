/-
  DigitsExponent answers true, whatever it is handed: the law's walk.
  What the rows' list of package variables gives, and a world that holds them.
-/
import Derived.Test.YtionbkmbhhlmjaaGreatDoorXB17
import Derived.Test.YtionbkmbhhlmjaaGreatDoorXB18
import Derived.Test.YtionbkmbhhlmjaaGreatDoorXB12
import Derived.Test.YtionbkmbhhlmjaaGreatDoorRows
import Derived.Test.YtionbkmbhhlmjaaGreatDoorXB6
import Derived.Lib.LaidTab
import Derived.Deep.DeepHandedRow
namespace Go.Proofs.YtionbkmbhhlmjaaGreatDoor
open Go.RowKit

theorem wpList_load_midG {P : Program} {ops : Array Oper} {rest : List Oper} {op : Oper} {a : Act} {w : World} {Q : Exit → Act → World → Prop} (hgd : Region.wanted op (yielded ops a.tmps) = true) (ty : TypeId) (x : Operand) (ho : op.op = .load ty x)
    (b o : Nat) (hx : a.eval x = .pointer (some ⟨b, o, none⟩)) (cs : List Value) (d : TypeDesc) (hc : w.rangeAt b o cs)
    (hu : P.underlying ty = some d) (hd : d.isRow = true) (hi : (P.info? ty).map (·.size) = some cs.length)
    (h : wpList P ops Q rest (a.put op.dst (.agg cs.toArray)) w) : wpList P ops Q (op :: rest) a w :=
  wpList_step fun _ hK => by
    rw [if_pos hgd]
    exact wp_load_mid ty x ho b o hx cs d hc hu hd hi (hK _ _ h)

set_option maxRecDepth 100000 in
set_option maxHeartbeats 8000000 in
theorem dgexp_row (w : World) (htab : Tab w) (e : Int) (h1 : -9223372036854775808 ≤ e) (h2 : e ≤ 9223372036854775807) (least : Int) (_ : -9223372036854775808 ≤ least) (hl : least ≤ 9223372036854775807) (p : Bool) (s : Sy) (hs : ∀ q, (s.dig q).size ≤ 1048576) :
    Calls Tryz.prog 4 #[.int .i64 e, .int .i64 least, wayV p s] w fun r w' => r = .returned (.bool true) ∧ Below w.heap.size w w' := by
  have hw : (wrL s (fillL e.natAbs least)).length ≤ 100000000000 := by
    have q1 := wrL_le s 1048576 hs (fillL e.natAbs least)
    have q2 := fillL_len e.natAbs least (by omega)
    have : (fillL e.natAbs least).length * 1048576 ≤ 200 * 1048576 := Nat.mul_le_mul_right _ q2
    omega
  have C1 := hide (fun X hX => exponent_any e least p s X hX h1 h2 hl (by omega))
  have C2 := hide (fun X => rexponent_any e least p s X h1 h2 hw)
  have HA := hide (fun X hX => awake16_any X hX)
  obtain ⟨PS, hPS⟩ : ∃ PS, PS = expP e least p s := ⟨_, rfl⟩
  have PL : PS.length ≤ 3 := by
    rw [hPS]
    have a1 := oneP_len s.exp 6
    have a2 := oneP_len s.min 7
    have a3 := oneP_len s.plu 7
    have a4 := oneP_len (mkP (wrL s (fillL e.natAbs least))) 8
    unfold expP sgnP
    simp only [List.length_append]
    split
    · omega
    · split
      · omega
      · simp only [List.length_nil]; omega
  obtain ⟨n, hn⟩ : ∃ n, n = PS.length := ⟨_, rfl⟩
  rw [← hPS, ← hn] at C1 C2
  have HN := hide hn
  have hnl : n ≤ 3 := by omega
  obtain ⟨SC, hSC⟩ : ∃ SC, SC = symC s := ⟨_, rfl⟩
  have EV : symV s = .agg SC := by rw [hSC]; rfl
  rw [EV] at C1 C2
  obtain ⟨WC, hWC⟩ : ∃ WC : Array Value, WC = #[.bool p, .string s.d0, .string s.d1, .string s.d2, .string s.d3, .string s.d4, .string s.d5, .string s.d6, .string s.d7, .string s.d8, .string s.d9, .string s.dec, .string s.grp, .string s.min, .string s.plu, .string s.pct, .string s.pml, .string s.exp, .string s.inf, .string s.nan, .string s.app, .string s.rng] := ⟨_, rfl⟩
  have EW : wayV p s = .agg WC := by rw [hWC]; rfl
  rw [EW]
  obtain ⟨W, hW⟩ : ∃ W, W = w.alloc (.cells WC 38) := ⟨_, rfl⟩
  have BY0 := hide (show Blk W w.heap.size WC 38 by rw [hW]; exact Blk.newAt _ _ rfl _ _)
  have HB0 : Hid (Below w.heap.size w W) := hide (by rw [hW]; exact (Below.refl _ _).alloc (Nat.le_refl _) _)
  have RG : Hid (∀ X, Blk X w.heap.size WC 38 → X.rangeAt w.heap.size 1 SC.toList ∧ X.cell? ⟨w.heap.size, 0, none⟩ = some (.bool p)) := hide (fun X hX => by
    refine ⟨fun j v hj => ?_, by rw [hX.cell 0, hWC]; rfl⟩
    rw [hX.cell (1 + j), hWC, ← hj, hSC, Nat.add_comm]
    simp [symC])
  have SI : (Tryz.prog.info? 26).map (·.size) = some SC.toList.length := by rw [hSC]; exact symInfo
  have HT := hide htab
  have HW := hide hW.symm
  clear hW hWC hSC EV EW htab hs hw hPS hn PL
  obtain ⟨rg0, y_0⟩ := RG.out _ BY0.out
  go_enter Tryz.func4, Tryz.ntmps4
  go_wp2_with (first | simp only [HW.out] | (refine wpList_load_mid rfl 26 _ rfl _ _ rfl SC.toList _ rg0 Tryz.underlying26 rfl SI ?_; rw [Array.toArray_toList]))
  refine (C1.out _ (HT.out.below HB0.out)).mono ?_
  rintro r w1 ⟨⟨v, rfl, ho⟩, hb1⟩
  obtain ⟨uo, uc, rfl⟩ := ownD_slice ho
  have O1 := hide ho
  have BY1 := Blk.on BY0 hb1
  have HB1 := hide (HB0.out.trans (hb1.mono HB0.out.size))
  have HA1 := hide (HA.out w1 (HT.out.below HB1.out))
  clear ho hb1 BY0 HB0 C1 rg0 y_0 HA HT HW
  go_wp2_with fail
  refine HA1.out.mono ?_
  rintro r w2 ⟨rfl, hb2⟩
  have O2 := hide (ownD_below O1.out hb2)
  have BY2 := Blk.on BY1 hb2
  have HB2 := hide (HB1.out.trans (hb2.mono HB1.out.size))
  clear hb2 HA1 O1 BY1 HB1
  obtain ⟨rg2, y_2⟩ := RG.out _ BY2.out
  go_wp2_with (refine wpList_load_midG (by rfl) 26 _ rfl _ _ rfl SC.toList _ rg2 Tryz.underlying26 rfl SI ?_; rw [Array.toArray_toList])
  refine (C2.out _).mono ?_
  rintro r w3 ⟨⟨v, rfl, ho⟩, hb3⟩
  have O3 := hide (ownD_below O2.out hb3)
  have HB3 := hide (HB2.out.trans (hb3.mono HB2.out.size))
  have HS := hide (SameP_own (ts := PS) (us := PS) (by rw [← HN.out]; exact O3.out) (by rw [← HN.out]; exact ho) (by rw [← HN.out]; omega))
  rw [decide_eq_true rfl] at HS
  clear ho hb3 O2 BY2 HB2 C2 O3
  go_wp2_with fail
  refine HS.out.mono ?_
  rintro r w4 ⟨rfl, hb4⟩
  have HB4 := hide (HB3.out.trans (hb4.mono HB3.out.size))
  clear hb4 HS HB3
  go_wp2
  go_ret
  exact ⟨rfl, HB4.out⟩

end Go.Proofs.YtionbkmbhhlmjaaGreatDoor

namespace Go.Proofs.YtionbkmbhhlmjaaGreatDoor
open Go.RowKit

theorem tg : Tryz.prog.globalNamed "internal/strconv.uint64pow10" = some 0 := by kernel_rfl
theorem tgt : (Tryz.prog.globals[0]?).map (·.type) = some 130 := by kernel_rfl
theorem tc20 : Tryz.prog.cellsOf 130 = 20 := by kernel_rfl
theorem tc1 : Tryz.prog.cellsOf 56 = 1 := by kernel_rfl

theorem table {W : World} (h : laidMetH Tryz.prog [("math/bits.deBruijn32tab", Rows.laid_math_bits_deBruijn32tab), ("math/bits.deBruijn64tab", Rows.laid_math_bits_deBruijn64tab), ("internal/strconv.uint64pow10", Rows.laid_internal_strconv_uint64pow10), ("unicode/utf8.acceptRanges", Rows.laid_unicode_utf8_acceptRanges), ("strconv.ErrRange", Rows.laid_strconv_ErrRange), ("strconv.ErrSyntax", Rows.laid_strconv_ErrSyntax), ("unicode/utf8.first", Rows.laid_unicode_utf8_first)] W) : Tab W := by
  have h' : laidMet Tryz.prog [("math/bits.deBruijn32tab", Rows.laid_math_bits_deBruijn32tab), ("math/bits.deBruijn64tab", Rows.laid_math_bits_deBruijn64tab), ("internal/strconv.uint64pow10", Rows.laid_internal_strconv_uint64pow10), ("unicode/utf8.acceptRanges", Rows.laid_unicode_utf8_acceptRanges), ("strconv.ErrRange", Rows.laid_strconv_ErrRange), ("strconv.ErrSyntax", Rows.laid_strconv_ErrSyntax), ("unicode/utf8.first", Rows.laid_unicode_utf8_first)] W := h
  obtain ⟨ps, ⟨_, _, _, _, _, q1, _, _, _, _, ⟨_, _, _, _, _, q2, _, _, _, _, ⟨g', t', cs, fuel, p3, q3, hg', ht', hvar, hd, _, _⟩, _⟩, _⟩, _⟩ := h'
  obtain rfl := Option.some.inj (tg.symm.trans hg')
  obtain rfl := Option.some.inj (tgt.symm.trans ht')
  unfold Tab Lib.TabIs
  have hd' : DataW.trod (fun _ => ()) Tryz.prog W 0 (fun _ => true) false fuel 130 cs.toList = some (Lib.tabData .u64 Lib.pow10Tab, p3) := hd
  rw [hvar, ← Lib.cells_of_tab Tryz.underlying130 Tryz.underlying56 tc1 tc20 hd']

def tabVals : DataW Unit → Array Value
  | .agg l => (l.flatMap fun
      | .lit (.int k z) => [Value.int k z]
      | .agg l2 => l2.map fun
        | .lit (.int k z) => Value.int k z
        | _ => .int .u8 0
      | _ => []).toArray
  | _ => #[]

def putVals (d : DataW Unit) : Obj → Obj
  | .cells _ t frozen => .cells (tabVals d) t frozen
  | o => o

def errText : DataW Unit → ByteArray
  | .iface _ (.ptr (.agg [.lit (.string l)])) => ⟨l.toArray⟩
  | _ => ⟨#[]⟩

def putErr (b : Nat) : Obj → Obj
  | .cells _ t frozen => .cells #[.iface 170 (.pointer (some ⟨b, 0, none⟩))] t frozen
  | o => o

noncomputable def laidWorld (os : Os) : World :=
  { World.holding Tryz.prog os ⟨#[], #[], []⟩ with
    heap := (((((((((World.holding Tryz.prog os ⟨#[], #[], []⟩).heap.modify 2 (putVals Rows.laid_math_bits_deBruijn32tab)).modify 3 (putVals Rows.laid_math_bits_deBruijn64tab)).modify 0 (putVals Rows.laid_internal_strconv_uint64pow10)).modify 7 (putVals Rows.laid_unicode_utf8_acceptRanges)).modify 6 (putVals Rows.laid_unicode_utf8_first)).modify 5 (putErr (World.holding Tryz.prog os ⟨#[], #[], []⟩).heap.size)).modify 4 (putErr ((World.holding Tryz.prog os ⟨#[], #[], []⟩).heap.size + 1))).push (.cells #[.string (errText Rows.laid_strconv_ErrRange)] 172)).push (.cells #[.string (errText Rows.laid_strconv_ErrSyntax)] 172) }

end Go.Proofs.YtionbkmbhhlmjaaGreatDoor
