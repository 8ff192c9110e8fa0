/-
  From what a row of the given statements hands over (readings of the arguments, the bound on their bulk) to the words of the walks.
  An argument that is an api.Dec, as a row of the given statements hands it over.
-/
import Derived.Test.YtifpacgacbpalaaGreatDoorRows
import Derived.Test.YtifpacgacbpalaaGreatDoorOwn
import Derived.ProofKit
import Derived.OpenShut
import Derived.JoinedCond
import Derived.ChangeSame
import Derived.Lib.SmallJoins
namespace Go.Proofs.YtifpacgacbpalaaGreatDoor
open Go.ChangeShapes Go.WideShapes Go.ChangeAt Go.RowKit

theorem Tryz.own : ownKnob Tryz.prog.godebug = none := by kernel_rfl
theorem Tryz.laidOut : laidOutB Tryz.prog = true := by kernel_rfl
theorem Tryz.cellsU : Tryz.prog.cellsOf 76 = 1 := by kernel_rfl

theorem bulk_len {H : Type} (l : List (DataW H)) : l.length ≤ Rows.uptoBulkAll l := by
  induction l with
  | nil => simp [Rows.uptoBulkAll]
  | cons x r ih =>
    have : 1 ≤ Rows.uptoBulk x := by
      cases x with
      | lit l => cases l <;> simp [Rows.uptoBulk]
      | nil => simp [Rows.uptoBulk]
      | ptr d => simp [Rows.uptoBulk]
      | slice elems spare => simp [Rows.uptoBulk]
      | agg parts => simp [Rows.uptoBulk]
      | iface t d => simp [Rows.uptoBulk]
      | map entries => simp [Rows.uptoBulk]
      | held h => simp [Rows.uptoBulk]
    simp only [Rows.uptoBulkAll, List.length_cons]; omega

theorem wf_u64 {n : Int} (h : (Lit.int .u64 n).wf = true) : 0 ≤ n ∧ n < 18446744073709551616 := by
  simp [Lit.wf, IntKind.min, IntKind.max, IntKind.signed, IntKind.bits] at h
  omega

/-- An argument of type []uint64, nil or not: its limbs, where they lie, and that its capacity is within its bulk. -/
theorem view {H : Type} {enc : TypeId × Value → H} {W : World} {fuel : Nat} {a0 : Option Addr} {len cap : Nat} {d : DataW H} {p : List MemPlace}
    (hf : DataW.trod enc Tryz.prog W 0 (fun _ => true) true fuel 77 (Value.slice a0 len cap).cells.toList = some (d, p)) :
    ∃ xs : List Nat, xs.length = len ∧ len ≤ cap ∧ cap ≤ Rows.uptoBulk d ∧ At .u64 W a0 xs ∧ Ok B64 xs := by
  rcases open_ints Tryz.underlying77 Tryz.underlying76 Tryz.cellsU hf with ⟨hcs, hx⟩ | ⟨a, len', cap', zs, hcs, _, hl, hm, hz, hx, hcell, hwz⟩
  · simp [Value.cells] at hcs
    obtain ⟨rfl, rfl, rfl⟩ := hcs
    exact ⟨[], rfl, Nat.le_refl _, Nat.zero_le _, At.nil _ _ _, fun i => by rw [dg_out (by simp)]; decide⟩
  · simp [Value.cells] at hcs
    obtain ⟨rfl, rfl, rfl⟩ := hcs
    simp only [Prod.mk.injEq] at hx
    obtain ⟨rfl, rfl⟩ := hx
    simp only [if_true] at hz
    have hlen : (zs.take len).length = len := by simp; omega
    refine ⟨(zs.take len).map Int.toNat, by rw [List.length_map, hlen], hl, ?_, ?_, ?_⟩
    · have h1 := bulk_len (lits (H := H) .u64 (zs.take len))
      have h2 := bulk_len (lits (H := H) .u64 (zs.drop len))
      simp only [lits, List.length_map, List.length_drop] at h1 h2
      simp only [Rows.uptoBulk, lits]
      rw [hlen] at h1
      omega
    · by_cases h0 : len = 0
      · left
        subst h0; simp
      · obtain ⟨b, o, s⟩ := a
        have hs : s = none := by simpa [Addr.add] using World.cell?_spot (hcell 0 (by omega))
        subst hs
        refine .inr ⟨b, o, rfl, by simpa [Addr.add] using World.block_lt_of_cell? W _ (hcell 0 (by omega)), fun i hi => ?_⟩
        rw [List.length_map, hlen] at hi
        have hc := hcell i (by omega)
        have hmem : zs.getD i 0 ∈ zs := by
          rw [List.getD_eq_getElem?_getD, List.getElem?_eq_getElem (by omega)]; exact List.getElem_mem _
        have hw := wf_u64 (hwz _ hmem)
        have e : (⟨b, o, none⟩ : Addr).add i = ⟨b, o + i, none⟩ := by
          unfold Addr.add; split
          · next h => subst h; rfl
          · rfl
        rw [e] at hc
        rw [hc]
        simp only [List.getElem?_map, List.getElem?_take_of_lt hi]
        rw [List.getD_eq_getElem?_getD] at hw ⊢
        rw [List.getElem?_eq_getElem (by omega)] at hw ⊢
        simp only [Option.getD_some, Option.map_some] at hw ⊢
        congr 2
        omega
    · intro i
      unfold dg
      by_cases hi : i < len
      · have hmem : zs.getD i 0 ∈ zs := by
          rw [List.getD_eq_getElem?_getD, List.getElem?_eq_getElem (by omega)]; exact List.getElem_mem _
        have hw := wf_u64 (hwz _ hmem)
        simp only [List.getElem?_map, List.getElem?_take_of_lt hi]
        rw [List.getD_eq_getElem?_getD] at hw
        rw [List.getElem?_eq_getElem (by omega)] at hw ⊢
        simp only [Option.getD_some, Option.map_some] at hw ⊢
        show _ < (18446744073709551616 : Nat)
        omega
      · rw [List.getElem?_eq_none (by rw [List.length_map, hlen]; omega)]; decide

end Go.Proofs.YtifpacgacbpalaaGreatDoor

namespace Go.Proofs.YtifpacgacbpalaaGreatDoor
open Go.ChangeShapes Go.WideShapes Go.ChangeAt Go.RowKit

theorem Tryz.cellsD : Tryz.prog.cellsOf 23 = 4 := by kernel_rfl

set_option maxRecDepth 100000 in
theorem viewD {H : Type} {enc : TypeId × Value → H} {W : World} {base : Nat} {v : Value} {d : DataW H} {p : List MemPlace} (hval : Value.okWide Tryz.prog W .any base 23 v) (h : DataW.Trod enc Tryz.prog W 0 (fun _ => true) true 23 v d p) :
    ∃ (c : Int) (neg : Bool) (t : ByteArray) (ex : Int), v = .agg #[.int .i64 c, .bool neg, .string t, .int .i64 ex] := by
  obtain ⟨v0, v1, v2, v3, y0, y1, y2, y3, n, rfl, _, _, h0, h1, h2, h3⟩ := Joins.open_agg4 Tryz.underlying23 (by kernel_rfl) Tryz.cellsD hval h
  obtain ⟨c, e0, _⟩ := DataW.trod_int Tryz.underlying3 h0
  obtain ⟨neg, e1, _⟩ := DataW.trod_bool Tryz.underlying4 h1
  obtain ⟨t, e2, _⟩ := DataW.trod_string Tryz.underlying9 h2
  obtain ⟨ex, e3, _⟩ := DataW.trod_int Tryz.underlying3 h3
  simp at e0 e1 e2 e3
  subst e0 e1 e2 e3
  exact ⟨c, neg, t, ex, rfl⟩

end Go.Proofs.YtifpacgacbpalaaGreatDoor
