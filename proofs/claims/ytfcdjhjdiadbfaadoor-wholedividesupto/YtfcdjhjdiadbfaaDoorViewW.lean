/-
  An argument that is a whole.Int, as a row of the given statements hands it over.
-/
import Derived.Test.YtfcdjhjdiadbfaaDoorView
import Derived.ChangeSame
namespace Go.Proofs.YtfcdjhjdiadbfaaDoor
open Go.ChangeShapes Go.WideShapes Go.ChangeAt Go.RowKit

theorem Tryd.cellsW : Tryd.prog.cellsOf 24 = 2 := by kernel_rfl
theorem Tryd.cellsBool : Tryd.prog.cellsOf 4 = 1 := by kernel_rfl
theorem Tryd.cellsS : Tryd.prog.cellsOf 22 = 1 := by kernel_rfl

set_option maxRecDepth 100000 in
theorem viewW {H : Type} {enc : TypeId × Value → H} {W : World} {base : Nat} {v : Value} {d : DataW H} {p : List MemPlace} (hval : Value.okWide Tryd.prog W .any base 24 v) (h : DataW.Trod enc Tryd.prog W 0 (fun _ => true) true 24 v d p) :
    ∃ (n : Bool) (o : Option Addr) (l c : Nat) (xs : List Nat), v = .agg #[.bool n, .slice o l c] ∧ xs.length = l ∧ l ≤ c ∧ c ≤ Rows.uptoBulk d ∧ At .u64 W o xs ∧ Ok B64 xs := by
  obtain ⟨cs, rfl, hsz⟩ := okWide_struct Tryd.underlying24 hval
  rw [Tryd.cellsW] at hsz
  obtain ⟨l⟩ := cs
  match l, hsz with
  | [c0, c1], _ =>
  obtain ⟨fuel, hf⟩ := h
  obtain ⟨y0, y1, m, hx, _, hy0, hy1⟩ := trod_struct2 Tryd.underlying24 hf
  simp [Value.cells, Tryd.cellsBool, Tryd.cellsS] at hy0 hy1
  obtain ⟨b, e0, rfl⟩ := DataW.trod_bool Tryd.underlying4 hy0
  simp at e0
  subst e0
  simp only [Prod.mk.injEq] at hx
  obtain ⟨rfl, rfl⟩ := hx
  have hc1 : ∃ a len cap, c1 = .slice a len cap := by
    rcases open_ints Tryd.underlying22 Tryd.underlying59 Tryd.cellsU hy1 with ⟨hcs, _⟩ | ⟨a, len', cap', zs, hcs, _⟩
    · simp at hcs; exact ⟨_, _, _, hcs⟩
    · simp at hcs; exact ⟨_, _, _, hcs⟩
  obtain ⟨a, len, cap, rfl⟩ := hc1
  obtain ⟨xs, h1, h2, h3, h4, h5⟩ := view (a0 := a) (len := len) (cap := cap) (d := y1.1) (p := y1.2) hy1
  refine ⟨b, a, len, cap, xs, rfl, h1, h2, ?_, h4, h5⟩
  simp only [Rows.uptoBulk, Rows.uptoBulkAll]
  omega

end Go.Proofs.YtfcdjhjdiadbfaaDoor
