/-
  math/bits.Add64 and Sub64 as the model has them, and the closures of nat.Add, nat.Sub and nat.addBack, which call them.
-/
import Derived.Test.YtobloamnaemfnaaGreatDoorVEach
import Derived.Test.YtobloamnaemfnaaGreatDoorVRow
import Derived.Laws.Externs
import Derived.RegionTactic
import Derived.BigRegion
namespace Go.Proofs.YtobloamnaemfnaaGreatDoor
open Go.RowKit

def B64 : Nat := 18446744073709551616

def sub64E : Array Value → Sem Value := fun args => do
  let (x, y, b) ← Extern.MathBitsCarry.three "Sub64" args
  pure (Extern.MathBitsCarry.pair ((x + Extern.MathBitsCarry.m64 - y - b) % Extern.MathBitsCarry.m64) (if x < y + b then 1 else 0))

theorem run_sub64E (x y b : Nat) (hb : b ≤ 1) (w : World) :
    (sub64E #[.int .u64 x, .int .u64 y, .int .u64 b]).run Tryz.prog w =
      .ok (.tuple #[.int .u64 (((x + 18446744073709551616 - y - b) % 18446744073709551616 : Nat) : Int), .int .u64 ((if x < y + b then 1 else 0 : Nat) : Int)]) w := by
  have : b = 0 ∨ b = 1 := by omega
  rcases this with rfl | rfl <;> rfl

theorem call_add64 (x y c : Nat) (hc : c ≤ 1) (w : World) :
    (callFunc 201 #[.int .u64 x, .int .u64 y, .int .u64 c]).run Tryz.prog w =
      .ok (.value (.tuple #[.int .u64 (((x + y + c) % B64 : Nat) : Int), .int .u64 (((x + y + c) / B64 : Nat) : Int)])) w := by
  unfold B64
  rw [run_callFunc_extern Tryz.func201 (by kernel_rfl) (by kernel_rfl) (by kernel_rfl) (e := add64Entry) (by kernel_rfl), run_add64 x y c (by omega) (by omega) (by omega) (by omega)]
  simp only [Result.andThen]
  congr 5 <;> omega

theorem call_sub64 (x y b : Nat) (hb : b ≤ 1) (w : World) :
    (callFunc 225 #[.int .u64 x, .int .u64 y, .int .u64 b]).run Tryz.prog w =
      .ok (.value (.tuple #[.int .u64 (((x + B64 - y - b) % B64 : Nat) : Int), .int .u64 ((if x < y + b then 1 else 0 : Nat) : Int)])) w := by
  unfold B64
  rw [run_callFunc_extern Tryz.func225 (by kernel_rfl) (by kernel_rfl) (by kernel_rfl) (e := sub64E) (by kernel_rfl), run_sub64E x y b hb]
  rfl

def Two (w w' : World) (g i s Bc c : Nat) : Prop :=
  Like w' ((w.setCell ⟨g, i, none⟩ (.int .u64 (s : Int))).setCell ⟨Bc, 0, none⟩ (.int .u64 (c : Int)))

set_option maxHeartbeats 1000000 in
theorem add1 (i x y c n cp g off Bc Bs s c' : Nat) (o : Int) (w : World) (hi : i < n) (_hn : n ≤ 1000000000000)
    (hrun : ∀ w, (callFunc 201 #[.int .u64 (x : Int), .int .u64 (y : Int), .int .u64 (c : Int)]).run Tryz.prog w = .ok (.value (.tuple #[.int .u64 (s : Int), .int .u64 (c' : Int)])) w)
    (hs : w.cell? ⟨Bs, 0, none⟩ = some (.slice (some ⟨g, off, none⟩) n cp)) (hc : w.cell? ⟨Bc, 0, none⟩ = some (.int .u64 (c : Int))) (hcf : w.frozen? ⟨Bc, 0, none⟩ = false)
    (hg : w.cell? ⟨g, off + i, none⟩ = some (.int .u64 o)) (hgf : w.frozen? ⟨g, off + i, none⟩ = false) (h1 : g ≠ Bc) (h2 : g ≠ Bs) (h3 : Bc ≠ Bs) :
    Calls Tryz.prog 223 #[.int .i64 i, .int .u64 (x : Int), .int .u64 (y : Int), .pointer (some ⟨Bc, 0, none⟩), .pointer (some ⟨Bs, 0, none⟩)] w fun e w' =>
      e = .returned (.tuple #[]) ∧ Two w w' g (off + i) s Bc c' := by
  have hi' : (i : Int) < (n : Int) := by omega
  go_enter Tryz.func223, Tryz.ntmps223
  go_wp2
  go_region
  all_goals (go_end0; exact ⟨rfl, rfl, rfl, rfl, rfl⟩)

theorem enters223 : ∀ args w, (callFunc 223 args).run Tryz.prog w = .ok (.enter 223 args) w := by intro args w; kernel_rfl

set_option maxHeartbeats 1000000 in
theorem addBack1 (i x y c n cp g off Bc Bs s c' : Nat) (o : Int) (w : World) (hi : i < n) (_hn : n ≤ 1000000000000)
    (hrun : ∀ w, (callFunc 201 #[.int .u64 (x : Int), .int .u64 (y : Int), .int .u64 (c : Int)]).run Tryz.prog w = .ok (.value (.tuple #[.int .u64 (s : Int), .int .u64 (c' : Int)])) w)
    (hs : w.cell? ⟨Bs, 0, none⟩ = some (.slice (some ⟨g, off, none⟩) n cp)) (hc : w.cell? ⟨Bc, 0, none⟩ = some (.int .u64 (c : Int))) (hcf : w.frozen? ⟨Bc, 0, none⟩ = false)
    (hg : w.cell? ⟨g, off + i, none⟩ = some (.int .u64 o)) (hgf : w.frozen? ⟨g, off + i, none⟩ = false) (h1 : g ≠ Bc) (h2 : g ≠ Bs) (h3 : Bc ≠ Bs) :
    Calls Tryz.prog 255 #[.int .i64 i, .int .u64 (x : Int), .int .u64 (y : Int), .pointer (some ⟨Bc, 0, none⟩), .pointer (some ⟨Bs, 0, none⟩)] w fun e w' =>
      e = .returned (.tuple #[]) ∧ Two w w' g (off + i) s Bc c' := by
  have hi' : (i : Int) < (n : Int) := by omega
  go_enter Tryz.func255, Tryz.ntmps255
  go_wp2
  go_region
  all_goals (go_end0; exact ⟨rfl, rfl, rfl, rfl, rfl⟩)

theorem enters255 : ∀ args w, (callFunc 255 args).run Tryz.prog w = .ok (.enter 255 args) w := by intro args w; kernel_rfl

end Go.Proofs.YtobloamnaemfnaaGreatDoor
