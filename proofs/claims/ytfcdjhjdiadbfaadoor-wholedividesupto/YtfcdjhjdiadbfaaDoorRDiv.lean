/-
  What the reference's DivMod does.
-/
import Derived.Test.YtfcdjhjdiadbfaaDoorZRAdd
import Derived.Test.YtfcdjhjdiadbfaaDoorRShl
import Derived.Test.YtfcdjhjdiadbfaaDoorRSub
import Derived.Test.YtfcdjhjdiadbfaaDoorRCmp
namespace Go.Proofs.YtfcdjhjdiadbfaaDoor
open Go.RowKit

/- (hide is in Long, which this doesn't import) -/
theorem hide32 {p : Prop} (h : p) : Hid p := h

/-- At the head of the reference's loop, k bits being left: the bits so far, divided by B. -/
structure RDivInv (w : World) (m A B k : Nat) (v : Value) (wr : World) : Prop where
  bel : Below w.heap.size w wr
  quo : ∃ q, Row .u32 73 wr w.heap.size q ∧ q.length = m ∧ Ok 65536 q ∧ num 65536 q = A / 2 ^ k / B * 2 ^ k
  rst : ∃ ro rc rs, v = .slice ro rs.length rc ∧ rs.length ≤ rc ∧ At .u32 wr ro rs ∧ Is 65536 rs (A / 2 ^ k % B)

theorem RDivInv.stay {w wr w1 wr' : World} {m A B k : Nat} {q : List Nat} {ro : Option Addr} {rc : Nat} {rs : List Nat} (hB : 0 < B) (hb : Below w.heap.size w wr) (hq : Row .u32 73 wr w.heap.size q) (hl : q.length = m) (ho : Ok 65536 q) (hn : num 65536 q = A / 2 ^ (k + 1) / B * 2 ^ (k + 1))
    (hlt : ¬ B ≤ 2 * (A / 2 ^ (k + 1) % B) + A / 2 ^ k % 2) (hb1 : Below wr.heap.size wr w1) (hlr : rs.length ≤ rc) (hat : At .u32 w1 ro rs) (his : Is 65536 rs (2 * (A / 2 ^ (k + 1) % B) + A / 2 ^ k % 2)) (hw : Like wr' w1) :
    RDivInv w m A B k (.slice ro rs.length rc) wr' := by
  obtain ⟨e1, e2⟩ := (rdiv_next A B k hB).2 hlt
  refine ⟨hw.below (hb.trans (hb1.mono hb.size)), ⟨q, (hq.below hb1 hq.lt).alike hw, hl, ho, ?_⟩, ro, rc, rs, rfl, hlr, hat.same hw.1, ?_⟩
  · rw [hn, e1]
    generalize A / 2 ^ (k + 1) / B = Q
    rw [Nat.pow_succ, Nat.mul_comm (2 ^ k) 2, ← Nat.mul_assoc, Nat.mul_comm Q 2]
  · rw [e2]; exact his

theorem RDivInv.put {w wr w1 wr' : World} {m A B k j s : Nat} {q : List Nat} {ro : Option Addr} {rc : Nat} {rs : List Nat} (hB : 0 < B) (hb : Below w.heap.size w wr) (hq : Row .u32 73 wr w.heap.size q) (hl : q.length = m) (ho : Ok 65536 q) (hn : num 65536 q = A / 2 ^ (k + 1) / B * 2 ^ (k + 1))
    (hk : k = 16 * j + s) (hs : s ≤ 15) (hj : j < m) (hge : B ≤ 2 * (A / 2 ^ (k + 1) % B) + A / 2 ^ k % 2) (hb1 : Below wr.heap.size wr w1) (hlr : rs.length ≤ rc) (hat : At .u32 w1 ro rs) (his : Is 65536 rs (2 * (A / 2 ^ (k + 1) % B) + A / 2 ^ k % 2 - B))
    (hnw : ∀ b o, ro = some ⟨b, o, none⟩ → w.heap.size < b) (hw : Like wr' (w1.setCell ⟨w.heap.size, j, none⟩ (.int .u32 ((dg q j ||| 2 ^ s : Nat) : Int)))) :
    RDivInv w m A B k (.slice ro rs.length rc) wr' := by
  obtain ⟨e1, e2⟩ := (rdiv_next A B k hB).1 hge
  obtain ⟨b1, b2⟩ := set_bit (ho j) hs (low_zero ho hs (by rw [hn, hk]))
  have hbw := hb.trans (hb1.mono hb.size)
  have hat' : ∀ u, At .u32 (w1.setCell ⟨w.heap.size, j, none⟩ u) ro rs := by
    intro u
    rcases hat with h | ⟨b, o, h1, h2, h3⟩
    · exact .inl h
    · have hne := hnw b o h1
      refine .inr ⟨b, o, h1, by simpa [World.setCell] using h2, fun i hi => ?_⟩
      rw [World.cell?_of_block (w := w1) (Below.heap_setCell _ _ _ _ (by show b ≠ w.heap.size; omega))]
      exact h3 i hi
  refine ⟨hw.below (hbw.setCell (Nat.le_refl _) _), ⟨q.set j (dg q j ||| 2 ^ s), ((hq.below hb1 hq.lt).set j _).alike hw, by simp [hl], ho.set (by omega) (by rw [b1]; exact b2), ?_⟩, ro, rc, rs, rfl, hlr, (hat' _).same hw.1, ?_⟩
  · have h := num_set 65536 q j (dg q j ||| 2 ^ s) (by omega)
    rw [b1, Nat.add_mul] at h
    have e3 : 2 ^ s * 65536 ^ j = 2 ^ k := by rw [pow16j, ← Nat.pow_add, hk, Nat.add_comm]
    rw [b1, e1, Nat.add_mul, Nat.one_mul]
    have e4 : 2 * (A / 2 ^ (k + 1) / B) * 2 ^ k = A / 2 ^ (k + 1) / B * 2 ^ (k + 1) := by
      generalize A / 2 ^ (k + 1) / B = Q
      rw [Nat.pow_succ, Nat.mul_comm (2 ^ k) 2, ← Nat.mul_assoc, Nat.mul_comm Q 2]
    rw [e4, ← hn]
    omega
  · rw [e2]; exact his

/-- What the reference's DivMod answers. -/
def RDivPost (w : World) (m p q r : Nat) (e : Ending) (w' : World) : Prop :=
  ∃ ao ca ys bo cb zs, e = .returned (.tuple #[.slice ao ys.length ca, .slice bo zs.length cb]) ∧ ys.length ≤ ca ∧ zs.length ≤ cb ∧ At .u32 w' ao ys ∧ At .u32 w' bo zs ∧ Is 65536 ys q ∧ Is 65536 zs r ∧ ys.length ≤ m ∧ zs.length ≤ p ∧ Below w.heap.size w w'

theorem lit32 (w : World) : At .u32 (w.alloc (.cells #[.int .u32 1] 73)) (some ⟨w.heap.size, 0, none⟩) [1] :=
  Row.at (k := .u32) (e := 73) (heap_alloc_new w _)

theorem ok1 : Ok 65536 [1] := by
  intro i
  rcases i with _ | i
  · simp [dg]
  · rw [dg_out (by simp)]; omega

end Go.Proofs.YtfcdjhjdiadbfaaDoor
