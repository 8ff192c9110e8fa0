/-
  What nat.addBack does to a row.
-/
import Derived.Test.YtpiloigpncbccaaMul
namespace Go.Proofs.Ytpiloigpncbccaa
open Go.RowKit

/-- One round of addBack: the row's number and the carry. -/
theorem back_step {b : Nat} {r0 r : List Nat} {y : Nat → Nat} {off i : Nat} (hi : off + i < r.length) (hd : dg r (off + i) = dg r0 (off + i))
    (h : num b r + addC b (fun j => dg r0 (off + j)) y i * b ^ (off + i) = num b r0 + V b y i * b ^ off) :
    num b (r.set (off + i) (addD b (fun j => dg r0 (off + j)) y i)) + addC b (fun j => dg r0 (off + j)) y (i + 1) * b ^ (off + (i + 1)) = num b r0 + V b y (i + 1) * b ^ off := by
  have e1 := num_set b r (off + i) (addD b (fun j => dg r0 (off + j)) y i) hi
  have e2 : addD b (fun j => dg r0 (off + j)) y i + addC b (fun j => dg r0 (off + j)) y (i + 1) * b = dg r0 (off + i) + y i + addC b (fun j => dg r0 (off + j)) y i := by
    simp only [addD, addC]
    have := Nat.div_add_mod (dg r0 (off + i) + y i + addC b (fun j => dg r0 (off + j)) y i) b
    rw [Nat.mul_comm b] at this; omega
  rw [hd] at e1
  simp only [V]
  generalize addC b (fun j => dg r0 (off + j)) y (i + 1) = c' at *
  generalize addC b (fun j => dg r0 (off + j)) y i = c at *
  generalize addD b (fun j => dg r0 (off + j)) y i = d at *
  generalize dg r0 (off + i) = f at *
  have e3 : (d + c' * b) * b ^ (off + i) = (f + y i + c) * b ^ (off + i) := by rw [e2]
  rw [Nat.add_mul, Nat.add_mul, Nat.add_mul] at e3
  have e4 : c' * b ^ (off + (i + 1)) = c' * b * b ^ (off + i) := by rw [← Nat.add_assoc, Nat.pow_succ, Nat.mul_comm (b ^ (off + i)), Nat.mul_assoc]
  have e5 : (V b y i + y i * b ^ i) * b ^ off = V b y i * b ^ off + y i * b ^ (off + i) := by
    rw [Nat.add_mul, Nat.pow_add, Nat.mul_assoc, Nat.mul_comm (b ^ i)]
  rw [e4, e5]
  omega

/-- Behind i rounds of addBack: H is the number of blocks that were there when its variables were made. -/
structure BackInv (w : World) (H g off m cp : Nat) (r0 : List Nat) (y : Nat → Nat) (i : Nat) (wr : World) : Prop where
  gr : w.grownBy wr (some g)
  row : ∃ r, Row .u64 33 wr g r ∧ r.length = r0.length ∧ Ok B64 r ∧ (∀ j, off + i ≤ j → dg r j = dg r0 j) ∧
    num B64 r + addC B64 (fun j => dg r0 (off + j)) y i * B64 ^ (off + i) = num B64 r0 + V B64 y i * B64 ^ off
  boxS : Box wr H (.slice (some ⟨g, off, none⟩) m cp) 22
  car : Box wr (H + 1) (.int .u64 ((addC B64 (fun j => dg r0 (off + j)) y i : Nat) : Int)) 33

theorem BackInv.step {w wr wr' : World} {H g off m cp i : Nat} {r0 : List Nat} {y : Nat → Nat} (h : BackInv w H g off m cp r0 y i wr) (hg : g < H) (hH : w.heap.size ≤ H) (hi : off + i < r0.length)
    (ht : Two wr wr' g (off + i) (addD B64 (fun j => dg r0 (off + j)) y i) (H + 1) (addC B64 (fun j => dg r0 (off + j)) y (i + 1))) : BackInv w H g off m cp r0 y (i + 1) wr' := by
  obtain ⟨r, hr, hl, ho, hd, hn⟩ := h.row
  refine ⟨?_, ⟨_, ((hr.set (off + i) _).other (by show g ≠ H + 1; omega) _).alike ht, by simp [hl], ho.set (by omega) (addD_lt (by decide) _ _ _), ?_, ?_⟩, ?_, ?_⟩
  · exact grownBy_like (grownBy_set (grownBy_set h.gr _ _ (.inl rfl)) _ _ (.inr (by show _ ≤ H + 1; omega))) ht
  · intro j hj
    rw [dg_set _ _ _ _ (by omega), if_neg (by omega)]
    exact hd j (by omega)
  · exact back_step (by omega) (hd _ (by omega)) hn
  · exact ((h.boxS.other (by show H ≠ g; omega) _).other (by show H ≠ H + 1; omega) _).alike ht
  · exact ((h.car.other (by show H + 1 ≠ g; omega) _).set _).alike ht

/-- What addBack leaves in the block g: the row's number and the list's at the place off, but for a last carry. -/
def BackPost (w : World) (g : Nat) (r0 : List Nat) (add last : Nat) (e : Ending) (w' : World) : Prop :=
  e = .returned (.tuple #[]) ∧ w.grownBy w' (some g) ∧ ∃ r c, Row .u64 33 w' g r ∧ r.length = r0.length ∧ Ok B64 r ∧ (∀ j, last ≤ j → dg r j = dg r0 j) ∧ c ≤ 1 ∧ num B64 r + c * B64 ^ last = num B64 r0 + add

set_option maxHeartbeats 2000000 in
theorem addBack_any (g off p cp cb : Nat) (bo : Option Addr) (r0 ys : List Nat) (w : World) (hp : p ≤ 100000000000) (hy : ys.length = p) (hay : At .u64 w bo ys) (oy : Ok B64 ys)
    (hr : Row .u64 33 w g r0) (o0 : Ok B64 r0) (hoff : off + p < r0.length) (hng : ∀ b o, ys ≠ [] → bo = some ⟨b, o, none⟩ → b ≠ g) :
    Calls Try.prog 33 #[.slice (some ⟨g, off, none⟩) (p + 1) cp, .slice bo p cb] w (BackPost w g r0 (num B64 ys * B64 ^ off) (off + (p + 1))) := by
  have hglt := hr.lt
  have f0 : ∀ i, (fun j => dg r0 (off + j)) i < B64 := fun i => o0 _
  go_enter Try.func33, Try.ntmps33
  go_wp2_with fail
  refine (each_any _ bo (p + 1) cp p cb 40 _ (fun i => dg r0 (off + i)) (dg ys) (fun i wr => BackInv w w.heap.size g off (p + 1) cp r0 (dg ys) i wr) _ (by omega) (by omega) enters40 ?_ ?_ ?_ ?_).mono ?_
  · intro i wr hi h
    obtain ⟨r, hr, hl, _, hd, _⟩ := h.row
    refine ⟨fun _ => ⟨g, off, rfl, ?_⟩, fun h => by omega⟩
    rw [hr.cell _ (by omega), hd _ (by omega)]
  · intro i wr hi h
    subst hy
    refine ⟨fun hil => ?_, fun h => dg_out h⟩
    rcases hay with rfl | ⟨b, o, h1, h2, h3⟩
    · simp at hil
    · refine ⟨b, o, h1, ?_⟩
      rw [World.cell?_of_block (w := w) (h.gr.block b h2 (by simp; exact hng b o (by intro e; rw [e] at hil; simp at hil) h1))]
      exact h3 i hil
  · intro i wr hi h
    have hi' : i < p + 1 := by omega
    obtain ⟨r, hr', hl, _, hd, _⟩ := h.row
    refine (addBack1 i _ _ (addC B64 (fun j => dg r0 (off + j)) (dg ys) i) (p + 1) cp g off (w.heap.size + 1) w.heap.size (addD B64 (fun j => dg r0 (off + j)) (dg ys) i) (addC B64 (fun j => dg r0 (off + j)) (dg ys) (i + 1)) _ wr hi' (by omega)
      (fun w => call_add64 _ _ _ (addC_le f0 oy i) w) h.boxS.cell h.car.cell h.car.free (hr'.cell _ (by omega)) (hr'.free _) (by omega) (by omega) (by omega)).mono ?_
    rintro e w' ⟨rfl, ht⟩
    exact ⟨rfl, h.step hglt (Nat.le_refl _) (by omega) ht⟩
  · refine ⟨?_, ⟨r0, (hr.alloc _).alloc _, rfl, o0, fun _ _ => rfl, by simp [addC, V]⟩, (Box.new _ _ _).alloc _, ?_⟩
    · refine ⟨rfl, rfl, rfl, by simp; omega, fun k hk _ => ?_⟩
      rw [Below.heap_alloc _ _ _ (by simp; omega), Below.heap_alloc _ _ _ hk]
    · have := Box.new (w.alloc (Obj.cells #[Value.slice (some { block := g, off := off }) (p + 1) cp] 22)) (.int .u64 0) 33
      simpa [addC] using this
  · rintro e w2 ⟨rfl, h⟩
    go_wp2
    go_end0
    rw [show max (p + 1) p = p + 1 by omega] at h
    obtain ⟨r, hr2, hl, ho, hd, hnum⟩ := h.row
    refine ⟨rfl, h.gr, r, _, hr2, hl, ho, fun j hj => hd j (by omega), addC_le f0 oy (p + 1), ?_⟩
    rw [hnum, num_eq (by omega)]

end Go.Proofs.Ytpiloigpncbccaa
