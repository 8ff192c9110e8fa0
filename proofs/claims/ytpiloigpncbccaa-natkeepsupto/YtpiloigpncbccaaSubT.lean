/-
  What nat.subTimes does to a row.
-/
import Derived.Test.YtpiloigpncbccaaBack
namespace Go.Proofs.Ytpiloigpncbccaa
open Go.RowKit

/-- World w' is w, but for one number in the row g and one in each of the variables Bc and Bd. -/
def Three (w w' : World) (g i s Bc c Bd d : Nat) : Prop :=
  Like w' (((w.setCell ⟨Bc, 0, none⟩ (.int .u64 (c : Int))).setCell ⟨g, i, none⟩ (.int .u64 (s : Int))).setCell ⟨Bd, 0, none⟩ (.int .u64 (d : Int)))

set_option maxHeartbeats 2000000 in
theorem subt1 (i x y n c d m cp g off Bn Bc Bd Bs hi lo l2 o2 s d' : Nat) (o : Int) (w : World) (hil : i < m) (_hm : m ≤ 1000000000000)
    (hmul : ∀ w, Calls Try.prog 36 #[.int .u64 (y : Int), .int .u64 (n : Int)] w fun e w' => e = .returned (.tuple #[.int .u64 (hi : Int), .int .u64 (lo : Int)]) ∧ w = w')
    (hrun1 : ∀ w, (callFunc 25 #[.int .u64 (lo : Int), .int .u64 (c : Int), .int .u64 0]).run Try.prog w = .ok (.value (.tuple #[.int .u64 (l2 : Int), .int .u64 (o2 : Int)])) w)
    (hrun2 : ∀ w, (callFunc 21 #[.int .u64 (x : Int), .int .u64 (l2 : Int), .int .u64 (d : Int)]).run Try.prog w = .ok (.value (.tuple #[.int .u64 (s : Int), .int .u64 (d' : Int)])) w)
    (hs : w.cell? ⟨Bs, 0, none⟩ = some (.slice (some ⟨g, off, none⟩) m cp)) (hn : w.cell? ⟨Bn, 0, none⟩ = some (.int .u64 (n : Int))) (hc : w.cell? ⟨Bc, 0, none⟩ = some (.int .u64 (c : Int))) (hcf : w.frozen? ⟨Bc, 0, none⟩ = false)
    (hd : w.cell? ⟨Bd, 0, none⟩ = some (.int .u64 (d : Int))) (hdf : w.frozen? ⟨Bd, 0, none⟩ = false)
    (hg : w.cell? ⟨g, off + i, none⟩ = some (.int .u64 o)) (hgf : w.frozen? ⟨g, off + i, none⟩ = false) (h1 : g ≠ Bc) (h2 : g ≠ Bs) (h3 : Bc ≠ Bs) (h4 : g ≠ Bn) (h5 : Bc ≠ Bn) (h6 : Bs ≠ Bn) (h7 : Bd ≠ Bc) (h8 : Bd ≠ Bn) (h9 : Bd ≠ Bs) (h10 : Bd ≠ g)
    (c' : Nat) (hc' : IntKind.u64.wrap ((hi : Int) + (o2 : Int)) = (c' : Int)) :
    Calls Try.prog 39 #[.int .i64 i, .int .u64 (x : Int), .int .u64 (y : Int), .pointer (some ⟨Bn, 0, none⟩), .pointer (some ⟨Bc, 0, none⟩), .pointer (some ⟨Bd, 0, none⟩), .pointer (some ⟨Bs, 0, none⟩)] w fun e w' =>
      e = .returned (.tuple #[]) ∧ Three w w' g (off + i) s Bc c' Bd d' := by
  have hi' : (i : Int) < (m : Int) := by omega
  have HM : Hid (∀ w, Calls Try.prog 36 #[.int .u64 (y : Int), .int .u64 (n : Int)] w fun e w' => e = .returned (.tuple #[.int .u64 (hi : Int), .int .u64 (lo : Int)]) ∧ w = w') := hmul
  have HC : Hid (IntKind.u64.wrap ((hi : Int) + (o2 : Int)) = (c' : Int)) := hc'
  clear hmul hc'
  go_enter Try.func39, Try.ntmps39
  go_wp2_with fail
  refine (HM.out _).mono ?_
  rintro e w' ⟨rfl, rfl⟩
  go_wp2
  go_region
  all_goals
    go_wp2
    go_end0
    refine ⟨rfl, ?_⟩
    rw [HC.out]
    exact ⟨rfl, rfl, rfl, rfl⟩

theorem enters39 : ∀ args w, (callFunc 39 args).run Try.prog w = .ok (.enter 39 args) w := by intro args w; kernel_rfl

theorem subt_math {y n c : Nat} (hy : y < B64) (hn : n < B64) (hc : c < B64) :
    (y * n % B64 + c) % B64 = (0 + y * n + c) % B64 ∧ IntKind.u64.wrap (((y * n / B64 : Nat) : Int) + (((y * n % B64 + c) / B64 : Nat) : Int)) = (((0 + y * n + c) / B64 : Nat) : Int) := by
  have hb : 0 < B64 := by decide
  have hB : B64 = 18446744073709551616 := rfl
  have hlt := mul_bound (x := 0) hb hy hn hc
  have e1 := Nat.div_add_mod (y * n) B64
  have e2 := Nat.div_add_mod (y * n % B64 + c) B64
  have hs := Nat.mod_lt (y * n % B64 + c) hb
  have hdlt : (0 + y * n + c) / B64 < B64 := (Nat.div_lt_iff_lt_mul hb).2 hlt
  generalize y * n = p at *
  generalize p / B64 = hi at *
  generalize p % B64 = lo at *
  generalize (lo + c) / B64 = o2 at *
  generalize (lo + c) % B64 = l2 at *
  have e4 : 0 + p + c = l2 + (hi + o2) * B64 := by
    rw [Nat.add_mul, Nat.mul_comm hi, Nat.mul_comm o2]; omega
  have e5 : (0 + p + c) / B64 = hi + o2 := by rw [e4, Nat.add_mul_div_right _ _ hb, Nat.div_eq_of_lt hs, Nat.zero_add]
  have e6 : (0 + p + c) % B64 = l2 := by rw [e4, Nat.add_mul_mod_self_right, Nat.mod_eq_of_lt hs]
  rw [e5] at hdlt ⊢
  exact ⟨e6.symm, by rw [natAdd, wrapLt _ (by omega)]⟩

/-- The digits and the carries of y times n. -/
def tmC (y : Nat → Nat) (n i : Nat) : Nat := mulC B64 (fun _ => 0) y n i
def tmD (y : Nat → Nat) (n i : Nat) : Nat := mulD B64 (fun _ => 0) y n i

theorem tmC_lt {y : Nat → Nat} {n : Nat} (hy : ∀ i, y i < B64) (hn : n < B64) (i : Nat) : tmC y n i < B64 := mulC_lt (by decide) (fun _ => by decide) hy hn i
theorem tmD_lt (y : Nat → Nat) (n i : Nat) : tmD y n i < B64 := mulD_lt (by decide) _ _ _ _
theorem tmD_eq (y : Nat → Nat) (n i : Nat) : tmD y n i + tmC y n (i + 1) * B64 = y i * n + tmC y n i := by
  have := mulD_eq B64 (fun _ => 0) y n i
  unfold tmC tmD
  omega

/-- One round of subTimes: the row's number, the carry and the borrow. -/
theorem subt_step {r0 r : List Nat} {y : Nat → Nat} {n off i : Nat} (f0 : ∀ i, dg r0 i < B64) (hi : off + i < r.length) (hd : dg r (off + i) = dg r0 (off + i))
    (h : num B64 r + V B64 y i * n * B64 ^ off = num B64 r0 + (subC B64 (fun j => dg r0 (off + j)) (tmD y n) i + tmC y n i) * B64 ^ (off + i)) :
    num B64 (r.set (off + i) (subD B64 (fun j => dg r0 (off + j)) (tmD y n) i)) + V B64 y (i + 1) * n * B64 ^ off =
      num B64 r0 + (subC B64 (fun j => dg r0 (off + j)) (tmD y n) (i + 1) + tmC y n (i + 1)) * B64 ^ (off + (i + 1)) := by
  have e1 := num_set B64 r (off + i) (subD B64 (fun j => dg r0 (off + j)) (tmD y n) i) hi
  have e2 := subD_eq (b := B64) (x := fun j => dg r0 (off + j)) (y := tmD y n) (fun j => f0 _) (tmD_lt y n) i
  have e0 := tmD_eq y n i
  rw [hd] at e1
  simp only [V]
  generalize subC B64 (fun j => dg r0 (off + j)) (tmD y n) (i + 1) = b' at *
  generalize subC B64 (fun j => dg r0 (off + j)) (tmD y n) i = b at *
  generalize subD B64 (fun j => dg r0 (off + j)) (tmD y n) i = d at *
  generalize tmC y n (i + 1) = c' at *
  generalize tmC y n i = c at *
  generalize tmD y n i = p at *
  generalize dg r0 (off + i) = f at *
  have e3 : (d + y i * n + b + c) * B64 ^ (off + i) = (f + b' * B64 + c' * B64) * B64 ^ (off + i) := by congr 1; omega
  rw [Nat.add_mul, Nat.add_mul, Nat.add_mul, Nat.add_mul, Nat.add_mul] at e3
  have e4 : (b' + c') * B64 ^ (off + (i + 1)) = b' * B64 * B64 ^ (off + i) + c' * B64 * B64 ^ (off + i) := by
    rw [← Nat.add_assoc, Nat.pow_succ, Nat.mul_comm (B64 ^ (off + i)), Nat.add_mul, Nat.mul_assoc, Nat.mul_assoc]
  have e5 : (V B64 y i + y i * B64 ^ i) * n * B64 ^ off = V B64 y i * n * B64 ^ off + y i * n * B64 ^ (off + i) := by
    rw [Nat.add_mul, Nat.add_mul, Nat.pow_add]
    congr 1
    rw [Nat.mul_assoc, Nat.mul_assoc, Nat.mul_assoc, Nat.mul_comm (B64 ^ i), Nat.mul_assoc]
  rw [Nat.add_mul] at h
  rw [e4, e5]
  omega

/-- Behind i rounds of subTimes: H is the number of blocks that were there when its variables were made. -/
structure SubtInv (w : World) (H g off m cp : Nat) (r0 : List Nat) (y : Nat → Nat) (n i : Nat) (wr : World) : Prop where
  gr : w.grownBy wr (some g)
  row : ∃ r, Row .u64 33 wr g r ∧ r.length = r0.length ∧ Ok B64 r ∧ (∀ j, off + i ≤ j → dg r j = dg r0 j) ∧
    num B64 r + V B64 y i * n * B64 ^ off = num B64 r0 + (subC B64 (fun j => dg r0 (off + j)) (tmD y n) i + tmC y n i) * B64 ^ (off + i)
  boxS : Box wr H (.slice (some ⟨g, off, none⟩) m cp) 22
  boxN : Box wr (H + 1) (.int .u64 (n : Int)) 33
  car : Box wr (H + 2) (.int .u64 ((tmC y n i : Nat) : Int)) 33
  bor : Box wr (H + 3) (.int .u64 ((subC B64 (fun j => dg r0 (off + j)) (tmD y n) i : Nat) : Int)) 33

theorem SubtInv.step {w wr wr' : World} {H g off m cp n i : Nat} {r0 : List Nat} {y : Nat → Nat} (h : SubtInv w H g off m cp r0 y n i wr) (f0 : Ok B64 r0) (hg : g < H) (hH : w.heap.size ≤ H) (hi : off + i < r0.length)
    (ht : Three wr wr' g (off + i) (subD B64 (fun j => dg r0 (off + j)) (tmD y n) i) (H + 2) (tmC y n (i + 1)) (H + 3) (subC B64 (fun j => dg r0 (off + j)) (tmD y n) (i + 1))) : SubtInv w H g off m cp r0 y n (i + 1) wr' := by
  obtain ⟨r, hr, hl, ho, hd, hn⟩ := h.row
  refine ⟨?_, ⟨_, (((hr.other (by show g ≠ H + 2; omega) _).set (off + i) _).other (by show g ≠ H + 3; omega) _).alike ht, by simp [hl], ho.set (by omega) (Nat.mod_lt _ (by decide)), ?_, ?_⟩, ?_, ?_, ?_, ?_⟩
  · exact grownBy_like (grownBy_set (grownBy_set (grownBy_set h.gr _ _ (.inr (by show _ ≤ H + 2; omega))) _ _ (.inl rfl)) _ _ (.inr (by show _ ≤ H + 3; omega))) ht
  · intro j hj
    rw [dg_set _ _ _ _ (by omega), if_neg (by omega)]
    exact hd j (by omega)
  · exact subt_step f0 (by omega) (hd _ (by omega)) hn
  · exact (((h.boxS.other (by show H ≠ H + 2; omega) _).other (by show H ≠ g; omega) _).other (by show H ≠ H + 3; omega) _).alike ht
  · exact (((h.boxN.other (by show H + 1 ≠ H + 2; omega) _).other (by show H + 1 ≠ g; omega) _).other (by show H + 1 ≠ H + 3; omega) _).alike ht
  · exact (((h.car.set _).other (by show H + 2 ≠ g; omega) _).other (by show H + 2 ≠ H + 3; omega) _).alike ht
  · exact (((h.bor.other (by show H + 3 ≠ H + 2; omega) _).other (by show H + 3 ≠ g; omega) _).set _).alike ht

/-- What subTimes leaves in the block g, and what it answers: the row's number without the list's n times at the place off, or, where that goes below nought, B64 ^ last more. -/
def SubtPost (w : World) (g : Nat) (r0 : List Nat) (take last : Nat) (e : Ending) (w' : World) : Prop :=
  ∃ d, e = .returned (.bool (d != 0)) ∧ d ≤ 1 ∧ w.grownBy w' (some g) ∧ ∃ r, Row .u64 33 w' g r ∧ r.length = r0.length ∧ Ok B64 r ∧ (∀ j, last ≤ j → dg r j = dg r0 j) ∧ num B64 r + take = num B64 r0 + d * B64 ^ last

set_option maxHeartbeats 2000000 in
theorem subTimes_any (g off p cp cb n : Nat) (bo : Option Addr) (r0 ys : List Nat) (w : World) (hp : p ≤ 100000000000) (hy : ys.length = p) (hay : At .u64 w bo ys) (oy : Ok B64 ys) (hn : n < B64)
    (hr : Row .u64 33 w g r0) (o0 : Ok B64 r0) (hoff : off + p < r0.length) (hng : ∀ b o, ys ≠ [] → bo = some ⟨b, o, none⟩ → b ≠ g) :
    Calls Try.prog 32 #[.slice (some ⟨g, off, none⟩) (p + 1) cp, .slice bo p cb, .int .u64 (n : Int)] w (SubtPost w g r0 (num B64 ys * n * B64 ^ off) (off + (p + 1))) := by
  have hb : 0 < B64 := by decide
  have hglt := hr.lt
  go_enter Try.func32, Try.ntmps32
  go_wp2_with fail
  refine (each_any _ bo (p + 1) cp p cb 39 _ (fun i => dg r0 (off + i)) (dg ys) (fun i wr => SubtInv w w.heap.size g off (p + 1) cp r0 (dg ys) n i wr) _ (by omega) (by omega) enters39 ?_ ?_ ?_ ?_).mono ?_
  · intro i wr hi h
    obtain ⟨r, hr, hl, _, hd, _⟩ := h.row
    refine ⟨fun _ => ⟨g, off, rfl, ?_⟩, fun h => by omega⟩
    rw [hr.cell _ (by omega), hd _ (by omega)]
  · intro i wr hi h
    subst hy
    refine ⟨fun hil => ?_, fun h => dg_out h⟩
    rcases hay with rfl | ⟨b, o, h1, h2, h3⟩
    · simp at hil
    · refine ⟨b, o, h1, ?_⟩
      rw [World.cell?_of_block (w := w) (h.gr.block b h2 (by simp; exact hng b o (by intro e; rw [e] at hil; simp at hil) h1))]
      exact h3 i hil
  · intro i wr hi h
    have hi' : i < p + 1 := by omega
    obtain ⟨r, hr', hl, _, hd, _⟩ := h.row
    have tm := subt_math (y := dg ys i) (n := n) (c := tmC (dg ys) n i) (oy _) hn (tmC_lt oy hn i)
    refine (subt1 i _ _ n (tmC (dg ys) n i) (subC B64 (fun j => dg r0 (off + j)) (tmD (dg ys) n) i) (p + 1) cp g off (w.heap.size + 1) (w.heap.size + 2) (w.heap.size + 3) w.heap.size _ _ (tmD (dg ys) n i) _ (subD B64 (fun j => dg r0 (off + j)) (tmD (dg ys) n) i) (subC B64 (fun j => dg r0 (off + j)) (tmD (dg ys) n) (i + 1)) _ wr hi' (by omega)
      (fun w => mul64 _ _ w (oy i) hn) ?_ (fun w => call_sub64 _ _ _ (subC_le i) w) h.boxS.cell h.boxN.cell h.car.cell h.car.free h.bor.cell h.bor.free (hr'.cell _ (by omega)) (hr'.free _) (by omega) (by omega) (by omega) (by omega) (by omega) (by omega) (by omega) (by omega) (by omega) (by omega)
      (tmC (dg ys) n (i + 1)) tm.2).mono ?_
    · intro w
      have := call_add64_0 (dg ys i * n % B64) (tmC (dg ys) n i) w
      rw [tm.1] at this
      exact this
    · rintro e w' ⟨rfl, ht⟩
      exact ⟨rfl, h.step o0 hglt (Nat.le_refl _) (by omega) ht⟩
  · refine ⟨?_, ⟨r0, (((hr.alloc _).alloc _).alloc _).alloc _, rfl, o0, fun _ _ => rfl, by simp [tmC, mulC, subC, V]⟩, (((Box.new _ _ _).alloc _).alloc _).alloc _, ?_, ?_, ?_⟩
    · refine ⟨rfl, rfl, rfl, by simp; omega, fun k hk _ => ?_⟩
      rw [Below.heap_alloc _ _ _ (by simp; omega), Below.heap_alloc _ _ _ (by simp; omega), Below.heap_alloc _ _ _ (by simp; omega), Below.heap_alloc _ _ _ hk]
    · have := ((Box.new (w.alloc (Obj.cells #[Value.slice (some { block := g, off := off }) (p + 1) cp] 22)) (.int .u64 (n : Int)) 33).alloc (Obj.cells #[Value.int IntKind.u64 0] 33)).alloc (Obj.cells #[Value.int IntKind.u64 0] 33)
      simpa using this
    · have := (Box.new ((w.alloc (Obj.cells #[Value.slice (some { block := g, off := off }) (p + 1) cp] 22)).alloc (Obj.cells #[Value.int IntKind.u64 (n : Int)] 33)) (.int .u64 0) 33).alloc (Obj.cells #[Value.int IntKind.u64 0] 33)
      simpa [tmC, mulC] using this
    · have := Box.new (((w.alloc (Obj.cells #[Value.slice (some { block := g, off := off }) (p + 1) cp] 22)).alloc (Obj.cells #[Value.int IntKind.u64 (n : Int)] 33)).alloc (Obj.cells #[Value.int IntKind.u64 0] 33)) (.int .u64 0) 33
      simpa [subC] using this
  · rintro e w2 ⟨rfl, h⟩
    rw [show max (p + 1) p = p + 1 by omega] at h
    obtain ⟨r, hr2, hl, ho, hd, hnum⟩ := h.row
    have c1 := h.bor.cell
    have hle := subC_le (b := B64) (x := fun j => dg r0 (off + j)) (y := tmD (dg ys) n) (p + 1)
    have hc0 : tmC (dg ys) n (p + 1) = 0 := by
      simp only [tmC, mulC]
      rw [dg_out (by omega), Nat.zero_mul, Nat.zero_add]
      exact Nat.div_eq_of_lt (tmC_lt oy hn p)
    rw [hc0, num_eq (by omega), Nat.add_zero] at hnum
    have hgr := h.gr
    obtain ⟨d, hd'⟩ : ∃ d, d = subC B64 (fun j => dg r0 (off + j)) (tmD (dg ys) n) (p + 1) := ⟨_, rfl⟩
    rw [← hd'] at c1 hle hnum
    have HN : Hid (num B64 r + num B64 ys * n * B64 ^ off = num B64 r0 + d * B64 ^ (off + (p + 1))) := hnum
    have HD : Hid (∀ j, off + (p + 1) ≤ j → dg r j = dg r0 j) := hd
    have HL : Hid (r.length = r0.length) := hl
    clear hnum hd hl hd' h hc0
    have hdd : d = 0 ∨ d = 1 := by omega
    rcases hdd with rfl | rfl
    · go_wp2
      go_ret
      exact ⟨0, rfl, hle, hgr, r, hr2, HL.out, ho, HD.out, HN.out⟩
    · go_wp2
      go_ret
      exact ⟨1, rfl, hle, hgr, r, hr2, HL.out, ho, HD.out, HN.out⟩

end Go.Proofs.Ytpiloigpncbccaa
