/-
  What nat.addTimes and nat.Mul do.
-/
import Derived.Test.YtpiloigpncbccaaNorm
import Derived.Test.YtpiloigpncbccaaMulM
namespace Go.Proofs.Ytpiloigpncbccaa
open Go.RowKit

theorem call_add64_0 (x y : Nat) (w : World) :
    (callFunc 25 #[.int .u64 (x : Int), .int .u64 (y : Int), .int .u64 0]).run Try.prog w =
      .ok (.value (.tuple #[.int .u64 (((x + y) % B64 : Nat) : Int), .int .u64 (((x + y) / B64 : Nat) : Int)])) w := by
  have := call_add64 x y 0 (by omega) w
  simpa using this

set_option maxHeartbeats 2000000 in
theorem times1 (i x y n c m cp g off Bn Bc Bs hi lo l2 o2 s o3 : Nat) (o : Int) (w : World) (hil : i < m) (_hm : m ≤ 1000000000000)
    (hmul : ∀ w, Calls Try.prog 36 #[.int .u64 (y : Int), .int .u64 (n : Int)] w fun e w' => e = .returned (.tuple #[.int .u64 (hi : Int), .int .u64 (lo : Int)]) ∧ w = w')
    (hrun1 : ∀ w, (callFunc 25 #[.int .u64 (lo : Int), .int .u64 (c : Int), .int .u64 0]).run Try.prog w = .ok (.value (.tuple #[.int .u64 (l2 : Int), .int .u64 (o2 : Int)])) w)
    (hrun2 : ∀ w, (callFunc 25 #[.int .u64 (x : Int), .int .u64 (l2 : Int), .int .u64 0]).run Try.prog w = .ok (.value (.tuple #[.int .u64 (s : Int), .int .u64 (o3 : Int)])) w)
    (hs : w.cell? ⟨Bs, 0, none⟩ = some (.slice (some ⟨g, off, none⟩) m cp)) (hn : w.cell? ⟨Bn, 0, none⟩ = some (.int .u64 (n : Int))) (hc : w.cell? ⟨Bc, 0, none⟩ = some (.int .u64 (c : Int))) (hcf : w.frozen? ⟨Bc, 0, none⟩ = false)
    (hg : w.cell? ⟨g, off + i, none⟩ = some (.int .u64 o)) (hgf : w.frozen? ⟨g, off + i, none⟩ = false) (h1 : g ≠ Bc) (h2 : g ≠ Bs) (h3 : Bc ≠ Bs) (h4 : g ≠ Bn) (h5 : Bc ≠ Bn) (h6 : Bs ≠ Bn)
    (c' : Nat) (hc' : IntKind.u64.wrap (IntKind.u64.wrap ((hi : Int) + (o2 : Int)) + (o3 : Int)) = (c' : Int)) :
    Calls Try.prog 35 #[.int .i64 i, .int .u64 (x : Int), .int .u64 (y : Int), .pointer (some ⟨Bn, 0, none⟩), .pointer (some ⟨Bc, 0, none⟩), .pointer (some ⟨Bs, 0, none⟩)] w fun e w' =>
      e = .returned (.tuple #[]) ∧ Two w w' g (off + i) s Bc c' := by
  have hi' : (i : Int) < (m : Int) := by omega
  have HM : Hid (∀ w, Calls Try.prog 36 #[.int .u64 (y : Int), .int .u64 (n : Int)] w fun e w' => e = .returned (.tuple #[.int .u64 (hi : Int), .int .u64 (lo : Int)]) ∧ w = w') := hmul
  have HC : Hid (IntKind.u64.wrap (IntKind.u64.wrap ((hi : Int) + (o2 : Int)) + (o3 : Int)) = (c' : Int)) := hc'
  clear hmul hc'
  go_enter Try.func35, Try.ntmps35
  go_wp2_with fail
  refine (HM.out _).mono ?_
  rintro e w' ⟨rfl, rfl⟩
  go_wp2
  go_region
  all_goals
    go_wp2
    go_end0
    refine ⟨rfl, ?_⟩
    rw [HC.out]
    exact ⟨rfl, rfl, rfl, rfl⟩


theorem times_math {x y n c : Nat} (hx : x < B64) (hy : y < B64) (hn : n < B64) (hc : c < B64) :
    (x + (y * n % B64 + c) % B64) % B64 = (x + y * n + c) % B64 ∧
    IntKind.u64.wrap (IntKind.u64.wrap (((y * n / B64 : Nat) : Int) + (((y * n % B64 + c) / B64 : Nat) : Int)) + (((x + (y * n % B64 + c) % B64) / B64 : Nat) : Int)) = (((x + y * n + c) / B64 : Nat) : Int) := by
  have hb : 0 < B64 := by decide
  have hB : B64 = 18446744073709551616 := rfl
  have hlt := mul_bound hx hy hn hc
  have e1 := Nat.div_add_mod (y * n) B64
  have e2 := Nat.div_add_mod (y * n % B64 + c) B64
  have e3 := Nat.div_add_mod (x + (y * n % B64 + c) % B64) B64
  have hs := Nat.mod_lt (x + (y * n % B64 + c) % B64) hb
  have hdlt : (x + y * n + c) / B64 < B64 := (Nat.div_lt_iff_lt_mul hb).2 hlt
  generalize y * n = p at *
  generalize p / B64 = hi at *
  generalize p % B64 = lo at *
  generalize (lo + c) / B64 = o2 at *
  generalize (lo + c) % B64 = l2 at *
  generalize (x + l2) / B64 = o3 at *
  generalize (x + l2) % B64 = s at *
  have e4 : x + p + c = s + (hi + o2 + o3) * B64 := by
    rw [Nat.add_mul, Nat.add_mul, Nat.mul_comm hi, Nat.mul_comm o2, Nat.mul_comm o3]; omega
  have e5 : (x + p + c) / B64 = hi + o2 + o3 := by rw [e4, Nat.add_mul_div_right _ _ hb, Nat.div_eq_of_lt hs, Nat.zero_add]
  have e6 : (x + p + c) % B64 = s := by rw [e4, Nat.add_mul_mod_self_right, Nat.mod_eq_of_lt hs]
  rw [e5] at hdlt ⊢
  refine ⟨e6.symm, ?_⟩
  rw [natAdd, wrapLt _ (by omega), natAdd, wrapLt _ (by omega)]

theorem enters35 : ∀ args w, (callFunc 35 args).run Try.prog w = .ok (.enter 35 args) w := by intro args w; kernel_rfl

/-- Behind i rounds of addTimes: H is the number of blocks that were there when its variables were made. -/
structure TimesInv (w : World) (H g off m cp : Nat) (r0 : List Nat) (y : Nat → Nat) (n i : Nat) (wr : World) : Prop where
  gr : w.grownBy wr (some g)
  row : ∃ r, Row .u64 33 wr g r ∧ r.length = r0.length ∧ Ok B64 r ∧ (∀ j, off + i ≤ j → dg r j = dg r0 j) ∧
    num B64 r + mulC B64 (fun j => dg r0 (off + j)) y n i * B64 ^ (off + i) = num B64 r0 + V B64 y i * n * B64 ^ off
  boxS : Box wr H (.slice (some ⟨g, off, none⟩) m cp) 22
  boxN : Box wr (H + 1) (.int .u64 (n : Int)) 33
  car : Box wr (H + 2) (.int .u64 ((mulC B64 (fun j => dg r0 (off + j)) y n i : Nat) : Int)) 33

theorem grownBy_like {w wr wr' : World} {row : Option Nat} (h : w.grownBy wr row) (hl : Like wr' wr) : w.grownBy wr' row :=
  ⟨hl.2.1.trans h.os, hl.2.2.1.trans h.tape, hl.2.2.2.trans h.output, by rw [hl.1]; exact h.size, fun k hk hne => by rw [hl.1]; exact h.block k hk hne⟩

theorem grownBy_set {w wr : World} {g : Nat} (h : w.grownBy wr (some g)) (a : Addr) (u : Value) (ha : a.block = g ∨ w.heap.size ≤ a.block) : w.grownBy (wr.setCell a u) (some g) :=
  ⟨h.os, h.tape, h.output, by simpa [World.setCell] using h.size, fun k hk hne => by
    rw [Below.heap_setCell _ _ _ _ (by rintro rfl; rcases ha with ha | ha; exact hne (by rw [ha]); omega)]
    exact h.block k hk hne⟩

theorem TimesInv.step {w wr wr' : World} {H g off m cp n i : Nat} {r0 : List Nat} {y : Nat → Nat} (h : TimesInv w H g off m cp r0 y n i wr) (hg : g < H) (hH : w.heap.size ≤ H) (hi : off + i < r0.length)
    (ht : Two wr wr' g (off + i) (mulD B64 (fun j => dg r0 (off + j)) y n i) (H + 2) (mulC B64 (fun j => dg r0 (off + j)) y n (i + 1))) : TimesInv w H g off m cp r0 y n (i + 1) wr' := by
  obtain ⟨r, hr, hl, ho, hd, hn⟩ := h.row
  refine ⟨?_, ⟨_, ((hr.set (off + i) _).other (by show g ≠ H + 2; omega) _).alike ht, by simp [hl], ho.set (by omega) (mulD_lt (by decide) _ _ _ _), ?_, ?_⟩, ?_, ?_, ?_⟩
  · exact grownBy_like (grownBy_set (grownBy_set h.gr _ _ (.inl rfl)) _ _ (.inr (by show _ ≤ H + 2; omega))) ht
  · intro j hj
    rw [dg_set _ _ _ _ (by omega), if_neg (by omega)]
    exact hd j (by omega)
  · exact mul_step (by omega) (hd _ (by omega)) hn
  · exact ((h.boxS.other (by show H ≠ g; omega) _).other (by show H ≠ H + 2; omega) _).alike ht
  · exact ((h.boxN.other (by show H + 1 ≠ g; omega) _).other (by show H + 1 ≠ H + 2; omega) _).alike ht
  · exact ((h.car.other (by show H + 2 ≠ g; omega) _).set _).alike ht

/-- What addTimes leaves in the block g: the row's number, and p times the number y to the place off. -/
def TimesPost (w : World) (g : Nat) (r0 : List Nat) (add last : Nat) (e : Ending) (w' : World) : Prop :=
  e = .returned (.tuple #[]) ∧ w.grownBy w' (some g) ∧ ∃ r, Row .u64 33 w' g r ∧ r.length = r0.length ∧ Ok B64 r ∧ (∀ j, last ≤ j → dg r j = dg r0 j) ∧ num B64 r = num B64 r0 + add

set_option maxHeartbeats 2000000 in
theorem addTimes_any (g off p cp cb n : Nat) (bo : Option Addr) (r0 ys : List Nat) (w : World) (hp : p ≤ 100000000000) (hy : ys.length = p) (hay : At .u64 w bo ys) (oy : Ok B64 ys) (hn : n < B64)
    (hr : Row .u64 33 w g r0) (o0 : Ok B64 r0) (hoff : off + p < r0.length) (hz : dg r0 (off + p) = 0) (hng : ∀ b o, ys ≠ [] → bo = some ⟨b, o, none⟩ → b ≠ g) :
    Calls Try.prog 26 #[.slice (some ⟨g, off, none⟩) (p + 1) cp, .slice bo p cb, .int .u64 (n : Int)] w (TimesPost w g r0 (num B64 ys * n * B64 ^ off) (off + p + 1)) := by
  have hb : 0 < B64 := by decide
  have hglt := hr.lt
  have f0 : ∀ i, (fun j => dg r0 (off + j)) i < B64 := fun i => o0 _
  go_enter Try.func26, Try.ntmps26
  go_wp2_with fail
  refine (each_any _ bo (p + 1) cp p cb 35 _ (fun i => dg r0 (off + i)) (dg ys) (fun i wr => TimesInv w w.heap.size g off (p + 1) cp r0 (dg ys) n i wr) _ (by omega) (by omega) enters35 ?_ ?_ ?_ ?_).mono ?_
  · intro i wr hi h
    obtain ⟨r, hr, hl, _, hd, _⟩ := h.row
    refine ⟨fun _ => ⟨g, off, rfl, ?_⟩, fun h => by omega⟩
    rw [hr.cell _ (by omega), hd _ (by omega)]
  · intro i wr hi h
    subst hy
    refine ⟨fun hil => ?_, fun h => dg_out h⟩
    rcases hay with rfl | ⟨b, o, h1, h2, h3⟩
    · simp at hil
    · refine ⟨b, o, h1, ?_⟩
      rw [World.cell?_of_block (w := w) (h.gr.block b h2 (by simp; exact hng b o (by intro e; rw [e] at hil; simp at hil) h1))]
      exact h3 i hil
  · intro i wr hi h
    have hi' : i < p + 1 := by omega
    obtain ⟨r, hr', hl, _, hd, _⟩ := h.row
    have tm := times_math (x := dg r0 (off + i)) (y := dg ys i) (n := n) (c := mulC B64 (fun j => dg r0 (off + j)) (dg ys) n i) (o0 _) (oy _) hn (mulC_lt hb f0 oy hn i)
    refine (times1 i _ _ n (mulC B64 (fun j => dg r0 (off + j)) (dg ys) n i) (p + 1) cp g off (w.heap.size + 1) (w.heap.size + 2) w.heap.size _ _ _ _ (mulD B64 (fun j => dg r0 (off + j)) (dg ys) n i) _ _ wr hi' (by omega)
      (fun w => mul64 _ _ w (oy i) hn) (fun w => call_add64_0 _ _ w) ?_ h.boxS.cell h.boxN.cell h.car.cell h.car.free (hr'.cell _ (by omega)) (hr'.free _) (by omega) (by omega) (by omega) (by omega) (by omega) (by omega)
      (mulC B64 (fun j => dg r0 (off + j)) (dg ys) n (i + 1)) tm.2).mono ?_
    · intro w
      have := call_add64_0 (dg r0 (off + i)) ((dg ys i * n % B64 + mulC B64 (fun j => dg r0 (off + j)) (dg ys) n i) % B64) w
      rw [tm.1] at this
      exact this
    · rintro e w' ⟨rfl, ht⟩
      exact ⟨rfl, h.step hglt (Nat.le_refl _) (by omega) ht⟩
  · refine ⟨?_, ⟨r0, ((hr.alloc _).alloc _).alloc _, rfl, o0, fun _ _ => rfl, by simp [mulC, V]⟩, ((Box.new _ _ _).alloc _).alloc _, ?_, ?_⟩
    · refine ⟨rfl, rfl, rfl, by simp; omega, fun k hk _ => ?_⟩
      rw [Below.heap_alloc _ _ _ (by simp; omega), Below.heap_alloc _ _ _ (by simp; omega), Below.heap_alloc _ _ _ hk]
    · have := (Box.new (w.alloc (Obj.cells #[Value.slice (some { block := g, off := off }) (p + 1) cp] 22)) (.int .u64 (n : Int)) 33).alloc (Obj.cells #[Value.int IntKind.u64 0] 33)
      simpa using this
    · have := Box.new ((w.alloc (Obj.cells #[Value.slice (some { block := g, off := off }) (p + 1) cp] 22)).alloc (Obj.cells #[Value.int IntKind.u64 (n : Int)] 33)) (.int .u64 0) 33
      simpa [mulC] using this
  · rintro e w2 ⟨rfl, h⟩
    go_wp2
    go_end0
    rw [show max (p + 1) p = p + 1 by omega] at h
    obtain ⟨r, hr2, hl, ho, hd, hnum⟩ := h.row
    refine ⟨rfl, h.gr, r, hr2, hl, ho, fun j hj => hd j (by omega), ?_⟩
    have hc0 : mulC B64 (fun j => dg r0 (off + j)) (dg ys) n (p + 1) = 0 := by
      simp only [mulC]
      rw [hz, dg_out (by omega), Nat.zero_mul, Nat.zero_add]
      exact Nat.div_eq_of_lt (mulC_lt hb f0 oy hn p)
    rw [hc0, num_eq (by omega)] at hnum
    omega

end Go.Proofs.Ytpiloigpncbccaa
