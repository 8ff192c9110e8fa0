/-
  What nat.subTimes does to a row.
  Plain mathematics of dividing two digits by one, half a digit at a time (as the library's Div64 does).
  What math/bits.Div64 does, walked through the library's own text.
  Plain mathematics: how many bits a number has, by its highest digit.
-/
import Derived.Test.YtobloamnaemfnaaGreatDoorVB2
import Derived.Test.YtobloamnaemfnaaGreatDoorVBits
import Derived.Deep.QuietTactic
import Derived.BigQuiet
import Derived.Test.YtobloamnaemfnaaGreatDoorVNum
import Derived.Lib.BitFns
namespace Go.Proofs.YtobloamnaemfnaaGreatDoor
open Go.RowKit

def Three (w w' : World) (g i s Bc c Bd d : Nat) : Prop :=
  Like w' (((w.setCell ⟨Bc, 0, none⟩ (.int .u64 (c : Int))).setCell ⟨g, i, none⟩ (.int .u64 (s : Int))).setCell ⟨Bd, 0, none⟩ (.int .u64 (d : Int)))

set_option maxHeartbeats 2000000 in
theorem subt1 (i x y n c d m cp g off Bn Bc Bd Bs hi lo l2 o2 s d' : Nat) (o : Int) (w : World) (hil : i < m) (_hm : m ≤ 1000000000000)
    (hmul : ∀ w, Calls Tryz.prog 200 #[.int .u64 (y : Int), .int .u64 (n : Int)] w fun e w' => e = .returned (.tuple #[.int .u64 (hi : Int), .int .u64 (lo : Int)]) ∧ w = w')
    (hrun1 : ∀ w, (callFunc 201 #[.int .u64 (lo : Int), .int .u64 (c : Int), .int .u64 0]).run Tryz.prog w = .ok (.value (.tuple #[.int .u64 (l2 : Int), .int .u64 (o2 : Int)])) w)
    (hrun2 : ∀ w, (callFunc 225 #[.int .u64 (x : Int), .int .u64 (l2 : Int), .int .u64 (d : Int)]).run Tryz.prog w = .ok (.value (.tuple #[.int .u64 (s : Int), .int .u64 (d' : Int)])) w)
    (hs : w.cell? ⟨Bs, 0, none⟩ = some (.slice (some ⟨g, off, none⟩) m cp)) (hn : w.cell? ⟨Bn, 0, none⟩ = some (.int .u64 (n : Int))) (hc : w.cell? ⟨Bc, 0, none⟩ = some (.int .u64 (c : Int))) (hcf : w.frozen? ⟨Bc, 0, none⟩ = false)
    (hd : w.cell? ⟨Bd, 0, none⟩ = some (.int .u64 (d : Int))) (hdf : w.frozen? ⟨Bd, 0, none⟩ = false)
    (hg : w.cell? ⟨g, off + i, none⟩ = some (.int .u64 o)) (hgf : w.frozen? ⟨g, off + i, none⟩ = false) (h1 : g ≠ Bc) (h2 : g ≠ Bs) (h3 : Bc ≠ Bs) (h4 : g ≠ Bn) (h5 : Bc ≠ Bn) (h6 : Bs ≠ Bn) (h7 : Bd ≠ Bc) (h8 : Bd ≠ Bn) (h9 : Bd ≠ Bs) (h10 : Bd ≠ g)
    (c' : Nat) (hc' : IntKind.u64.wrap ((hi : Int) + (o2 : Int)) = (c' : Int)) :
    Calls Tryz.prog 254 #[.int .i64 i, .int .u64 (x : Int), .int .u64 (y : Int), .pointer (some ⟨Bn, 0, none⟩), .pointer (some ⟨Bc, 0, none⟩), .pointer (some ⟨Bd, 0, none⟩), .pointer (some ⟨Bs, 0, none⟩)] w fun e w' =>
      e = .returned (.tuple #[]) ∧ Three w w' g (off + i) s Bc c' Bd d' := by
  have hi' : (i : Int) < (m : Int) := by omega
  have HM : Hid (∀ w, Calls Tryz.prog 200 #[.int .u64 (y : Int), .int .u64 (n : Int)] w fun e w' => e = .returned (.tuple #[.int .u64 (hi : Int), .int .u64 (lo : Int)]) ∧ w = w') := hmul
  have HC : Hid (IntKind.u64.wrap ((hi : Int) + (o2 : Int)) = (c' : Int)) := hc'
  clear hmul hc'
  go_enter Tryz.func254, Tryz.ntmps254
  go_wp2_with fail
  refine (HM.out _).mono ?_
  rintro e w' ⟨rfl, rfl⟩
  go_wp2
  go_region
  all_goals
    go_wp2
    go_end0
    refine ⟨rfl, ?_⟩
    rw [HC.out]
    exact ⟨rfl, rfl, rfl, rfl⟩

theorem enters254 : ∀ args w, (callFunc 254 args).run Tryz.prog w = .ok (.enter 254 args) w := by intro args w; kernel_rfl

theorem subt_math {y n c : Nat} (hy : y < B64) (hn : n < B64) (hc : c < B64) :
    (y * n % B64 + c) % B64 = (0 + y * n + c) % B64 ∧ IntKind.u64.wrap (((y * n / B64 : Nat) : Int) + (((y * n % B64 + c) / B64 : Nat) : Int)) = (((0 + y * n + c) / B64 : Nat) : Int) := by
  have hb : 0 < B64 := by decide
  have hB : B64 = 18446744073709551616 := rfl
  have hlt := mul_bound (x := 0) hb hy hn hc
  have e1 := Nat.div_add_mod (y * n) B64
  have e2 := Nat.div_add_mod (y * n % B64 + c) B64
  have hs := Nat.mod_lt (y * n % B64 + c) hb
  have hdlt : (0 + y * n + c) / B64 < B64 := (Nat.div_lt_iff_lt_mul hb).2 hlt
  generalize y * n = p at *
  generalize p / B64 = hi at *
  generalize p % B64 = lo at *
  generalize (lo + c) / B64 = o2 at *
  generalize (lo + c) % B64 = l2 at *
  have e4 : 0 + p + c = l2 + (hi + o2) * B64 := by
    rw [Nat.add_mul, Nat.mul_comm hi, Nat.mul_comm o2]; omega
  have e5 : (0 + p + c) / B64 = hi + o2 := by rw [e4, Nat.add_mul_div_right _ _ hb, Nat.div_eq_of_lt hs, Nat.zero_add]
  have e6 : (0 + p + c) % B64 = l2 := by rw [e4, Nat.add_mul_mod_self_right, Nat.mod_eq_of_lt hs]
  rw [e5] at hdlt ⊢
  exact ⟨e6.symm, by rw [natAdd, wrapLt _ (by omega)]⟩

def tmC (y : Nat → Nat) (n i : Nat) : Nat := mulC B64 (fun _ => 0) y n i
def tmD (y : Nat → Nat) (n i : Nat) : Nat := mulD B64 (fun _ => 0) y n i

theorem tmC_lt {y : Nat → Nat} {n : Nat} (hy : ∀ i, y i < B64) (hn : n < B64) (i : Nat) : tmC y n i < B64 := mulC_lt (by decide) (fun _ => by decide) hy hn i
theorem tmD_lt (y : Nat → Nat) (n i : Nat) : tmD y n i < B64 := mulD_lt (by decide) _ _ _ _
theorem tmD_eq (y : Nat → Nat) (n i : Nat) : tmD y n i + tmC y n (i + 1) * B64 = y i * n + tmC y n i := by
  have := mulD_eq B64 (fun _ => 0) y n i
  unfold tmC tmD
  omega

theorem subt_step {r0 r : List Nat} {y : Nat → Nat} {n off i : Nat} (f0 : ∀ i, dg r0 i < B64) (hi : off + i < r.length) (hd : dg r (off + i) = dg r0 (off + i))
    (h : num B64 r + V B64 y i * n * B64 ^ off = num B64 r0 + (subC B64 (fun j => dg r0 (off + j)) (tmD y n) i + tmC y n i) * B64 ^ (off + i)) :
    num B64 (r.set (off + i) (subD B64 (fun j => dg r0 (off + j)) (tmD y n) i)) + V B64 y (i + 1) * n * B64 ^ off =
      num B64 r0 + (subC B64 (fun j => dg r0 (off + j)) (tmD y n) (i + 1) + tmC y n (i + 1)) * B64 ^ (off + (i + 1)) := by
  have e1 := num_set B64 r (off + i) (subD B64 (fun j => dg r0 (off + j)) (tmD y n) i) hi
  have e2 := subD_eq (b := B64) (x := fun j => dg r0 (off + j)) (y := tmD y n) (fun j => f0 _) (tmD_lt y n) i
  have e0 := tmD_eq y n i
  rw [hd] at e1
  simp only [V]
  generalize subC B64 (fun j => dg r0 (off + j)) (tmD y n) (i + 1) = b' at *
  generalize subC B64 (fun j => dg r0 (off + j)) (tmD y n) i = b at *
  generalize subD B64 (fun j => dg r0 (off + j)) (tmD y n) i = d at *
  generalize tmC y n (i + 1) = c' at *
  generalize tmC y n i = c at *
  generalize tmD y n i = p at *
  generalize dg r0 (off + i) = f at *
  have e3 : (d + y i * n + b + c) * B64 ^ (off + i) = (f + b' * B64 + c' * B64) * B64 ^ (off + i) := by congr 1; omega
  rw [Nat.add_mul, Nat.add_mul, Nat.add_mul, Nat.add_mul, Nat.add_mul] at e3
  have e4 : (b' + c') * B64 ^ (off + (i + 1)) = b' * B64 * B64 ^ (off + i) + c' * B64 * B64 ^ (off + i) := by
    rw [← Nat.add_assoc, Nat.pow_succ, Nat.mul_comm (B64 ^ (off + i)), Nat.add_mul, Nat.mul_assoc, Nat.mul_assoc]
  have e5 : (V B64 y i + y i * B64 ^ i) * n * B64 ^ off = V B64 y i * n * B64 ^ off + y i * n * B64 ^ (off + i) := by
    rw [Nat.add_mul, Nat.add_mul, Nat.pow_add]
    congr 1
    rw [Nat.mul_assoc, Nat.mul_assoc, Nat.mul_assoc, Nat.mul_comm (B64 ^ i), Nat.mul_assoc]
  rw [Nat.add_mul] at h
  rw [e4, e5]
  omega

structure SubtInv (w : World) (H g off m cp : Nat) (r0 : List Nat) (y : Nat → Nat) (n i : Nat) (wr : World) : Prop where
  gr : w.grownBy wr (some g)
  row : ∃ r, Row .u64 134 wr g r ∧ r.length = r0.length ∧ Ok B64 r ∧ (∀ j, off + i ≤ j → dg r j = dg r0 j) ∧
    num B64 r + V B64 y i * n * B64 ^ off = num B64 r0 + (subC B64 (fun j => dg r0 (off + j)) (tmD y n) i + tmC y n i) * B64 ^ (off + i)
  boxS : Box wr H (.slice (some ⟨g, off, none⟩) m cp) 118
  boxN : Box wr (H + 1) (.int .u64 (n : Int)) 134
  car : Box wr (H + 2) (.int .u64 ((tmC y n i : Nat) : Int)) 134
  bor : Box wr (H + 3) (.int .u64 ((subC B64 (fun j => dg r0 (off + j)) (tmD y n) i : Nat) : Int)) 134

theorem SubtInv.step {w wr wr' : World} {H g off m cp n i : Nat} {r0 : List Nat} {y : Nat → Nat} (h : SubtInv w H g off m cp r0 y n i wr) (f0 : Ok B64 r0) (hg : g < H) (hH : w.heap.size ≤ H) (hi : off + i < r0.length)
    (ht : Three wr wr' g (off + i) (subD B64 (fun j => dg r0 (off + j)) (tmD y n) i) (H + 2) (tmC y n (i + 1)) (H + 3) (subC B64 (fun j => dg r0 (off + j)) (tmD y n) (i + 1))) : SubtInv w H g off m cp r0 y n (i + 1) wr' := by
  obtain ⟨r, hr, hl, ho, hd, hn⟩ := h.row
  refine ⟨?_, ⟨_, (((hr.other (by show g ≠ H + 2; omega) _).set (off + i) _).other (by show g ≠ H + 3; omega) _).alike ht, by simp [hl], ho.set (by omega) (Nat.mod_lt _ (by decide)), ?_, ?_⟩, ?_, ?_, ?_, ?_⟩
  · exact grownBy_like (grownBy_set (grownBy_set (grownBy_set h.gr _ _ (.inr (by show _ ≤ H + 2; omega))) _ _ (.inl rfl)) _ _ (.inr (by show _ ≤ H + 3; omega))) ht
  · intro j hj
    rw [dg_set _ _ _ _ (by omega), if_neg (by omega)]
    exact hd j (by omega)
  · exact subt_step f0 (by omega) (hd _ (by omega)) hn
  · exact (((h.boxS.other (by show H ≠ H + 2; omega) _).other (by show H ≠ g; omega) _).other (by show H ≠ H + 3; omega) _).alike ht
  · exact (((h.boxN.other (by show H + 1 ≠ H + 2; omega) _).other (by show H + 1 ≠ g; omega) _).other (by show H + 1 ≠ H + 3; omega) _).alike ht
  · exact (((h.car.set _).other (by show H + 2 ≠ g; omega) _).other (by show H + 2 ≠ H + 3; omega) _).alike ht
  · exact (((h.bor.other (by show H + 3 ≠ H + 2; omega) _).other (by show H + 3 ≠ g; omega) _).set _).alike ht

def SubtPost (w : World) (g : Nat) (r0 : List Nat) (take last : Nat) (e : Ending) (w' : World) : Prop :=
  ∃ d, e = .returned (.bool (d != 0)) ∧ d ≤ 1 ∧ w.grownBy w' (some g) ∧ ∃ r, Row .u64 134 w' g r ∧ r.length = r0.length ∧ Ok B64 r ∧ (∀ j, last ≤ j → dg r j = dg r0 j) ∧ num B64 r + take = num B64 r0 + d * B64 ^ last

set_option maxHeartbeats 2000000 in
theorem subTimes_any (g off p cp cb n : Nat) (bo : Option Addr) (r0 ys : List Nat) (w : World) (hp : p ≤ 100000000000) (hy : ys.length = p) (hay : At .u64 w bo ys) (oy : Ok B64 ys) (hn : n < B64)
    (hr : Row .u64 134 w g r0) (o0 : Ok B64 r0) (hoff : off + p < r0.length) (hng : ∀ b o, ys ≠ [] → bo = some ⟨b, o, none⟩ → b ≠ g) :
    Calls Tryz.prog 248 #[.slice (some ⟨g, off, none⟩) (p + 1) cp, .slice bo p cb, .int .u64 (n : Int)] w (SubtPost w g r0 (num B64 ys * n * B64 ^ off) (off + (p + 1))) := by
  have hb : 0 < B64 := by decide
  have hglt := hr.lt
  go_enter Tryz.func248, Tryz.ntmps248
  go_wp2_with fail
  refine (each_any _ bo (p + 1) cp p cb 254 _ (fun i => dg r0 (off + i)) (dg ys) (fun i wr => SubtInv w w.heap.size g off (p + 1) cp r0 (dg ys) n i wr) _ (by omega) (by omega) enters254 ?_ ?_ ?_ ?_).mono ?_
  · intro i wr hi h
    obtain ⟨r, hr, hl, _, hd, _⟩ := h.row
    refine ⟨fun _ => ⟨g, off, rfl, ?_⟩, fun h => by omega⟩
    rw [hr.cell _ (by omega), hd _ (by omega)]
  · intro i wr hi h
    subst hy
    refine ⟨fun hil => ?_, fun h => dg_out h⟩
    rcases hay with rfl | ⟨b, o, h1, h2, h3⟩
    · simp at hil
    · refine ⟨b, o, h1, ?_⟩
      rw [World.cell?_of_block (w := w) (h.gr.block b h2 (by simp; exact hng b o (by intro e; rw [e] at hil; simp at hil) h1))]
      exact h3 i hil
  · intro i wr hi h
    have hi' : i < p + 1 := by omega
    obtain ⟨r, hr', hl, _, hd, _⟩ := h.row
    have tm := subt_math (y := dg ys i) (n := n) (c := tmC (dg ys) n i) (oy _) hn (tmC_lt oy hn i)
    refine (subt1 i _ _ n (tmC (dg ys) n i) (subC B64 (fun j => dg r0 (off + j)) (tmD (dg ys) n) i) (p + 1) cp g off (w.heap.size + 1) (w.heap.size + 2) (w.heap.size + 3) w.heap.size _ _ (tmD (dg ys) n i) _ (subD B64 (fun j => dg r0 (off + j)) (tmD (dg ys) n) i) (subC B64 (fun j => dg r0 (off + j)) (tmD (dg ys) n) (i + 1)) _ wr hi' (by omega)
      (fun w => mul64 _ _ w (oy i) hn) ?_ (fun w => call_sub64 _ _ _ (subC_le i) w) h.boxS.cell h.boxN.cell h.car.cell h.car.free h.bor.cell h.bor.free (hr'.cell _ (by omega)) (hr'.free _) (by omega) (by omega) (by omega) (by omega) (by omega) (by omega) (by omega) (by omega) (by omega) (by omega)
      (tmC (dg ys) n (i + 1)) tm.2).mono ?_
    · intro w
      have := call_add64_0 (dg ys i * n % B64) (tmC (dg ys) n i) w
      rw [tm.1] at this
      exact this
    · rintro e w' ⟨rfl, ht⟩
      exact ⟨rfl, h.step o0 hglt (Nat.le_refl _) (by omega) ht⟩
  · refine ⟨?_, ⟨r0, (((hr.alloc _).alloc _).alloc _).alloc _, rfl, o0, fun _ _ => rfl, by simp [tmC, mulC, subC, V]⟩, (((Box.new _ _ _).alloc _).alloc _).alloc _, ?_, ?_, ?_⟩
    · refine ⟨rfl, rfl, rfl, by simp; omega, fun k hk _ => ?_⟩
      rw [Below.heap_alloc _ _ _ (by simp; omega), Below.heap_alloc _ _ _ (by simp; omega), Below.heap_alloc _ _ _ (by simp; omega), Below.heap_alloc _ _ _ hk]
    · have := ((Box.new (w.alloc (Obj.cells #[Value.slice (some { block := g, off := off }) (p + 1) cp] 118)) (.int .u64 (n : Int)) 134).alloc (Obj.cells #[Value.int IntKind.u64 0] 134)).alloc (Obj.cells #[Value.int IntKind.u64 0] 134)
      simpa using this
    · have := (Box.new ((w.alloc (Obj.cells #[Value.slice (some { block := g, off := off }) (p + 1) cp] 118)).alloc (Obj.cells #[Value.int IntKind.u64 (n : Int)] 134)) (.int .u64 0) 134).alloc (Obj.cells #[Value.int IntKind.u64 0] 134)
      simpa [tmC, mulC] using this
    · have := Box.new (((w.alloc (Obj.cells #[Value.slice (some { block := g, off := off }) (p + 1) cp] 118)).alloc (Obj.cells #[Value.int IntKind.u64 (n : Int)] 134)).alloc (Obj.cells #[Value.int IntKind.u64 0] 134)) (.int .u64 0) 134
      simpa [subC] using this
  · rintro e w2 ⟨rfl, h⟩
    rw [show max (p + 1) p = p + 1 by omega] at h
    obtain ⟨r, hr2, hl, ho, hd, hnum⟩ := h.row
    have c1 := h.bor.cell
    have hle := subC_le (b := B64) (x := fun j => dg r0 (off + j)) (y := tmD (dg ys) n) (p + 1)
    have hc0 : tmC (dg ys) n (p + 1) = 0 := by
      simp only [tmC, mulC]
      rw [dg_out (by omega), Nat.zero_mul, Nat.zero_add]
      exact Nat.div_eq_of_lt (tmC_lt oy hn p)
    rw [hc0, num_eq (by omega), Nat.add_zero] at hnum
    have hgr := h.gr
    obtain ⟨d, hd'⟩ : ∃ d, d = subC B64 (fun j => dg r0 (off + j)) (tmD (dg ys) n) (p + 1) := ⟨_, rfl⟩
    rw [← hd'] at c1 hle hnum
    have HN : Hid (num B64 r + num B64 ys * n * B64 ^ off = num B64 r0 + d * B64 ^ (off + (p + 1))) := hnum
    have HD : Hid (∀ j, off + (p + 1) ≤ j → dg r j = dg r0 j) := hd
    have HL : Hid (r.length = r0.length) := hl
    clear hnum hd hl hd' h hc0
    have hdd : d = 0 ∨ d = 1 := by omega
    rcases hdd with rfl | rfl
    · go_wp2
      go_ret
      exact ⟨0, rfl, hle, hgr, r, hr2, HL.out, ho, HD.out, HN.out⟩
    · go_wp2
      go_ret
      exact ⟨1, rfl, hle, hgr, r, hr2, HL.out, ho, HD.out, HN.out⟩

end Go.Proofs.YtobloamnaemfnaaGreatDoor

namespace Go.Proofs.YtobloamnaemfnaaGreatDoor

section
variable {K U Y y1 y0 u1 q rh : Nat}

theorem half_lt (hU : U < Y) (hu1 : u1 < K) : U * K + u1 < Y * K := by
  have : (U + 1) * K ≤ Y * K := Nat.mul_le_mul_right _ hU
  rw [Nat.add_mul, Nat.one_mul] at this; omega

theorem half_prod (hY : Y = y1 * K + y0) (hinv : q * y1 + rh = U) : q * Y + K * rh = U * K + q * y0 := by
  rw [hY, Nat.mul_add, ← hinv, Nat.add_mul, ← Nat.mul_assoc, Nat.mul_comm K rh]; omega

theorem half_exit (hY : Y = y1 * K + y0) (h0 : 0 < Y) (hinv : q * y1 + rh = U) (hge : (U * K + u1) / Y ≤ q) (ht : q * y0 ≤ K * rh + u1) : q = (U * K + u1) / Y := by
  have h := half_prod hY hinv
  have : q ≤ (U * K + u1) / Y := (Nat.le_div_iff_mul_le h0).2 (by omega)
  omega

theorem half_dec (hY : Y = y1 * K + y0) (h0 : 0 < Y) (hU : U < Y) (hu1 : u1 < K) (hinv : q * y1 + rh = U) (hc : K ≤ q ∨ K * rh + u1 < q * y0) : (U * K + u1) / Y + 1 ≤ q := by
  rcases hc with hc | hc
  · have h1 := half_lt hU hu1
    have : (U * K + u1) / Y < K := (Nat.div_lt_iff_lt_mul h0).2 (by rw [Nat.mul_comm K]; exact h1)
    omega
  · have h := half_prod hY hinv
    have : (U * K + u1) / Y < q := (Nat.div_lt_iff_lt_mul h0).2 (by omega)
    omega

theorem half_break (hY : Y = y1 * K + y0) (h0 : 0 < Y) (hy0 : y0 < K) (hinv : (q + 1) * y1 + rh = U) (hge : (U * K + u1) / Y ≤ q) (hq : q ≤ K) (hr : K ≤ rh + y1) : q = (U * K + u1) / Y := by
  have hinv' : q * y1 + (rh + y1) = U := by rw [Nat.add_mul, Nat.one_mul] at hinv; omega
  refine half_exit hY h0 hinv' hge ?_
  have h1 : q * y0 ≤ K * y0 := Nat.mul_le_mul_right _ hq
  have h2 : K * y0 ≤ K * K := Nat.mul_le_mul_left _ (by omega)
  have h3 : K * K ≤ K * (rh + y1) := Nat.mul_le_mul_left _ hr
  omega

theorem half_start (hY : Y = y1 * K + y0) (hU : U < Y) (hy1 : 0 < y1) (hy0 : y0 < K) (hk : K ≤ 2 * y1) : U / y1 ≤ K + 1 := by
  have : U / y1 < K + 2 := (Nat.div_lt_iff_lt_mul hy1).2 (by rw [Nat.add_mul, Nat.mul_comm K]; omega)
  omega

theorem half_ge (hY : Y = y1 * K + y0) (hy1 : 0 < y1) (hu1 : u1 < K) : (U * K + u1) / Y ≤ U / y1 := by
  have hK : 0 < K := by omega
  have h1 : (U * K + u1) / Y ≤ (U * K + u1) / (y1 * K) := Nat.div_le_div_left (by omega) (Nat.mul_pos hy1 hK)
  have h2 : (U * K + u1) / (y1 * K) = U / y1 := by
    rw [Nat.mul_comm y1 K, ← Nat.div_div_eq_div_mul, Nat.mul_comm U K, Nat.mul_add_div hK, Nat.div_eq_of_lt hu1, Nat.add_zero]
  omega
end

theorem halves {K U u1 u0 Y : Nat} (h0 : 0 < Y) :
    ((U * K + u1) * K + u0) / Y = (U * K + u1) / Y * K + ((U * K + u1) % Y * K + u0) / Y ∧ ((U * K + u1) * K + u0) % Y = ((U * K + u1) % Y * K + u0) % Y := by
  have e := Nat.div_add_mod (U * K + u1) Y
  generalize (U * K + u1) / Y = q at *
  generalize (U * K + u1) % Y = r at *
  rw [← e, Nat.add_mul, Nat.mul_assoc, Nat.add_assoc]
  exact ⟨Nat.mul_add_div h0 _ _, Nat.mul_add_mod _ _ _⟩

end Go.Proofs.YtobloamnaemfnaaGreatDoor

namespace Go.Proofs.YtobloamnaemfnaaGreatDoor
open Go.RowKit

set_option maxHeartbeats 2000000 in
theorem div64_short (lo y : Nat) (w : World) (hy : 0 < y) (hlo : lo < B64) :
    Calls Tryz.prog 244 #[.int .u64 0, .int .u64 (lo : Int), .int .u64 (y : Int)] w fun e w' => e = .returned (.tuple #[.int .u64 ((lo / y : Nat) : Int), .int .u64 ((lo % y : Nat) : Int)]) ∧ Like w' w := by
  have h1 : ((y : Int) == 0) = false := by rw [beq_eq_false_iff_ne]; omega
  have h2 : ¬ (y : Int) ≤ 0 := by omega
  have h3 : ¬ (y : Int) = 0 := by omega
  go_enter Tryz.func244, Tryz.ntmps244
  go_wp2
  go_quiet (fail)
  go_wp2
  go_ret2
  refine ⟨?_, rfl, rfl, rfl, rfl⟩
  show Ending.returned (.tuple #[.int .u64 (IntKind.u64.wrap ((lo : Int) / (y : Int))), .int .u64 ((lo : Int) % (y : Int))]) = _
  rw [← Int.natCast_ediv, ← Int.natCast_emod, wrapLt _ (Nat.lt_of_le_of_lt (Nat.div_le_self _ _) hlo)]


def HalfInv (U Y y1 u1 q rh : Nat) : Prop := q * y1 + rh = U ∧ (U * 4294967296 + u1) / Y ≤ q ∧ rh < 4294967296 ∧ q ≤ 4294967297

def HalfFits (U Y y1 y0 u1 : Nat) : Prop := Y = y1 * 4294967296 + y0 ∧ 0 < Y ∧ y0 < 4294967296 ∧ y1 < 4294967296 ∧ U < Y ∧ u1 < 4294967296

theorem half_test {U Y y1 y0 u1 q rh : Nat} (f : HalfFits U Y y1 y0 u1) (h : HalfInv U Y y1 u1 q rh) (hq : ¬ 4294967296 ≤ q) :
    ∃ pp T : Nat, IntKind.u64.wrap ((q : Int) * (y0 : Int)) = (pp : Int) ∧ IntKind.u64.wrap (IntKind.u64.wrap (4294967296 * (rh : Int)) + (u1 : Int)) = (T : Int) ∧
      ((T < pp → 4294967296 * rh + u1 < q * y0) ∧ (¬ T < pp → q * y0 ≤ 4294967296 * rh + u1)) := by
  obtain ⟨_, _, hy0, _, _, hu⟩ := f
  obtain ⟨_, _, hr, _⟩ := h
  have hp : q * y0 ≤ 4294967295 * 4294967295 := Nat.mul_le_mul (by omega) (by omega)
  refine ⟨q * y0, 4294967296 * rh + u1, ?_, ?_, id, by omega⟩
  · rw [natMul, wrapLt _ (by omega)]
  · rw [show (4294967296 : Int) * (rh : Int) = ((4294967296 * rh : Nat) : Int) from (Int.natCast_mul 4294967296 rh).symm, wrapLt _ (by omega), natAdd, wrapLt _ (by omega)]

theorem half_down {U Y y1 y0 u1 q rh : Nat} (f : HalfFits U Y y1 y0 u1) (h : HalfInv U Y y1 u1 q rh) (hc : 4294967296 ≤ q ∨ 4294967296 * rh + u1 < q * y0) :
    ∃ q' r' : Nat, IntKind.u64.wrap ((q : Int) - 1) = (q' : Int) ∧ IntKind.u64.wrap ((rh : Int) + (y1 : Int)) = (r' : Int) ∧
      (r' < 4294967296 → HalfInv U Y y1 u1 q' r') ∧ (4294967296 ≤ r' → q' = (U * 4294967296 + u1) / Y) ∧ q' < q := by
  obtain ⟨hY, h0, hy0, hy1, hU, hu⟩ := f
  obtain ⟨hi, hg, hr, hq⟩ := h
  have hd := half_dec hY h0 hU hu hi hc
  obtain ⟨q', rfl⟩ : ∃ q', q = q' + 1 := ⟨q - 1, by have := Nat.le_trans (Nat.le_add_left 1 _) hd; omega⟩
  have hd' : (U * 4294967296 + u1) / Y ≤ q' := Nat.le_of_succ_le_succ hd
  refine ⟨q', rh + y1, ?_, ?_, fun h => ⟨?_, hd', h, by omega⟩, fun h => half_break hY h0 hy0 hi hd' (by omega) h, by omega⟩
  · rw [show ((q' + 1 : Nat) : Int) - 1 = (q' : Int) by omega, wrapLt _ (by omega)]
  · rw [natAdd, wrapLt _ (by omega)]
  · rw [Nat.add_mul, Nat.one_mul] at hi; omega

theorem half_out {U Y y1 y0 u1 q rh : Nat} (f : HalfFits U Y y1 y0 u1) (h : HalfInv U Y y1 u1 q rh) (hc : q * y0 ≤ 4294967296 * rh + u1) : q = (U * 4294967296 + u1) / Y :=
  half_exit f.1 f.2.1 h.1 h.2.1 hc

theorem half_begin {U Y y1 y0 u1 : Nat} (f : HalfFits U Y y1 y0 u1) (hk : 4294967296 ≤ 2 * y1) : HalfInv U Y y1 u1 (U / y1) (U % y1) := by
  obtain ⟨hY, h0, hy0, hy1, hU, hu⟩ := f
  have hm : U % y1 < y1 := Nat.mod_lt _ (by omega)
  refine ⟨by rw [Nat.mul_comm]; exact Nat.div_add_mod U y1, half_ge hY (by omega) hu, by omega, half_start hY hU (by omega) hy0 hk⟩

set_option maxHeartbeats 8000000 in
theorem div64_core (hi lo y s t Y y1 y0 A C U L u1 u0 q0 r0 R p rg : Nat) (w : World) (v1' v2' : Nat)
    (c1 : ∀ w, Calls Tryz.prog 245 #[.int .u64 (y : Int)] w fun e w' => e = .returned (.int .i64 (s : Int)) ∧ w = w')
    (n1 : ((y : Int) == 0) = false) (n2 : ¬ (y : Int) ≤ (hi : Int)) (n3 : ((hi : Int) == 0) = false) (n4 : ¬ (y1 : Int) = 0) (hs : s ≤ 63) (ht : t ≤ 64)
    (ws : IntKind.u64.wrap (s : Int) = (s : Int)) (wY : IntKind.u64.wrap ((y : Int) * 2 ^ s) = (Y : Int)) (w1 : (Y : Int) / 4294967296 = (y1 : Int)) (w0 : bits .and .u64 (Y : Int) 4294967295 = (y0 : Int))
    (wA : IntKind.u64.wrap ((hi : Int) * 2 ^ s) = (A : Int)) (wt : IntKind.u64.wrap (64 - (s : Int)) = (t : Int)) (wC : (lo : Int) / 2 ^ t = (C : Int)) (wU : bits .or .u64 (A : Int) (C : Int) = (U : Int))
    (wL : IntKind.u64.wrap ((lo : Int) * 2 ^ s) = (L : Int)) (v1 : (L : Int) / 4294967296 = (u1 : Int)) (v0 : bits .and .u64 (L : Int) 4294967295 = (u0 : Int))
    (wq : (U : Int) / (y1 : Int) = (q0 : Int)) (wq' : IntKind.u64.wrap (q0 : Int) = (q0 : Int)) (wr : IntKind.u64.wrap ((U : Int) - IntKind.u64.wrap ((q0 : Int) * (y1 : Int))) = (r0 : Int))
    (f1 : HalfFits U Y y1 y0 u1) (i1 : HalfInv U Y y1 u1 q0 r0) (f2 : HalfFits R Y y1 y0 u0) (i2 : HalfInv R Y y1 u0 p rg)
    (Q1 Q2 : Nat) (hQ1 : (U * 4294967296 + u1) / Y = Q1) (hQ2 : (R * 4294967296 + u0) / Y = Q2)
    (wR : IntKind.u64.wrap (IntKind.u64.wrap (IntKind.u64.wrap ((U : Int) * 4294967296) + (u1 : Int)) - IntKind.u64.wrap ((Q1 : Int) * (Y : Int))) = (R : Int))
    (wp : (R : Int) / (y1 : Int) = (p : Int)) (wp' : IntKind.u64.wrap (p : Int) = (p : Int)) (wg : IntKind.u64.wrap ((R : Int) - IntKind.u64.wrap ((p : Int) * (y1 : Int))) = (rg : Int))
    (e1 : IntKind.u64.wrap (IntKind.u64.wrap ((Q1 : Int) * 4294967296) + (Q2 : Int)) = (v1' : Int))
    (e2 : IntKind.u64.wrap (IntKind.u64.wrap (IntKind.u64.wrap ((R : Int) * 4294967296) + (u0 : Int)) - IntKind.u64.wrap ((Q2 : Int) * (Y : Int))) / 2 ^ s = (v2' : Int)) :
    Calls Tryz.prog 244 #[.int .u64 (hi : Int), .int .u64 (lo : Int), .int .u64 (y : Int)] w fun e w' => e = .returned (.tuple #[.int .u64 (v1' : Int), .int .u64 (v2' : Int)]) ∧ w' = w := by
  have C1 : Hid (∀ w, Calls Tryz.prog 245 #[.int .u64 (y : Int)] w fun e w' => e = .returned (.int .i64 (s : Int)) ∧ w = w') := c1
  have F1 : Hid (HalfFits U Y y1 y0 u1) := f1
  have F2 : Hid (HalfFits R Y y1 y0 u0) := f2
  have I1 : Hid (HalfInv U Y y1 u1 q0 r0) := i1
  have I2 : Hid (HalfInv R Y y1 u0 p rg) := i2
  have E1 : Hid ((U * 4294967296 + u1) / Y = Q1) := hQ1
  have E2 : Hid ((R * 4294967296 + u0) / Y = Q2) := hQ2
  clear c1 f1 f2 i1 i2 hQ1 hQ2
  go_enter Tryz.func244, Tryz.ntmps244
  go_wp2_with fail
  refine (C1.out _).mono ?_
  rintro e w' ⟨rfl, rfl⟩
  go_wp2
  clear n1 n2 n3 ws wY w1 w0 wA wt wC wU wL v1 v0 wq wq' wr
  go_loop [15, 16] (fun a b => ∃ q rh : Nat, a = .int .u64 (q : Int) ∧ b = .int .u64 (rh : Int) ∧ HalfInv U Y y1 u1 q rh) (fun a _ => (intOf a).toNat)
  case atStart => exact ⟨q0, r0, rfl, rfl, I1.out⟩
  case round =>
    obtain ⟨q, rh, rfl, rfl, hinv⟩ := hrel
    have HI : Hid (HalfInv U Y y1 u1 q rh) := hinv
    clear hinv
    by_cases hA : 4294967296 ≤ q
    · have hA' : (4294967296 : Int) ≤ (q : Int) := by omega
      have hdec := half_down F1.out HI.out (.inl hA)
      obtain ⟨q', r', wq1, wr1, hnx, hbk, hq1⟩ := hdec
      by_cases hC : 4294967296 ≤ r'
      · have hC' : (4294967296 : Int) ≤ (r' : Int) := by omega
        have he := (hbk hC).trans E1.out
        subst he
        clear hA hC hnx hbk hq1
        clear HI
        go_wp2
        go_loop [18, 16] (fun a b => ∃ q rh : Nat, a = .int .u64 (q : Int) ∧ b = .int .u64 (rh : Int) ∧ HalfInv R Y y1 u0 q rh) (fun a _ => (intOf a).toNat)
        case atStart => exact ⟨p, rg, rfl, rfl, I2.out⟩
        case round =>
          obtain ⟨q, rh, rfl, rfl, hinv⟩ := hrel
          have HI : Hid (HalfInv R Y y1 u0 q rh) := hinv
          clear hinv
          by_cases hA : 4294967296 ≤ q
          · have hA' : (4294967296 : Int) ≤ (q : Int) := by omega
            have hdec := half_down F2.out HI.out (.inl hA)
            obtain ⟨q', r', wq1, wr1, hnx, hbk, hq1⟩ := hdec
            by_cases hC : 4294967296 ≤ r'
            · have hC' : (4294967296 : Int) ≤ (r' : Int) := by omega
              have he := (hbk hC).trans E2.out
              subst he
              clear hA hC hnx hbk hq1
              go_wp2
              go_ret2
              exact ⟨rfl, rfl⟩
            · have hC' : decide ((4294967296 : Int) ≤ (r' : Int)) = false := decide_eq_false (by omega)
              have HN : Hid (HalfInv R Y y1 u0 q' r') := hnx (by omega)
              have HQ : Hid (q' < q) := hq1
              clear hnx hbk hq1 hA hC
              go_wp2
              go_round
              case rel => exact ⟨q', r', rfl, rfl, HN.out⟩
              case measure => have := HQ.out; simp [intOf]; omega
          · obtain ⟨pp, T, hp, hT, hcmp⟩ := half_test F2.out HI.out hA
            have hA' : decide ((4294967296 : Int) ≤ (q : Int)) = false := decide_eq_false (by omega)
            by_cases hB : T < pp
            · have hB' : (T : Int) < (pp : Int) := by omega
              have hdec := half_down F2.out HI.out (.inr (hcmp.1 hB))
              clear hcmp hB
              obtain ⟨q', r', wq1, wr1, hnx, hbk, hq1⟩ := hdec
              by_cases hC : 4294967296 ≤ r'
              · have hC' : (4294967296 : Int) ≤ (r' : Int) := by omega
                have he := (hbk hC).trans E2.out
                subst he
                clear hA hC hnx hbk hq1
                go_wp2
                go_ret2
                exact ⟨rfl, rfl⟩
              · have hC' : decide ((4294967296 : Int) ≤ (r' : Int)) = false := decide_eq_false (by omega)
                have HN : Hid (HalfInv R Y y1 u0 q' r') := hnx (by omega)
                have HQ : Hid (q' < q) := hq1
                clear hnx hbk hq1 hA hC
                go_wp2
                go_round
                case rel => exact ⟨q', r', rfl, rfl, HN.out⟩
                case measure => have := HQ.out; simp [intOf]; omega
            · have hB' : ¬ (T : Int) < (pp : Int) := by omega
              have he := (half_out F2.out HI.out (hcmp.2 hB)).trans E2.out
              subst he
              clear hA hB hcmp
              go_wp2
              go_ret2
              exact ⟨rfl, rfl⟩
      · have hC' : decide ((4294967296 : Int) ≤ (r' : Int)) = false := decide_eq_false (by omega)
        have HN : Hid (HalfInv U Y y1 u1 q' r') := hnx (by omega)
        have HQ : Hid (q' < q) := hq1
        clear hnx hbk hq1 hA hC
        go_wp2
        go_round
        case rel => exact ⟨q', r', rfl, rfl, HN.out⟩
        case measure => have := HQ.out; simp [intOf]; omega
    · obtain ⟨pp, T, hp, hT, hcmp⟩ := half_test F1.out HI.out hA
      have hA' : decide ((4294967296 : Int) ≤ (q : Int)) = false := decide_eq_false (by omega)
      by_cases hB : T < pp
      · have hB' : (T : Int) < (pp : Int) := by omega
        have hdec := half_down F1.out HI.out (.inr (hcmp.1 hB))
        clear hcmp hB
        obtain ⟨q', r', wq1, wr1, hnx, hbk, hq1⟩ := hdec
        by_cases hC : 4294967296 ≤ r'
        · have hC' : (4294967296 : Int) ≤ (r' : Int) := by omega
          have he := (hbk hC).trans E1.out
          subst he
          clear hA hC hnx hbk hq1
          clear HI
          go_wp2
          go_loop [18, 16] (fun a b => ∃ q rh : Nat, a = .int .u64 (q : Int) ∧ b = .int .u64 (rh : Int) ∧ HalfInv R Y y1 u0 q rh) (fun a _ => (intOf a).toNat)
          case atStart => exact ⟨p, rg, rfl, rfl, I2.out⟩
          case round =>
            obtain ⟨q, rh, rfl, rfl, hinv⟩ := hrel
            have HI : Hid (HalfInv R Y y1 u0 q rh) := hinv
            clear hinv
            by_cases hA : 4294967296 ≤ q
            · have hA' : (4294967296 : Int) ≤ (q : Int) := by omega
              have hdec := half_down F2.out HI.out (.inl hA)
              obtain ⟨q', r', wq1, wr1, hnx, hbk, hq1⟩ := hdec
              by_cases hC : 4294967296 ≤ r'
              · have hC' : (4294967296 : Int) ≤ (r' : Int) := by omega
                have he := (hbk hC).trans E2.out
                subst he
                clear hA hC hnx hbk hq1
                go_wp2
                go_ret2
                exact ⟨rfl, rfl⟩
              · have hC' : decide ((4294967296 : Int) ≤ (r' : Int)) = false := decide_eq_false (by omega)
                have HN : Hid (HalfInv R Y y1 u0 q' r') := hnx (by omega)
                have HQ : Hid (q' < q) := hq1
                clear hnx hbk hq1 hA hC
                go_wp2
                go_round
                case rel => exact ⟨q', r', rfl, rfl, HN.out⟩
                case measure => have := HQ.out; simp [intOf]; omega
            · obtain ⟨pp, T, hp, hT, hcmp⟩ := half_test F2.out HI.out hA
              have hA' : decide ((4294967296 : Int) ≤ (q : Int)) = false := decide_eq_false (by omega)
              by_cases hB : T < pp
              · have hB' : (T : Int) < (pp : Int) := by omega
                have hdec := half_down F2.out HI.out (.inr (hcmp.1 hB))
                clear hcmp hB
                obtain ⟨q', r', wq1, wr1, hnx, hbk, hq1⟩ := hdec
                by_cases hC : 4294967296 ≤ r'
                · have hC' : (4294967296 : Int) ≤ (r' : Int) := by omega
                  have he := (hbk hC).trans E2.out
                  subst he
                  clear hA hC hnx hbk hq1
                  go_wp2
                  go_ret2
                  exact ⟨rfl, rfl⟩
                · have hC' : decide ((4294967296 : Int) ≤ (r' : Int)) = false := decide_eq_false (by omega)
                  have HN : Hid (HalfInv R Y y1 u0 q' r') := hnx (by omega)
                  have HQ : Hid (q' < q) := hq1
                  clear hnx hbk hq1 hA hC
                  go_wp2
                  go_round
                  case rel => exact ⟨q', r', rfl, rfl, HN.out⟩
                  case measure => have := HQ.out; simp [intOf]; omega
              · have hB' : ¬ (T : Int) < (pp : Int) := by omega
                have he := (half_out F2.out HI.out (hcmp.2 hB)).trans E2.out
                subst he
                clear hA hB hcmp
                go_wp2
                go_ret2
                exact ⟨rfl, rfl⟩
        · have hC' : decide ((4294967296 : Int) ≤ (r' : Int)) = false := decide_eq_false (by omega)
          have HN : Hid (HalfInv U Y y1 u1 q' r') := hnx (by omega)
          have HQ : Hid (q' < q) := hq1
          clear hnx hbk hq1 hA hC
          go_wp2
          go_round
          case rel => exact ⟨q', r', rfl, rfl, HN.out⟩
          case measure => have := HQ.out; simp [intOf]; omega
      · have hB' : ¬ (T : Int) < (pp : Int) := by omega
        have he := (half_out F1.out HI.out (hcmp.2 hB)).trans E1.out
        subst he
        clear hA hB hcmp
        clear HI
        go_wp2
        go_loop [18, 16] (fun a b => ∃ q rh : Nat, a = .int .u64 (q : Int) ∧ b = .int .u64 (rh : Int) ∧ HalfInv R Y y1 u0 q rh) (fun a _ => (intOf a).toNat)
        case atStart => exact ⟨p, rg, rfl, rfl, I2.out⟩
        case round =>
          obtain ⟨q, rh, rfl, rfl, hinv⟩ := hrel
          have HI : Hid (HalfInv R Y y1 u0 q rh) := hinv
          clear hinv
          by_cases hA : 4294967296 ≤ q
          · have hA' : (4294967296 : Int) ≤ (q : Int) := by omega
            have hdec := half_down F2.out HI.out (.inl hA)
            obtain ⟨q', r', wq1, wr1, hnx, hbk, hq1⟩ := hdec
            by_cases hC : 4294967296 ≤ r'
            · have hC' : (4294967296 : Int) ≤ (r' : Int) := by omega
              have he := (hbk hC).trans E2.out
              subst he
              clear hA hC hnx hbk hq1
              go_wp2
              go_ret2
              exact ⟨rfl, rfl⟩
            · have hC' : decide ((4294967296 : Int) ≤ (r' : Int)) = false := decide_eq_false (by omega)
              have HN : Hid (HalfInv R Y y1 u0 q' r') := hnx (by omega)
              have HQ : Hid (q' < q) := hq1
              clear hnx hbk hq1 hA hC
              go_wp2
              go_round
              case rel => exact ⟨q', r', rfl, rfl, HN.out⟩
              case measure => have := HQ.out; simp [intOf]; omega
          · obtain ⟨pp, T, hp, hT, hcmp⟩ := half_test F2.out HI.out hA
            have hA' : decide ((4294967296 : Int) ≤ (q : Int)) = false := decide_eq_false (by omega)
            by_cases hB : T < pp
            · have hB' : (T : Int) < (pp : Int) := by omega
              have hdec := half_down F2.out HI.out (.inr (hcmp.1 hB))
              clear hcmp hB
              obtain ⟨q', r', wq1, wr1, hnx, hbk, hq1⟩ := hdec
              by_cases hC : 4294967296 ≤ r'
              · have hC' : (4294967296 : Int) ≤ (r' : Int) := by omega
                have he := (hbk hC).trans E2.out
                subst he
                clear hA hC hnx hbk hq1
                go_wp2
                go_ret2
                exact ⟨rfl, rfl⟩
              · have hC' : decide ((4294967296 : Int) ≤ (r' : Int)) = false := decide_eq_false (by omega)
                have HN : Hid (HalfInv R Y y1 u0 q' r') := hnx (by omega)
                have HQ : Hid (q' < q) := hq1
                clear hnx hbk hq1 hA hC
                go_wp2
                go_round
                case rel => exact ⟨q', r', rfl, rfl, HN.out⟩
                case measure => have := HQ.out; simp [intOf]; omega
            · have hB' : ¬ (T : Int) < (pp : Int) := by omega
              have he := (half_out F2.out HI.out (hcmp.2 hB)).trans E2.out
              subst he
              clear hA hB hcmp
              go_wp2
              go_ret2
              exact ⟨rfl, rfl⟩

end Go.Proofs.YtobloamnaemfnaaGreatDoor

namespace Go.Proofs.YtobloamnaemfnaaGreatDoor

def bitsN (n : Nat) : Nat := if n = 0 then 0 else n.log2 + 1

theorem bitsN_eq {n k : Nat} (h1 : 2 ^ k ≤ n) (h2 : n < 2 ^ (k + 1)) : bitsN n = k + 1 := by
  have h0 : n ≠ 0 := by have := Nat.two_pow_pos k; omega
  unfold bitsN
  rw [if_neg h0, (Nat.log2_eq_iff h0).2 ⟨h1, h2⟩]

theorem bitsN_spec {n : Nat} (h : n ≠ 0) : ∃ k, bitsN n = k + 1 ∧ 2 ^ k ≤ n ∧ n < 2 ^ (k + 1) :=
  ⟨n.log2, by simp [bitsN, h], Nat.log2_self_le h, Nat.lt_log2_self⟩

theorem bitLen_bits (x : Nat) (h : x < 2 ^ 64) : Lib.bitLen x = bitsN x := by
  by_cases h0 : x = 0
  · subst h0; decide
  · obtain ⟨k, hk, h1, h2⟩ := bitsN_spec h0
    rw [hk, Lib.bitLen_shift k x h1 h]
    have : x / 2 ^ k = 1 := by
      have hp := Nat.two_pow_pos k
      have a1 : 1 ≤ x / 2 ^ k := (Nat.le_div_iff_mul_le hp).2 (by omega)
      have a2 : x / 2 ^ k < 2 := (Nat.div_lt_iff_lt_mul hp).2 (by rw [Nat.pow_succ] at h2; omega)
      omega
    rw [this]
    have : Lib.bitLen 1 = 1 := by decide
    rw [this]

theorem bits_top {s b : Nat} {f : Nat → Nat} {n : Nat} (hb : b = 2 ^ s) (hf : ∀ i, i < n + 1 → f i < b) (h0 : f n ≠ 0) : bitsN (V b f (n + 1)) = s * n + bitsN (f n) := by
  obtain ⟨k, hk, h1, h2⟩ := bitsN_spec h0
  have hv := V_lt n (fun i hi => hf i (by omega))
  rw [hk]
  have hp : b ^ n = 2 ^ (s * n) := by rw [hb, Nat.pow_mul]
  refine bitsN_eq (k := s * n + k) ?_ ?_
  · simp only [V]
    rw [Nat.pow_add, ← hp]
    have := Nat.mul_le_mul_left (b ^ n) h1
    rw [Nat.mul_comm (f n)]
    omega
  · simp only [V]
    rw [show s * n + k + 1 = s * n + (k + 1) by omega, Nat.pow_add, ← hp]
    have h3 : (f n + 1) * b ^ n ≤ 2 ^ (k + 1) * b ^ n := Nat.mul_le_mul_right _ h2
    rw [Nat.add_mul, Nat.one_mul] at h3
    rw [Nat.mul_comm (b ^ n)]
    omega

end Go.Proofs.YtobloamnaemfnaaGreatDoor
