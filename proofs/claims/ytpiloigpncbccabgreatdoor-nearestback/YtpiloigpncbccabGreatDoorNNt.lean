/-
  nat's and whole's calls as package nearest makes them: over numbers, wherever their limbs lie.
-/
import Derived.Test.YtpiloigpncbccabGreatDoorZSC
import Derived.Test.YtpiloigpncbccabGreatDoorAdd
import Derived.Test.YtpiloigpncbccabGreatDoorUint
import Derived.Test.YtpiloigpncbccabGreatDoorZParse
namespace Go.Proofs.YtpiloigpncbccabGreatDoor
open Go.RowKit

theorem nt_bits (a : Value) (x : Nat) (w : World) (ha : Nt w a x) (hx : Sm x) : Calls Tryz.prog 106 #[a] w fun e w' => e = .returned (.int .i64 (bitsN x : Int)) ∧ w = w' := by
  obtain ⟨o, c, xs, rfl, h1, h2, h3, h4⟩ := ha
  have l1 := is_len h4 hx
  have h := bits_any o _ c xs w h1 (by omega) rfl h3 h4.1
  rw [h4.2.2] at h
  exact h

theorem nt_add (a b : Value) (x y : Nat) (w : World) (ha : Nt w a x) (hb : Nt w b y) (hx : Sm x) (hy : Sm y) : Calls Tryz.prog 98 #[a, b] w (NtPost w (x + y)) := by
  obtain ⟨o, c, xs, rfl, h1, h2, h3, h4⟩ := ha
  obtain ⟨o', c', ys, rfl, h1', h2', h3', h4'⟩ := hb
  have l1 := is_len h4 hx
  have l2 := is_len h4' hy
  refine (add_any o o' _ c _ c' xs ys w h1 (by omega) h1' (by omega) rfl rfl h3 h3' h4.1 h4'.1).mono ?_
  rintro e w' ⟨v, r, rfl, g1, g2, g3⟩
  rw [h4.2.2, h4'.2.2] at g2
  exact ⟨v, rfl, Nt.of g1 g2 (by omega), g3, Far.of g1⟩

theorem nt_shl (a : Value) (x n : Nat) (z : Int) (w : World) (hz : z = (n : Int)) (ha : Nt w a x) (hx : Sm x) (hn : n ≤ 65536) : Calls Tryz.prog 82 #[a, .int .i64 z] w (NtErr w (x * 2 ^ n) 0) := by
  subst hz
  obtain ⟨o, c, xs, rfl, h1, h2, h3, h4⟩ := ha
  have l1 := is_len h4 hx
  refine (shl_any o _ c n xs w hn h1 (by omega) rfl h3 h4.1).mono ?_
  rintro e w' ⟨v, r, rfl, g1, g2, g3⟩
  rw [h4.2.2] at g2
  exact ⟨v, rfl, Nt.of g1 g2 (by omega), g3, Far.of g1⟩

theorem nt_parse (s : ByteArray) (w : World) (hs : s.size ≤ 8192) (hok : OkT (bys s)) : Calls Tryz.prog 95 #[.string s] w (NtErr w (decV (bys s)) 0) := by
  refine (parse_ok s w hs hok).mono ?_
  rintro e w' ⟨v, r, rfl, g1, g2, g3⟩
  exact ⟨v, rfl, Nt.of g1 g2 (by omega), g3, Far.of g1⟩

/-- A fraction. -/
abbrev fracV (f x l : Int) (vo vu : Value) : Value := .agg #[.int .i64 f, .int .i64 x, .int .i64 l, vo, vu]

theorem Blk.put5 {w : World} {b : Nat} {t : TypeId} {x0 x1 x2 x3 x4 : Value} (h : Blk w b #[x0, x1, x2, x3, x4] t) (y0 y1 y2 y3 y4 : Value) : Blk (((((w.setCell ⟨b, 0, none⟩ y0).setCell ⟨b, 1, none⟩ y1).setCell ⟨b, 2, none⟩ y2).setCell ⟨b, 3, none⟩ y3).setCell ⟨b, 4, none⟩ y4) b #[y0, y1, y2, y3, y4] t := by
  unfold Blk at *
  simp only [World.setCell, Array.getElem?_modify, if_true, h, Option.map_some]
  rfl

theorem Blk.other {w : World} {b : Nat} {t : TypeId} {cs : Array Value} (h : Blk w b cs t) {a : Addr} (ha : a.block ≠ b) (v : Value) : Blk (w.setCell a v) b cs t := by
  unfold Blk at *
  simp only [World.setCell, Array.getElem?_modify, if_neg ha, h]

theorem results_frac {fn : Func} {a : Tmp} (h : fn.results = #[.cell a 94]) (tmps : Array Value) (H : Nat) (x0 x1 x2 x3 x4 : Value) (w : World) (ht : tmps.getD a undef = .pointer (some ⟨H, 0, none⟩)) (hp : Blk w H #[x0, x1, x2, x3, x4] 94) :
    (results fn tmps).run Tryz.prog w = .ok (.agg #[x0, x1, x2, x3, x4]) w := by
  have c0 := hp.cell 0
  have c1 := hp.cell 1
  have c2 := hp.cell 2
  have c3 := hp.cell 3
  have c4 := hp.cell 4
  simp at c0 c1 c2 c3 c4
  rw [Array.getD_eq_getD_getElem?] at ht
  simp [results, h, ht, go_sem, c0, c1, c2, c3, c4]

end Go.Proofs.YtpiloigpncbccabGreatDoor
