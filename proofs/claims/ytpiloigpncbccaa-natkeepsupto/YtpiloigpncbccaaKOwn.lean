/-
  What quipulaw01's own does: a list in memory of its own, with a mark behind it.
-/
import Derived.Test.YtpiloigpncbccaaWGrow
import Derived.Test.YtpiloigpncbccaaMk
import Derived.Test.YtpiloigpncbccaaLong
import Derived.Deep.Upon
namespace Go.Proofs.Ytpiloigpncbccaa
open Go.RowKit

/-- What own answers: the numbers xs in a block that holds nothing else, 77 behind them. -/
def MarkPost (w : World) (la : Nat) (xs : List Nat) (e : Ending) (w' : World) : Prop :=
  ∃ g cap, e = .returned (.slice (some ⟨g, 0, none⟩) la cap) ∧ la + 1 ≤ cap ∧ cap ≤ 9223372036854775807 ∧ w.heap.size ≤ g ∧ g < w'.heap.size ∧ At .u64 w' (some ⟨g, 0, none⟩) (xs ++ [77]) ∧ Below w.heap.size w w'

theorem Grw.cap {w wr : World} {g n cap : Nat} {ys : List Nat} (h : Grw w wr (.slice (some ⟨g, 0, none⟩) n cap) ys) : n ≤ cap ∧ cap ≤ 9223372036854775807 ∧ w.heap.size ≤ g ∧ g < wr.heap.size := by
  rcases h.2.2 with ⟨h1, _⟩ | ⟨g', cap', cur, h1, h2, h3, h4, h5, _⟩
  · cases h1
  · simp only [Value.slice.injEq, Option.some.injEq, Addr.mk.injEq] at h1
    obtain ⟨⟨rfl, _⟩, rfl, rfl⟩ := h1
    have := lt_of_block h3
    unfold maxLen at h5
    exact ⟨by omega, by omega, h2, this⟩

set_option maxRecDepth 100000 in
set_option maxHeartbeats 1000000 in
theorem own_pos (b o la ca : Nat) (xs : List Nat) (w : World) (hla : la ≤ 2000000) (hpos : 0 < la) (hx : xs.length = la) (hb : b < w.heap.size) (hcell : ∀ i, i < xs.length → w.cell? ⟨b, o + i, none⟩ = some (.int .u64 ((xs[i]?.getD 0 : Nat) : Int))) :
    Calls Try.prog 4 #[.slice (some ⟨b, o, none⟩) la ca] w (MarkPost w la xs) := by
  obtain ⟨i0, hi, hz0, hz1, hz2⟩ := info_parts Try.infoU
  have hnews : ∀ (j : Nat) (u : Value), (vals .u64 xs)[j]? = some u → (w.alloc (Obj.cells #[] 33)).cell? ((⟨b, o, none⟩ : Addr).add j) = some u := by
    intro j u hj
    have hjl : j < xs.length := by
      rcases Nat.lt_or_ge j xs.length with h | h
      · exact h
      · rw [List.getElem?_eq_none (by simpa [vals] using h)] at hj; cases hj
    have e : (⟨b, o, none⟩ : Addr).add j = ⟨b, o + j, none⟩ := by
      unfold Addr.add; split
      · next h => subst h; rfl
      · rfl
    rw [e, World.cell?_of_block (w := w) (Below.heap_alloc _ _ _ hb), hcell j hjl]
    rw [← hj]; simp [vals, hjl]
  have HNEWS := hide hnews
  have hvl : (vals .u64 xs).length = la := by simp [vals, hx]
  have hone : ∀ u ∈ vals .u64 xs, u.oneCell' = true := by
    intro u hu
    simp only [vals, List.mem_map] at hu
    obtain ⟨n, _, rfl⟩ := hu
    rfl
  have H1 := hide hone
  have HVL := hide hvl
  have hl0 : (w.alloc (Obj.cells #[] 33)).ownsRow w.heap.size 33 1 (.slice (some ⟨w.heap.size, 0, none⟩) 0 0) 0 [] := World.ownsRow_lit _ #[] 0 (Nat.le_refl _) (by unfold maxLen; omega) rfl
  clear hnews hone hvl hcell
  go_enter Try.func4, Try.ntmps4
  go_wp2_with (at_builtin; refine wpList_append_lies _ rfl _ _ 22 rfl w.heap.size 33 i0 (.int .u64 0) 1 8 Try.underlying22 hi hz0 hz1 hz2 rfl (by decide) _ _ _ rfl hl0 ⟨b, o, none⟩ la ca (vals .u64 xs) rfl ?d0 HNEWS.out H1.out hpos ?d3 ?d4 ?d5 (w.heap.size + 1) (by simp) ?_)
  case d0 => rw [HVL.out]; omega
  case d3 => unfold maxLen; omega
  case d4 => omega
  case d5 => simp
  intro g0 cap0 w1 hown0 hgrow0 _ _
  have HGR : Hid (Grw w w1 (.slice (some ⟨g0, 0, none⟩) (0 + la) cap0) xs) := by
    have hb1 : Below w.heap.size w (w.alloc (Obj.cells #[] 33)) := (Below.refl _ _).alloc (Nat.le_refl _) _
    refine ⟨hb1.grown hgrow0 hb1.size (fun k hk => by simp [Value.ownBlock] at hk; omega), ?_⟩
    rw [hx]; simpa using hown0
  rw [Nat.zero_add] at HGR
  clear hown0 hgrow0 hl0 HNEWS H1
  have hown := HGR.out.2
  rw [hx] at hown
  have hsz := HGR.out.1.size
  go_wp2_with (at_builtin; refine wpList_append_lies _ rfl _ _ 22 rfl w.heap.size 33 i0 (.int .u64 0) 1 8 Try.underlying22 hi hz0 hz1 hz2 rfl (by decide) _ _ _ rfl (hown.alloc _) ⟨w1.heap.size, 0, none⟩ 1 1 [.int .u64 77] rfl rfl ?c1A ?c2A (by omega) ?c3A ?c4A ?c5A (w1.heap.size + 1) (by simp) ?_)
  try case c1A => exact new_cell w1 _ _
  case c2A => first | exact one_one _ _ | rfl
  case c3A => unfold maxLen; omega
  case c4A => omega
  case c5A => first | (simp; omega) | omega
  intro g cap w5 hown' hgrow hlies hlt
  have hgs := HGR.out.step (d := 77) _ (by rw [hx]; exact hown') hgrow
  have hcp := hgs.cap
  have HGS := hide hgs
  clear hown hown' hgrow hlies hlt hgs
  go_wp2
  go_ret
  obtain ⟨ao', cp', e1, _, hat⟩ := HGS.out.at
  simp only [Value.slice.injEq] at e1
  rw [← e1.1] at hat
  exact ⟨g, cap, rfl, by omega, hcp.2.1, hcp.2.2.1, hcp.2.2.2, hat, HGS.out.1⟩

set_option maxRecDepth 100000 in
set_option maxHeartbeats 1000000 in
theorem own_nil (ca : Nat) (w : World) :
    Calls Try.prog 4 #[.slice none 0 ca] w (MarkPost w 0 []) := by
  obtain ⟨i0, hi, hz0, hz1, hz2⟩ := info_parts Try.infoU
  have ka := run_append_nothing (P := Try.prog) (w.alloc (Obj.cells #[] 33)) 22 22 22 33 i0 Try.underlying22 hi (some ⟨w.heap.size, 0, none⟩) 0 0 (Nat.le_refl _) (.slice none 0 ca) (Src.ofNil _ Try.underlying22 ca)
  have HGR : Hid (Grw w (w.alloc (Obj.cells #[] 33)) (.slice (some ⟨w.heap.size, 0, none⟩) 0 0) []) := ⟨(Below.refl _ _).alloc (Nat.le_refl _) _, World.ownsRow_lit _ #[] 0 (Nat.le_refl _) (by unfold maxLen; omega) rfl⟩
  have hx : ([] : List Nat).length = 0 := rfl
  go_enter Try.func4, Try.ntmps4
  have hown := HGR.out.2
  rw [hx] at hown
  have hsz := HGR.out.1.size
  go_wp2_with (at_builtin; refine wpList_append_lies _ rfl _ _ 22 rfl w.heap.size 33 i0 (.int .u64 0) 1 8 Try.underlying22 hi hz0 hz1 hz2 rfl (by decide) _ _ _ rfl (hown.alloc _) ⟨w.heap.size + 1, 0, none⟩ 1 1 [.int .u64 77] rfl rfl ?c1A ?c2A (by omega) ?c3A ?c4A ?c5A (w.heap.size + 1 + 1) (by simp) ?_)
  try case c1A => exact fun j u hj => by have h := new_cell (w.alloc (Obj.cells #[] 33)) (.int .u64 77) 33 j u hj; simpa using h
  case c2A => first | exact one_one _ _ | rfl
  case c3A => unfold maxLen; omega
  case c4A => omega
  case c5A => first | (simp; omega) | omega
  intro g cap w5 hown' hgrow hlies hlt
  have hgs := HGR.out.step (d := 77) _ (by rw [hx]; exact hown') hgrow
  have hcp := hgs.cap
  have HGS := hide hgs
  clear hown hown' hgrow hlies hlt hgs
  go_wp2
  go_ret
  obtain ⟨ao', cp', e1, _, hat⟩ := HGS.out.at
  simp only [Value.slice.injEq] at e1
  rw [← e1.1] at hat
  exact ⟨g, cap, rfl, by omega, hcp.2.1, hcp.2.2.1, hcp.2.2.2, hat, HGS.out.1⟩

set_option maxRecDepth 100000 in
set_option maxHeartbeats 1000000 in
theorem own_at (a : Addr) (ca : Nat) (w : World) :
    Calls Try.prog 4 #[.slice (some a) 0 ca] w (MarkPost w 0 []) := by
  obtain ⟨i0, hi, hz0, hz1, hz2⟩ := info_parts Try.infoU
  have ka := run_append_nothing (P := Try.prog) (w.alloc (Obj.cells #[] 33)) 22 22 22 33 i0 Try.underlying22 hi (some ⟨w.heap.size, 0, none⟩) 0 0 (Nat.le_refl _) (.slice (some a) 0 ca) (Src.ofSlice _ Try.underlying22 a 0 ca [] (by simp) (fun j u hj => by simp at hj) (fun u hu => by simp at hu))
  have HGR : Hid (Grw w (w.alloc (Obj.cells #[] 33)) (.slice (some ⟨w.heap.size, 0, none⟩) 0 0) []) := ⟨(Below.refl _ _).alloc (Nat.le_refl _) _, World.ownsRow_lit _ #[] 0 (Nat.le_refl _) (by unfold maxLen; omega) rfl⟩
  have hx : ([] : List Nat).length = 0 := rfl
  go_enter Try.func4, Try.ntmps4
  have hown := HGR.out.2
  rw [hx] at hown
  have hsz := HGR.out.1.size
  go_wp2_with (at_builtin; refine wpList_append_lies _ rfl _ _ 22 rfl w.heap.size 33 i0 (.int .u64 0) 1 8 Try.underlying22 hi hz0 hz1 hz2 rfl (by decide) _ _ _ rfl (hown.alloc _) ⟨w.heap.size + 1, 0, none⟩ 1 1 [.int .u64 77] rfl rfl ?c1A ?c2A (by omega) ?c3A ?c4A ?c5A (w.heap.size + 1 + 1) (by simp) ?_)
  try case c1A => exact fun j u hj => by have h := new_cell (w.alloc (Obj.cells #[] 33)) (.int .u64 77) 33 j u hj; simpa using h
  case c2A => first | exact one_one _ _ | rfl
  case c3A => unfold maxLen; omega
  case c4A => omega
  case c5A => first | (simp; omega) | omega
  intro g cap w5 hown' hgrow hlies hlt
  have hgs := HGR.out.step (d := 77) _ (by rw [hx]; exact hown') hgrow
  have hcp := hgs.cap
  have HGS := hide hgs
  clear hown hown' hgrow hlies hlt hgs
  go_wp2
  go_ret
  obtain ⟨ao', cp', e1, _, hat⟩ := HGS.out.at
  simp only [Value.slice.injEq] at e1
  rw [← e1.1] at hat
  exact ⟨g, cap, rfl, by omega, hcp.2.1, hcp.2.2.1, hcp.2.2.2, hat, HGS.out.1⟩

theorem own_any (ao : Option Addr) (la ca : Nat) (xs : List Nat) (w : World) (hla : la ≤ 2000000) (hx : xs.length = la) (hax : At .u64 w ao xs) :
    Calls Try.prog 4 #[.slice ao la ca] w (MarkPost w la xs) := by
  rcases hax with rfl | ⟨b, o, rfl, hb, hc⟩
  · obtain rfl : la = 0 := hx.symm
    cases ao with
    | none => exact own_nil ca w
    | some a => exact own_at a ca w
  · rcases Nat.eq_zero_or_pos la with h | h
    · subst h
      obtain rfl : xs = [] := List.length_eq_zero_iff.1 hx
      exact own_at _ ca w
    · exact own_pos b o la ca xs w hla h hx hb hc

end Go.Proofs.Ytpiloigpncbccaa
