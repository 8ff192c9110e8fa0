/-
  The laws' own and kept.
  The reference's Same of two lists of pieces that are alike, wherever they lie; slices.Clone of spans.
-/
import Derived.Test.YtkgapklhgkngnaaDoorEB8
import Derived.Test.YtkgapklhgkngnaaDoorEB9
import Derived.Lib.SliceRun
import Derived.Laws.StructEq
namespace Go.Proofs.YtkgapklhgkngnaaDoor
open Go.RowKit

structure WO (w : World) (t : ByteArray) (sv : Value) (Y : World) : Prop where
  bel : Below w.heap.size w Y
  box : Blk Y w.heap.size #[.string t, sv] 25
theorem WO.below {w : World} {t : ByteArray} {sv : Value} {Y Z : World} (h : WO w t sv Y) (hb : Below Y.heap.size Y Z) : WO w t sv Z := ⟨h.bel.trans (hb.mono h.bel.size), h.box.below hb h.box.lt⟩
end Go.Proofs.YtkgapklhgkngnaaDoor

namespace Go.Proofs.YtkgapklhgkngnaaDoor
open Go.RowKit

theorem pe_neqF (s : Pe) (W : World) : (binOp .neq 50 (.agg #[.string s.t, .int .i64 s.f]) (.agg #[.string s.t, .int .i64 s.f])).run Tryd.prog W = .ok (.bool false) W := by
  simp [go_sem, Tryd.underlying50, Tryd.underlying3, Tryd.underlying9, Program.fieldsOf]

set_option maxRecDepth 100000 in
set_option maxHeartbeats 4000000 in
theorem SameP_true (v v' : Value) (l : List Pe) (w : World) (hv : PeV w v l) (hv' : PeV w v' l) (hl : l.length ≤ maxLen) :
    Calls Tryd.prog 20 #[v, v'] w fun e w' => e = .returned (.bool true) ∧ Below w.heap.size w w' := by
  have HV := hide hv
  have HV' := hide hv'
  obtain ⟨ao, cap, rfl⟩ := hv.len
  obtain ⟨ao', cap', rfl⟩ := hv'.len
  obtain ⟨n, hn⟩ : ∃ n, n = l.length := ⟨_, rfl⟩
  rw [← hn] at HV HV' hl ⊢
  have hnb : n ≤ 9223372036854775807 := hl
  have HN := hide hn
  clear hv hv' hn hl
  go_enter Tryd.func20, Tryd.ntmps20
  go_wp2
  go_loopw [5] (fun x wr => ∃ i : Nat, i ≤ n ∧ x = .int .i64 (i : Int) ∧ Hid (Below w.heap.size w wr)) (fun x _ => n - (intOf x).toNat)
  case atStart => exact ⟨0, Nat.zero_le _, rfl, hide (Below.refl _ _)⟩
  case round =>
    obtain ⟨i, hi, rfl, BR⟩ := hrel
    by_cases hlt : i < n
    · have hlt' : (i : Int) < (n : Int) := by omega
      have hil : i < l.length := by rw [← HN.out]; exact hlt
      have HV2 := HV.out
      have HV3 := HV'.out
      rw [HN.out] at HV2 HV3
      cases HV2 with
      | none _ _ _ h => subst h; simp at hil
      | some b o cp hv hc hb ha =>
        cases HV3 with
        | none _ _ _ h => subst h; simp at hil
        | some b' o' cp' hv' hc' hb' ha' =>
          simp only [Value.slice.injEq] at hv hv'
          obtain ⟨rfl, q1, rfl⟩ := hv
          obtain ⟨rfl, q2, rfl⟩ := hv'
          clear q1 q2
          obtain ⟨c0, c1⟩ := (ha.below hb BR.out) i hil
          obtain ⟨d0, d1⟩ := (ha'.below hb' BR.out) i hil
          have NE := pe_neqF (gN peZ l i)
          generalize gN peZ l i = s at *
          clear ha ha' hb hb' hc hc' hil
          go_wp2_with fail
          go_region
          have BQ := hide (BR.out.drew)
          go_wp2
          exact ⟨⟨i + 1, by omega, by go_num, BQ⟩, by simp [intOf]; omega⟩
    · obtain rfl : i = n := by omega
      have hlt' : ¬ (i : Int) < (i : Int) := by omega
      go_wp2
      go_ret
      exact ⟨rfl, BR.out⟩

set_option maxRecDepth 100000 in
set_option maxHeartbeats 4000000 in
theorem Clone_any (v : Value) (l : List Sp) (w : World) (hv : SpV w v l) (hno : NilOr v) (hl : l.length * 24 ≤ 140737488355328) :
    Calls Tryd.prog 41 #[v] w fun e w' => Hid (∃ uo uc, e = .returned (.slice uo l.length uc) ∧ OwnS w.heap.size w' (.slice uo l.length uc) l) ∧ Below w.heap.size w w' := by
  have q22 : ∀ (w : World) (a : Option Addr) (n c n' c' : Nat), (binOp .eql 23 (.slice a n c) (.slice none n' c')).run Tryd.prog w = .ok (.bool a.isNone) w := fun w a n c n' c' => Lib.run_eql_slice_nil w _ _ a n c n' c' Tryd.underlying23
  rcases hno with rfl | ⟨ad, m, c, rfl⟩
  · have hl0 : l = [] := by
      cases hv with
      | none _ _ _ h => exact h
      | some b o cp h _ _ _ => simp at h
    subst hl0
    clear hv hl
    go_enter Tryd.func41, Tryd.ntmps41
    go_wp2
    go_ret
    exact ⟨hide ⟨none, 0, rfl, World.ownsRow_nil _ _ _ _⟩, Below.refl _ _⟩
  · have HV := hide (hv.below ((Below.refl w.heap.size w).alloc (Nat.le_refl _) (.cells #[] 31)))
    have hno2 : Hid (NilOr (.slice (some ad) m c)) := hide (.inr ⟨ad, m, c, rfl⟩)
    have HM : Hid (OwnS w.heap.size (w.alloc (.cells #[] 31)) (.slice (some ⟨w.heap.size, 0, none⟩) 0 0) []) := hide (World.ownsRow_made w #[] 0 (Nat.le_refl _) (Nat.zero_le _) rfl)
    have HL := hide hl
    clear hv hl
    go_enter Tryd.func41, Tryd.ntmps41
    go_wp2_with (at_builtin; refine wpSp_appendL rfl _ _ rfl w.heap.size _ [] rfl HM.out _ l rfl HV.out hno2.out l.length (by simp) HL.out (by rw [World.size_alloc]; omega) ?_; intro uo uc w7 hown hgr)
    go_ret
    refine ⟨hide ⟨uo, uc, rfl, hown⟩, ?_⟩
    exact ((Below.refl _ w).alloc (Nat.le_refl _) _).grown hgr (by simp) (by intro k hk; cases hk; exact Nat.le_refl _)
end Go.Proofs.YtkgapklhgkngnaaDoor
