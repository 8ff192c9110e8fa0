/-
  quipulaw04.NearestFewest answers true and leaves its arguments as they were, whatever they are, the library's tables being what their text lays: the given statement NearestFewestCardSaid.
-/
import Derived.Test.YtlhekeifffofjaaGreatDoorCards
import Derived.Test.YtlhekeifffofjaaGreatDoorTie
import Derived.Test.YtlhekeifffofjaaGreatDoorZB1
import Derived.Test.YtlhekeifffofjaaGreatDoorZB18
import Derived.Test.YtlhekeifffofjaaGreatDoorZB6
import Derived.Deep.DeepHandedRow
namespace Go.Proofs.YtlhekeifffofjaaGreatDoor
open Go.ChangeShapes Go.WideShapes Go.ChangeAt Go.RowKit

set_option maxRecDepth 100000 in
theorem nearestFewest_contract (H : Type) (enc : TypeId × Value → H) (W : World) (base : Nat) (args : Array Value) (ds gs : List (DataW H)) (before : List MemPlace)
    (hval : ∀ (j : Nat) t v, Tryz.f7.params[j]? = some t → args[j]? = some v → Value.okWide Tryz.prog W .any base t v)
    (hW : DataW.Whole enc Tryz.prog Tryz.f7.params.toList Rows.nearestFewestSpec.vars false W args.toList ds gs before) (hL : laidMetH Tryz.prog Rows.nearestFewestRow.laid W) :
    Calls Tryz.prog 7 args W fun e W' => ∃ v, e = .returned v ∧ Rows.nearestFewestSpec.post enc Tryz.prog Tryz.f7 false true false false W args v W' := by
  have tab : Tab W := table hL
  have hW' := hW
  obtain ⟨p, q, hA0, hV, rfl, _, _⟩ := hW
  have hA : DataW.TrodAll enc Tryz.prog W 0 (fun _ => true) true Tryz.f7.params.toList args.toList ds p := hA0
  rw [Tryz.params7] at hA hval
  obtain ⟨v0, vs0, d0, ds0, p0, q0, hargs, rfl, rfl, h0, r0⟩ := trodAll_cons hA
  obtain ⟨rfl, rfl, rfl⟩ := trodAll_nil r0
  obtain rfl : args = #[v0] := by cases args; simp_all
  obtain ⟨rfl, rfl⟩ := trodVars_none hV
  obtain ⟨za, rfl, rfl, rfl, wfa⟩ := open_int Tryz.underlying24 (hval 0 24 v0 rfl rfl) h0
  obtain ⟨na, hna, rfl⟩ := nat_of_u64 wfa
  clear hA0
  simp only [List.append_nil] at hW'
  refine (fewest_walk W tab na hna).mono fun e W' ⟨he, hnx⟩ => ?_
  subst he
  exact ⟨_, rfl, _, _, _, [], _, [], hW', trodAll_cons_mk (shut_bool Tryz.underlying4 _) trodAll_mk0, (trodAll_cons_mk (shut_int Tryz.underlying24 wfa) trodAll_mk0), rfl, hnx.frame _, fun h => by cases h⟩

theorem nearestFewest_met (os : Os) : laidMet Tryz.prog Rows.nearestFewestRow.laid ((laidWorld os).forCall (fun _ _ => 0) ⟨#[], #[.int .u64 0], []⟩).memory :=
  laidMet_of_run' 300 (by kernel_rfl) (by kernel_rfl)
theorem nearestFewest_reads (os : Os) {H : Type} (enc : TypeId × Value → H) : ∃ places, DataW.whole enc Tryz.prog ((laidWorld os).forCall (fun _ _ => 0) ⟨#[], #[.int .u64 0], []⟩).memory Tryz.f7.params.toList Rows.nearestFewestSpec.vars false #[.int .u64 0].toList 8 = some ([.lit (.int .u64 0)], [], places) :=
  ⟨[], by kernel_rfl⟩

set_option maxRecDepth 100000 in
theorem nearestFewest_lifted (os : Os) (started : os.Started) (H : Type) (enc : TypeId × Value → H) (F : Stop.Interp) :
    ReturnsInHanded {} Tryz.checked os 7 .any ((OpenSpec.ofChange Rows.nearestFewestSpec).preRow enc Tryz.prog Tryz.f7 Rows.nearestFewestRow.domain false Rows.nearestFewestRow.laid) (((OpenSpec.ofChange Rows.nearestFewestSpec).at F).post enc Tryz.prog Tryz.f7 false true false false) := by
  obtain ⟨places, hx⟩ := nearestFewest_reads os enc
  refine returnsInHanded_of_row (C := Tryz.checked) (s := OpenSpec.ofChange Rows.nearestFewestSpec) Tryz.own started (by kernel_rfl) Tryz.func7
    (witness_row_at (enc := enc) (C := Tryz.checked) false (laidWorld os) #[.int .u64 0] rfl (by kernel_rfl) (by kernel_rfl) (by kernel_rfl)
      (OpenSpec.preRow_of_cond 8 hx (by kernel_rfl) (fun k hk => by cases hk) (by kernel_rfl) (nearestFewest_met os))) ?_
  intro W base args ds gs before hval hW _ _ _ hL _ _
  exact nearestFewest_contract H enc W base args ds gs before hval hW hL

theorem nearestFewest_said : Rows.NearestFewestSaid :=
  OpenClaim.holds_of_cond 7 Tryz.f7 rfl rfl rfl rfl rfl rfl rfl ⟨rfl, rfl, rfl, rfl, rfl⟩ rfl rfl rfl rfl rfl (by kernel_rfl) Tryz.func7 (by kernel_rfl)
    (of_decide_eq_true (by kernel_rfl)) (by unfold Func.isWrapper; first | (rw [if_pos (by decide +kernel)]; kernel_rfl) | (rw [if_neg (by decide +kernel)]; exact ⟨rfl, rfl⟩))
    (fun os started H enc _ F => by rw [OpenClaim.pre_eq_preRow]; exact nearestFewest_lifted os started H enc F)

theorem nearestFewest_plain (f : FuncId) (fn : Func) (hf : Tryz.pinned.checked.prog.funcNamed "quipu/quipulaw04.NearestFewest" = some f) (hfn : Tryz.pinned.checked.prog.funcs[f]? = some fn) :
    false = Tryz.pinned.checked.prog.looks [] ∧ ∀ (j : Nat) t, fn.params[j]? = some t → Tryz.pinned.checked.prog.wantsStandIn t = false := by
  obtain rfl : f = 7 := Option.some.inj ((show Tryz.prog.funcNamed "quipu/quipulaw04.NearestFewest" = some 7 by kernel_rfl).symm.trans hf) |>.symm
  obtain rfl : fn = Tryz.f7 := (Option.some.inj (Tryz.func7.symm.trans hfn)).symm
  refine ⟨by kernel_rfl, fun j t ht => ?_⟩
  rw [Tryz.params7] at ht
  obtain rfl : t = 24 := by simpa using Array.mem_of_getElem? ht
  exact (show Tryz.prog.wantsStandIn 24 = false by kernel_rfl)

theorem nearestFewest_proved : Rows.NearestFewestCardSaid :=
  Claim7.holds_tied_plain_at .later [] _ _ _ _ nearestFewest_said (fun _ h => by cases h) (by kernel_rfl) (fun _ h => by cases h) nearestFewest_row_tie rfl ⟨rfl, rfl⟩ (by kernel_rfl) rfl nearestFewest_plain (by kernel_rfl)

end Go.Proofs.YtlhekeifffofjaaGreatDoor
