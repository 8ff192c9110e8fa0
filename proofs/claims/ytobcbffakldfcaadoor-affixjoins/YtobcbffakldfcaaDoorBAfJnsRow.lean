/-
  quipulaw13.AffixJoins answers true and leaves its arguments as they were, whatever they are, the library's tables being what their text lays: the given statement AffixJoinsCardSaid.
-/
import Derived.Test.YtobcbffakldfcaaDoorCards
import Derived.Test.YtobcbffakldfcaaDoorTie
import Derived.Test.YtobcbffakldfcaaDoorBB1
import Derived.Test.YtobcbffakldfcaaDoorBB5
import Derived.Test.YtobcbffakldfcaaDoorBB6
import Derived.Deep.DeepHandedRow
import Derived.SizedLaws
namespace Go.Proofs.YtobcbffakldfcaaDoor
open Go.ChangeShapes Go.WideShapes Go.ChangeAt Go.RowKit

set_option maxRecDepth 100000 in
theorem affixJoins_contract (H : Type) (enc : TypeId × Value → H) (W : World) (base : Nat) (args : Array Value) (ds gs : List (DataW H)) (before : List MemPlace)
    (hval : ∀ (j : Nat) t v, Tryd.f6.params[j]? = some t → args[j]? = some v → Value.okWide Tryd.prog W .any base t v)
    (hW : DataW.Whole enc Tryd.prog Tryd.f6.params.toList Rows.affixJoinsSpec.vars false W args.toList ds gs before) (hL : laidMetH Tryd.prog Rows.affixJoinsRow.laid W) (hz : (DataW.weightsEach Tryd.prog (Tryd.f6.params.toList ++ (OpenSpec.ofChange Rows.affixJoinsSpec).bare.plain.varTypes Tryd.prog) (ds ++ gs)).all (· ≤ reachBytes) = true) (hsh : W.ShapedOpen Tryd.prog) :
    Calls Tryd.prog 6 args W fun e W' => ∃ v, e = .returned v ∧ Rows.affixJoinsSpec.post enc Tryd.prog Tryd.f6 false true false false W args v W' := by
  have tab : Wd W := table hL hsh
  have hW' := hW
  obtain ⟨p, q, hA0, hV, rfl, _, _⟩ := hW
  have hA : DataW.TrodAll enc Tryd.prog W 0 (fun _ => true) true Tryd.f6.params.toList args.toList ds p := hA0
  rw [Tryd.params6] at hA hval
  obtain ⟨v0, vs0, d0, ds0, p0, q0, hargs, rfl, rfl, h0, r0⟩ := trodAll_cons hA
  obtain ⟨v1, vs1, d1, ds1, p1, q1, rfl, rfl, rfl, h1, r1⟩ := trodAll_cons r0
  obtain ⟨rfl, rfl, rfl⟩ := trodAll_nil r1
  obtain rfl : args = #[v0, v1] := by cases args; simp_all
  obtain ⟨rfl, rfl⟩ := trodVars_none hV
  obtain ⟨sa, rfl, rfl, rfl, wsa⟩ := Go.ChangeMaps.open_string Tryd.underlying9 (hval 0 9 v0 rfl rfl) h0
  obtain ⟨sb, rfl, rfl, rfl, wsb⟩ := Go.ChangeMaps.open_string Tryd.underlying9 (hval 1 9 v1 rfl rfl) h1
  have hza : sa.data.toList.length ≤ reachBytes := sized_string hz (j := 0) (t := 9) (by kernel_rfl) rfl
  have hzb : sb.data.toList.length ≤ reachBytes := sized_string hz (j := 1) (t := 9) (by kernel_rfl) rfl
  clear hA0
  simp only [List.append_nil] at hW'
  refine (joins_row W tab sa (by have h1 := bys_len sa; have h2 : (bys sa).length ≤ reachBytes := hza; have h3 : reachBytes ≤ 140737488355328 := (by decide); omega) sb (by have h1 := bys_len sb; have h2 : (bys sb).length ≤ reachBytes := hzb; have h3 : reachBytes ≤ 140737488355328 := (by decide); omega)).mono fun e W' ⟨he, hnx⟩ => ?_
  subst he
  exact ⟨_, rfl, _, _, _, [], _, [], hW', trodAll_cons_mk (shut_bool Tryd.underlying4 _) trodAll_mk0, (trodAll_cons_mk (Go.ChangeMaps.shut_string Tryd.underlying9 wsa) (trodAll_cons_mk (Go.ChangeMaps.shut_string Tryd.underlying9 wsb) trodAll_mk0)), rfl, hnx.frame _, fun h => by cases h⟩

theorem affixJoins_met (os : Os) : laidMet Tryd.prog Rows.affixJoinsRow.laid ((laidWorld os).forCall (fun _ _ => 0) ⟨#[], #[.string ⟨#[]⟩, .string ⟨#[]⟩], []⟩).memory :=
  laidMet_of_run' 600 (by kernel_rfl) (by kernel_rfl)
theorem affixJoins_reads (os : Os) {H : Type} (enc : TypeId × Value → H) : ∃ places, DataW.whole enc Tryd.prog ((laidWorld os).forCall (fun _ _ => 0) ⟨#[], #[.string ⟨#[]⟩, .string ⟨#[]⟩], []⟩).memory Tryd.f6.params.toList Rows.affixJoinsSpec.vars false #[.string ⟨#[]⟩, .string ⟨#[]⟩].toList 8 = some ([.lit (.string []), .lit (.string [])], [], places) :=
  ⟨[], by kernel_rfl⟩

set_option maxRecDepth 100000 in
theorem affixJoins_lifted (os : Os) (started : os.Started) (H : Type) (enc : TypeId × Value → H) (F : Stop.Interp) :
    ReturnsInHanded {} Tryd.checked os 6 .any ((OpenSpec.ofChange Rows.affixJoinsSpec).preRow enc Tryd.prog Tryd.f6 Rows.affixJoinsRow.domain false Rows.affixJoinsRow.laid) (((OpenSpec.ofChange Rows.affixJoinsSpec).at F).post enc Tryd.prog Tryd.f6 false true false false) := by
  obtain ⟨places, hx⟩ := affixJoins_reads os enc
  refine returnsInHanded_of_row (C := Tryd.checked) (s := OpenSpec.ofChange Rows.affixJoinsSpec) Tryd.own started (by kernel_rfl) Tryd.func6
    (witness_row_at (enc := enc) (C := Tryd.checked) false (laidWorld os) #[.string ⟨#[]⟩, .string ⟨#[]⟩] rfl (by kernel_rfl) (by kernel_rfl) (by kernel_rfl)
      (OpenSpec.preRow_of_cond 8 hx (by kernel_rfl) (fun k hk => by cases hk) (by kernel_rfl) (affixJoins_met os))) ?_
  intro W base args ds gs before hval hW _ _ hz hL hsh _
  exact affixJoins_contract H enc W base args ds gs before hval hW hL hz hsh

theorem affixJoins_said : Rows.AffixJoinsSaid :=
  OpenClaim.holds_of_cond 6 Tryd.f6 rfl rfl rfl rfl rfl rfl rfl ⟨rfl, rfl, rfl, rfl, rfl⟩ rfl rfl rfl rfl rfl (by kernel_rfl) Tryd.func6 (by kernel_rfl)
    (of_decide_eq_true (by kernel_rfl)) (by unfold Func.isWrapper; first | (rw [if_pos (by decide +kernel)]; kernel_rfl) | (rw [if_neg (by decide +kernel)]; exact ⟨rfl, rfl⟩))
    (fun os started H enc _ F => by rw [OpenClaim.pre_eq_preRow]; exact affixJoins_lifted os started H enc F)

theorem affixJoins_plain (f : FuncId) (fn : Func) (hf : Tryd.pinned.checked.prog.funcNamed "quipu/quipulaw13.AffixJoins" = some f) (hfn : Tryd.pinned.checked.prog.funcs[f]? = some fn) :
    false = Tryd.pinned.checked.prog.looks [] ∧ ∀ (j : Nat) t, fn.params[j]? = some t → Tryd.pinned.checked.prog.wantsStandIn t = false := by
  obtain rfl : f = 6 := Option.some.inj ((show Tryd.prog.funcNamed "quipu/quipulaw13.AffixJoins" = some 6 by kernel_rfl).symm.trans hf) |>.symm
  obtain rfl : fn = Tryd.f6 := (Option.some.inj (Tryd.func6.symm.trans hfn)).symm
  refine ⟨by kernel_rfl, fun j t ht => ?_⟩
  rw [Tryd.params6] at ht
  obtain rfl : t = 9 := by simpa using Array.mem_of_getElem? ht
  exact (show Tryd.prog.wantsStandIn 9 = false by kernel_rfl)

theorem affixJoins_proved : Rows.AffixJoinsCardSaid :=
  Claim7.holds_tied_plain_at .later [] _ _ _ _ affixJoins_said (fun _ h => by cases h) (by kernel_rfl) (fun _ h => by cases h) affixJoins_row_tie rfl ⟨rfl, rfl⟩ (by kernel_rfl) rfl affixJoins_plain (by kernel_rfl)

end Go.Proofs.YtobcbffakldfcaaDoor
