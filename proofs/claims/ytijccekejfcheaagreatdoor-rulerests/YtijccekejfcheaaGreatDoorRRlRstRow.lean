/-
  quipulaw09.RuleRests answers true and leaves its arguments as they were, whatever they are, the library's tables being what their text lays: the given statement RuleRestsCardSaid.
-/
import Derived.Test.YtijccekejfcheaaGreatDoorCards
import Derived.Test.YtijccekejfcheaaGreatDoorTie
import Derived.Test.YtijccekejfcheaaGreatDoorRB1
import Derived.Test.YtijccekejfcheaaGreatDoorRB23
import Derived.Deep.DeepHandedRow
import Derived.SizedLaws
namespace Go.Proofs.YtijccekejfcheaaGreatDoor
open Go.ChangeShapes Go.WideShapes Go.ChangeAt Go.RowKit

set_option maxRecDepth 100000 in
theorem ruleRests_contract (H : Type) (enc : TypeId × Value → H) (W : World) (base : Nat) (args : Array Value) (ds gs : List (DataW H)) (before : List MemPlace)
    (hval : ∀ (j : Nat) t v, Tryz.f7.params[j]? = some t → args[j]? = some v → Value.okWide Tryz.prog W .any base t v)
    (hW : DataW.Whole enc Tryz.prog Tryz.f7.params.toList Rows.ruleRestsSpec.vars false W args.toList ds gs before) (hL : laidMetH Tryz.prog Rows.ruleRestsRow.laid W) (hz : (DataW.weightsEach Tryz.prog (Tryz.f7.params.toList ++ (OpenSpec.ofChange Rows.ruleRestsSpec).bare.plain.varTypes Tryz.prog) (ds ++ gs)).all (· ≤ reachBytes) = true) :
    Calls Tryz.prog 7 args W fun e W' => ∃ v, e = .returned v ∧ Rows.ruleRestsSpec.post enc Tryz.prog Tryz.f7 false true false false W args v W' := by
  have tab : Evs W := evs hL
  have hW' := hW
  obtain ⟨p, q, hA0, hV, rfl, _, _⟩ := hW
  have hA : DataW.TrodAll enc Tryz.prog W 0 (fun _ => true) true Tryz.f7.params.toList args.toList ds p := hA0
  rw [Tryz.params7] at hA hval
  obtain ⟨v0, vs0, d0, ds0, p0, q0, hargs, rfl, rfl, h0, r0⟩ := trodAll_cons hA
  obtain ⟨v1, vs1, d1, ds1, p1, q1, rfl, rfl, rfl, h1, r1⟩ := trodAll_cons r0
  obtain ⟨v2, vs2, d2, ds2, p2, q2, rfl, rfl, rfl, h2, r2⟩ := trodAll_cons r1
  obtain ⟨rfl, rfl, rfl⟩ := trodAll_nil r2
  obtain rfl : args = #[v0, v1, v2] := by cases args; simp_all
  obtain ⟨rfl, rfl⟩ := trodVars_none hV
  obtain ⟨sa, rfl, rfl, rfl, wsa⟩ := Go.ChangeMaps.open_string Tryz.underlying9 (hval 0 9 v0 rfl rfl) h0
  obtain ⟨sb, rfl, rfl, rfl, wsb⟩ := Go.ChangeMaps.open_string Tryz.underlying9 (hval 1 9 v1 rfl rfl) h1
  have h2k := h2
  obtain ⟨tnc, oic, ovc, ozc, ofc, otc, oec, rfl, rfl⟩ := viewR (hval 2 45 v2 rfl rfl) h2
  have hza : sa.data.toList.length ≤ reachBytes := sized_string hz (j := 0) (t := 9) (by kernel_rfl) rfl
  have hzb : sb.data.toList.length ≤ reachBytes := sized_string hz (j := 1) (t := 9) (by kernel_rfl) rfl
  obtain ⟨hzc1, hzc2, hzc3⟩ := sized_rest hz (j := 2) (by kernel_rfl) rfl
  clear hA0
  simp only [List.append_nil] at hW'
  refine (rests_row W tab sa (by have h1 := bys_len sa; have h2 : (bys sa).length ≤ reachBytes := hza; have h3 : reachBytes ≤ 140737488355328 := (by decide); omega) sb (by have h1 := bys_len sb; have h2 : (bys sb).length ≤ reachBytes := hzb; have h3 : reachBytes ≤ 140737488355328 := (by decide); omega) tnc oic ovc ozc ofc otc oec (by have h1 := bys_len oic; have h2 : (bys oic).length ≤ reachBytes := hzc1; have h3 : reachBytes ≤ 140737488355328 := (by decide); omega) (by have h1 := bys_len ofc; have h2 : (bys ofc).length ≤ reachBytes := hzc2; have h3 : reachBytes ≤ 140737488355328 := (by decide); omega) (by have h1 := bys_len otc; have h2 : (bys otc).length ≤ reachBytes := hzc3; have h3 : reachBytes ≤ 140737488355328 := (by decide); omega)).mono fun e W' ⟨he, hnx⟩ => ?_
  subst he
  exact ⟨_, rfl, _, _, _, [], _, [], hW', trodAll_cons_mk (shut_bool Tryz.underlying4 _) trodAll_mk0, (trodAll_cons_mk (Go.ChangeMaps.shut_string Tryz.underlying9 wsa) (trodAll_cons_mk (Go.ChangeMaps.shut_string Tryz.underlying9 wsb) (trodAll_cons_mk (Below.trod Tryz.laidOut (by kernel_rfl) (of_decide_eq_true (by kernel_rfl)) h2k hnx (fun x hx => by have := hW'.lt x (by simp [hx]); simpa using this)) trodAll_mk0))), rfl, hnx.frame _, fun h => by cases h⟩

theorem ruleRests_met (os : Os) : laidMet Tryz.prog Rows.ruleRestsRow.laid ((laidWorld os).forCall (fun _ _ => 0) ⟨#[], #[.string ⟨#[]⟩, .string ⟨#[]⟩, .agg #[.int .i64 0, .string ⟨#[]⟩, .int .i64 0, .int .i64 0, .string ⟨#[]⟩, .string ⟨#[]⟩, .int .i64 0]], []⟩).memory :=
  laidMet_of_run' 300 (by kernel_rfl) (by kernel_rfl)
theorem ruleRests_reads (os : Os) {H : Type} (enc : TypeId × Value → H) : ∃ places, DataW.whole enc Tryz.prog ((laidWorld os).forCall (fun _ _ => 0) ⟨#[], #[.string ⟨#[]⟩, .string ⟨#[]⟩, .agg #[.int .i64 0, .string ⟨#[]⟩, .int .i64 0, .int .i64 0, .string ⟨#[]⟩, .string ⟨#[]⟩, .int .i64 0]], []⟩).memory Tryz.f7.params.toList Rows.ruleRestsSpec.vars false #[.string ⟨#[]⟩, .string ⟨#[]⟩, .agg #[.int .i64 0, .string ⟨#[]⟩, .int .i64 0, .int .i64 0, .string ⟨#[]⟩, .string ⟨#[]⟩, .int .i64 0]].toList 8 = some ([.lit (.string []), .lit (.string []), .agg [.lit (.int .i64 0), .agg [.lit (.string []), .lit (.int .i64 0), .lit (.int .i64 0), .lit (.string []), .lit (.string []), .lit (.int .i64 0)]]], [], places) :=
  ⟨[], by kernel_rfl⟩

set_option maxRecDepth 100000 in
theorem ruleRests_lifted (os : Os) (started : os.Started) (H : Type) (enc : TypeId × Value → H) (F : Stop.Interp) :
    ReturnsInHanded {} Tryz.checked os 7 .any ((OpenSpec.ofChange Rows.ruleRestsSpec).preRow enc Tryz.prog Tryz.f7 Rows.ruleRestsRow.domain false Rows.ruleRestsRow.laid) (((OpenSpec.ofChange Rows.ruleRestsSpec).at F).post enc Tryz.prog Tryz.f7 false true false false) := by
  obtain ⟨places, hx⟩ := ruleRests_reads os enc
  refine returnsInHanded_of_row (C := Tryz.checked) (s := OpenSpec.ofChange Rows.ruleRestsSpec) Tryz.own started (by kernel_rfl) Tryz.func7
    (witness_row_at (enc := enc) (C := Tryz.checked) false (laidWorld os) #[.string ⟨#[]⟩, .string ⟨#[]⟩, .agg #[.int .i64 0, .string ⟨#[]⟩, .int .i64 0, .int .i64 0, .string ⟨#[]⟩, .string ⟨#[]⟩, .int .i64 0]] rfl (by kernel_rfl) (by kernel_rfl) (by kernel_rfl)
      (OpenSpec.preRow_of_cond 8 hx (by kernel_rfl) (fun k hk => by cases hk) (by kernel_rfl) (ruleRests_met os))) ?_
  intro W base args ds gs before hval hW _ _ hz hL _ _
  exact ruleRests_contract H enc W base args ds gs before hval hW hL hz

theorem ruleRests_said : Rows.RuleRestsSaid :=
  OpenClaim.holds_of_cond 7 Tryz.f7 rfl rfl rfl rfl rfl rfl rfl ⟨rfl, rfl, rfl, rfl, rfl⟩ rfl rfl rfl rfl rfl (by kernel_rfl) Tryz.func7 (by kernel_rfl)
    (of_decide_eq_true (by kernel_rfl)) (by unfold Func.isWrapper; first | (rw [if_pos (by decide +kernel)]; kernel_rfl) | (rw [if_neg (by decide +kernel)]; exact ⟨rfl, rfl⟩))
    (fun os started H enc _ F => by rw [OpenClaim.pre_eq_preRow]; exact ruleRests_lifted os started H enc F)

theorem ruleRests_plain (f : FuncId) (fn : Func) (hf : Tryz.pinned.checked.prog.funcNamed "quipu/quipulaw09.RuleRests" = some f) (hfn : Tryz.pinned.checked.prog.funcs[f]? = some fn) :
    true = Tryz.pinned.checked.prog.looks [] ∧ ∀ (j : Nat) t, fn.params[j]? = some t → Tryz.pinned.checked.prog.wantsStandIn t = false := by
  obtain rfl : f = 7 := Option.some.inj ((show Tryz.prog.funcNamed "quipu/quipulaw09.RuleRests" = some 7 by kernel_rfl).symm.trans hf) |>.symm
  obtain rfl : fn = Tryz.f7 := (Option.some.inj (Tryz.func7.symm.trans hfn)).symm
  refine ⟨by kernel_rfl, fun j t ht => ?_⟩
  rw [Tryz.params7] at ht
  have hm := Array.mem_of_getElem? ht
  have hm2 : t = 45 ∨ t = 9 := by simpa [or_comm, or_left_comm] using hm
  rcases hm2 with rfl | rfl
  · exact (show Tryz.prog.wantsStandIn 45 = false by kernel_rfl)
  · exact (show Tryz.prog.wantsStandIn 9 = false by kernel_rfl)

theorem ruleRests_proved : Rows.RuleRestsCardSaid :=
  Claim7.holds_tied_plain_at .later [] _ _ _ _ ruleRests_said (fun _ h => by cases h) (by kernel_rfl) (fun _ h => by cases h) ruleRests_row_tie rfl ⟨rfl, rfl⟩ (by kernel_rfl) rfl ruleRests_plain (by kernel_rfl)

end Go.Proofs.YtijccekejfcheaaGreatDoor
