/-
  quipulaw09.RuleBlanks answers true and leaves its arguments as they were, whatever they are, where together they hold at most 1048576 values, the library's tables being what their text lays: the given statement RuleBlanksUptoCardSaid.
-/
import Derived.Test.YthkkndaednienaaGreatDoorCards
import Derived.Test.YthkkndaednienaaGreatDoorTie
import Derived.Test.YthkkndaednienaaGreatDoorBB1
import Derived.Test.YthkkndaednienaaGreatDoorBB24
import Derived.Deep.DeepHandedRow
namespace Go.Proofs.YthkkndaednienaaGreatDoor
open Go.ChangeShapes Go.WideShapes Go.ChangeAt Go.RowKit

set_option maxRecDepth 100000 in
theorem ruleBlanks_contract (H : Type) (enc : TypeId × Value → H) (W : World) (base : Nat) (args : Array Value) (ds gs : List (DataW H)) (before : List MemPlace)
    (hval : ∀ (j : Nat) t v, Tryz.f9.params[j]? = some t → args[j]? = some v → Value.okWide Tryz.prog W .any base t v)
    (hW : DataW.Whole enc Tryz.prog Tryz.f9.params.toList Rows.ruleBlanksSpec.vars false W args.toList ds gs before) (hL : laidMetH Tryz.prog Rows.ruleBlanksUptoRow.laid W) (hk : Rows.uptoSmall H (ds ++ gs) = true) (hz : (DataW.weightsEach Tryz.prog (Tryz.f9.params.toList ++ (Rows.OpenSpec.upto Rows.ruleBlanksSpec).bare.plain.varTypes Tryz.prog) (ds ++ gs)).all (· ≤ reachBytes) = true) :
    Calls Tryz.prog 9 args W fun e W' => ∃ v, e = .returned v ∧ Rows.ruleBlanksSpec.post enc Tryz.prog Tryz.f9 false true false false W args v W' := by
  have tab : Evs W := evs hL
  have hW' := hW
  obtain ⟨p, q, hA0, hV, rfl, _, _⟩ := hW
  have hA : DataW.TrodAll enc Tryz.prog W 0 (fun _ => true) true Tryz.f9.params.toList args.toList ds p := hA0
  rw [Tryz.params9] at hA hval
  obtain ⟨v0, vs0, d0, ds0, p0, q0, hargs, rfl, rfl, h0, r0⟩ := trodAll_cons hA
  obtain ⟨v1, vs1, d1, ds1, p1, q1, rfl, rfl, rfl, h1, r1⟩ := trodAll_cons r0
  obtain ⟨rfl, rfl, rfl⟩ := trodAll_nil r1
  obtain rfl : args = #[v0, v1] := by cases args; simp_all
  obtain ⟨rfl, rfl⟩ := trodVars_none hV
  obtain ⟨sa, rfl, rfl, rfl, wsa⟩ := Go.ChangeMaps.open_string Tryz.underlying9 (hval 0 9 v0 rfl rfl) h0
  have h1k := h1
  obtain ⟨oib, ovb, ozb, ofb, otb, oeb, rfl, rfl⟩ := viewO (hval 1 37 v1 rfl rfl) h1
  obtain ⟨hzb1, hzb2, hzb3⟩ := sized_oper hz (j := 1) (by kernel_rfl) rfl
  clear hA0
  simp only [List.append_nil] at hW' hk
  have hbulk : Rows.uptoBulkAll [DataW.lit (.string sa.data.toList), DataW.agg [.lit (.string oib.data.toList), .lit (.int .i64 ovb), .lit (.int .i64 ozb), .lit (.string ofb.data.toList), .lit (.string otb.data.toList), .lit (.int .i64 oeb)]] ≤ 1048576 := of_decide_eq_true hk
  simp only [Rows.uptoBulkAll] at hbulk
  refine (blanks_row W tab sa (by have := bys_len sa; unfold bys at this; simp only [Rows.uptoBulk] at hbulk; omega) oib ovb ozb ofb otb oeb (by have h1 := bys_len oib; have h2 : (bys oib).length ≤ reachBytes := hzb1; have h3 : reachBytes ≤ 140737488355328 := (by decide); omega) (by have h1 := bys_len ofb; have h2 : (bys ofb).length ≤ reachBytes := hzb2; have h3 : reachBytes ≤ 140737488355328 := (by decide); omega) (by have h1 := bys_len otb; have h2 : (bys otb).length ≤ reachBytes := hzb3; have h3 : reachBytes ≤ 140737488355328 := (by decide); omega)).mono fun e W' ⟨he, hnx⟩ => ?_
  subst he
  exact ⟨_, rfl, _, _, _, [], _, [], hW', trodAll_cons_mk (shut_bool Tryz.underlying4 _) trodAll_mk0, (trodAll_cons_mk (Go.ChangeMaps.shut_string Tryz.underlying9 wsa) (trodAll_cons_mk (Below.trod Tryz.laidOut (by kernel_rfl) (of_decide_eq_true (by kernel_rfl)) h1k hnx (fun x hx => by have := hW'.lt x (by simp [hx]); simpa using this)) trodAll_mk0)), rfl, hnx.frame _, fun h => by cases h⟩

theorem ruleBlanks_met (os : Os) : laidMet Tryz.prog Rows.ruleBlanksUptoRow.laid ((laidWorld os).forCall (fun _ _ => 0) ⟨#[], #[.string ⟨#[]⟩, .agg #[.string ⟨#[]⟩, .int .i64 0, .int .i64 0, .string ⟨#[]⟩, .string ⟨#[]⟩, .int .i64 0]], []⟩).memory :=
  laidMet_of_run' 300 (by kernel_rfl) (by kernel_rfl)
theorem ruleBlanks_reads (os : Os) {H : Type} (enc : TypeId × Value → H) : ∃ places, DataW.whole enc Tryz.prog ((laidWorld os).forCall (fun _ _ => 0) ⟨#[], #[.string ⟨#[]⟩, .agg #[.string ⟨#[]⟩, .int .i64 0, .int .i64 0, .string ⟨#[]⟩, .string ⟨#[]⟩, .int .i64 0]], []⟩).memory Tryz.f9.params.toList Rows.ruleBlanksSpec.vars false #[.string ⟨#[]⟩, .agg #[.string ⟨#[]⟩, .int .i64 0, .int .i64 0, .string ⟨#[]⟩, .string ⟨#[]⟩, .int .i64 0]].toList 8 = some ([.lit (.string []), .agg [.lit (.string []), .lit (.int .i64 0), .lit (.int .i64 0), .lit (.string []), .lit (.string []), .lit (.int .i64 0)]], [], places) :=
  ⟨[], by kernel_rfl⟩

set_option maxRecDepth 100000 in
theorem ruleBlanks_lifted (os : Os) (started : os.Started) (H : Type) (enc : TypeId × Value → H) (F : Stop.Interp) :
    ReturnsInHanded {} Tryz.checked os 9 .any ((Rows.OpenSpec.upto Rows.ruleBlanksSpec).preRow enc Tryz.prog Tryz.f9 Rows.ruleBlanksUptoRow.domain false Rows.ruleBlanksUptoRow.laid) (((Rows.OpenSpec.upto Rows.ruleBlanksSpec).at F).post enc Tryz.prog Tryz.f9 false true false false) := by
  obtain ⟨places, hx⟩ := ruleBlanks_reads os enc
  refine returnsInHanded_of_row (C := Tryz.checked) (s := Rows.OpenSpec.upto Rows.ruleBlanksSpec) Tryz.own started (by kernel_rfl) Tryz.func9
    (witness_row_at (enc := enc) (C := Tryz.checked) false (laidWorld os) #[.string ⟨#[]⟩, .agg #[.string ⟨#[]⟩, .int .i64 0, .int .i64 0, .string ⟨#[]⟩, .string ⟨#[]⟩, .int .i64 0]] rfl (by kernel_rfl) (by kernel_rfl) (by kernel_rfl)
      (OpenSpec.preRow_of_cond 8 hx (by kernel_rfl) (fun k hk => by cases hk; kernel_rfl) (by kernel_rfl) (ruleBlanks_met os))) ?_
  intro W base args ds gs before hval hW _ hcond hz hL _ _
  exact ruleBlanks_contract H enc W base args ds gs before hval hW hL (hcond _ rfl) hz

theorem ruleBlanks_said : Rows.RuleBlanksUptoSaid :=
  OpenClaim.holds_of_cond 9 Tryz.f9 rfl rfl rfl rfl rfl rfl rfl ⟨rfl, rfl, rfl, rfl, rfl⟩ rfl rfl rfl rfl rfl (by kernel_rfl) Tryz.func9 (by kernel_rfl)
    (of_decide_eq_true (by kernel_rfl)) (by unfold Func.isWrapper; first | (rw [if_pos (by decide +kernel)]; kernel_rfl) | (rw [if_neg (by decide +kernel)]; exact ⟨rfl, rfl⟩))
    (fun os started H enc _ F => by rw [OpenClaim.pre_eq_preRow]; exact ruleBlanks_lifted os started H enc F)

theorem ruleBlanks_plain (f : FuncId) (fn : Func) (hf : Tryz.pinned.checked.prog.funcNamed "quipu/quipulaw09.RuleBlanks" = some f) (hfn : Tryz.pinned.checked.prog.funcs[f]? = some fn) :
    true = Tryz.pinned.checked.prog.looks [] ∧ ∀ (j : Nat) t, fn.params[j]? = some t → Tryz.pinned.checked.prog.wantsStandIn t = false := by
  obtain rfl : f = 9 := Option.some.inj ((show Tryz.prog.funcNamed "quipu/quipulaw09.RuleBlanks" = some 9 by kernel_rfl).symm.trans hf) |>.symm
  obtain rfl : fn = Tryz.f9 := (Option.some.inj (Tryz.func9.symm.trans hfn)).symm
  refine ⟨by kernel_rfl, fun j t ht => ?_⟩
  rw [Tryz.params9] at ht
  have hm := Array.mem_of_getElem? ht
  have hm2 : t = 9 ∨ t = 37 := by simpa [or_comm, or_left_comm] using hm
  rcases hm2 with rfl | rfl
  · exact (show Tryz.prog.wantsStandIn 9 = false by kernel_rfl)
  · exact (show Tryz.prog.wantsStandIn 37 = false by kernel_rfl)

theorem ruleBlanks_proved : Rows.RuleBlanksUptoCardSaid :=
  Claim7.holds_tied_plain_at .later [] _ _ _ _ ruleBlanks_said (fun _ h => by cases h) (by kernel_rfl) (fun _ h => by cases h) ruleBlanksUpto_row_tie rfl ⟨rfl, rfl⟩ (by kernel_rfl) rfl ruleBlanks_plain (by kernel_rfl)

end Go.Proofs.YthkkndaednienaaGreatDoor
