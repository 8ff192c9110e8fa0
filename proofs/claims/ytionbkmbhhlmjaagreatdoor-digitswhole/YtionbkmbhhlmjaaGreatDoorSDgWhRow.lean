/-
  quipulaw16.DigitsWhole answers true and leaves its arguments as they were, whatever they are, the library's tables being what their text lays: the given statement DigitsWholeCardSaid.
-/
import Derived.Test.YtionbkmbhhlmjaaGreatDoorCards
import Derived.Test.YtionbkmbhhlmjaaGreatDoorTie
import Derived.Test.YtionbkmbhhlmjaaGreatDoorSB15
import Derived.Test.YtionbkmbhhlmjaaGreatDoorSB26
import Derived.Test.YtionbkmbhhlmjaaGreatDoorSB24
import Derived.Deep.DeepHandedRow
namespace Go.Proofs.YtionbkmbhhlmjaaGreatDoor
open Go.ChangeShapes Go.WideShapes Go.ChangeAt Go.RowKit

set_option maxRecDepth 100000 in
theorem digitsWhole_contract (H : Type) (enc : TypeId × Value → H) (W : World) (base : Nat) (args : Array Value) (ds gs : List (DataW H)) (before : List MemPlace)
    (hval : ∀ (j : Nat) t v, Tryz.f5.params[j]? = some t → args[j]? = some v → Value.okWide Tryz.prog W .any base t v)
    (hW : DataW.Whole enc Tryz.prog Tryz.f5.params.toList Rows.digitsWholeSpec.vars false W args.toList ds gs before) (hL : laidMetH Tryz.prog Rows.digitsWholeRow.laid W) (hz : (DataW.weightsEach Tryz.prog (Tryz.f5.params.toList ++ (OpenSpec.ofChange Rows.digitsWholeSpec).bare.plain.varTypes Tryz.prog) (ds ++ gs)).all (· ≤ reachBytes) = true) :
    Calls Tryz.prog 5 args W fun e W' => ∃ v, e = .returned v ∧ Rows.digitsWholeSpec.post enc Tryz.prog Tryz.f5 false true false false W args v W' := by
  have tab : Tab W := table hL
  have hW' := hW
  obtain ⟨p, q, hA0, hV, rfl, _, _⟩ := hW
  have hA : DataW.TrodAll enc Tryz.prog W 0 (fun _ => true) true Tryz.f5.params.toList args.toList ds p := hA0
  rw [Tryz.params5] at hA hval
  obtain ⟨v0, vs0, d0, ds0, p0, q0, hargs, rfl, rfl, h0, r0⟩ := trodAll_cons hA
  obtain ⟨v1, vs1, d1, ds1, p1, q1, rfl, rfl, rfl, h1, r1⟩ := trodAll_cons r0
  obtain ⟨rfl, rfl, rfl⟩ := trodAll_nil r1
  obtain rfl : args = #[v0, v1] := by cases args; simp_all
  obtain ⟨rfl, rfl⟩ := trodVars_none hV
  have h0k := h0
  obtain ⟨sca, sna, sia, sfa, sxa, sma, rfl, rfl⟩ := viewH (hval 0 23 v0 rfl rfl) h0
  have h1k := h1
  obtain ⟨gab, gbb, gcb, glb, rfl, zgb, zhb⟩ := viewGr (hval 1 28 v1 rfl rfl) h1
  obtain ⟨hza1, hza2⟩ := sized_shown hz (j := 0) (by kernel_rfl) rfl
  clear hA0
  simp only [List.append_nil] at hW'
  refine (dgwh_row W tab sca sna sia sfa sxa sma (by have h1 := bys_len sia; have h2 : (bys sia).length ≤ reachBytes := hza1; have h3 : reachBytes ≤ 140737488355328 := (by decide); omega) (by have h1 := bys_len sfa; have h2 : (bys sfa).length ≤ reachBytes := hza2; have h3 : reachBytes ≤ 140737488355328 := (by decide); omega) gab gbb gcb glb zgb zhb).mono fun e W' ⟨he, hnx⟩ => ?_
  subst he
  exact ⟨_, rfl, _, _, _, [], _, [], hW', trodAll_cons_mk (shut_bool Tryz.underlying4 _) trodAll_mk0, (trodAll_cons_mk (Below.trod Tryz.laidOut (by kernel_rfl) (of_decide_eq_true (by kernel_rfl)) h0k hnx (fun x hx => by have := hW'.lt x (by simp [hx]); simpa using this)) (trodAll_cons_mk (Below.trod Tryz.laidOut (by kernel_rfl) (of_decide_eq_true (by kernel_rfl)) h1k hnx (fun x hx => by have := hW'.lt x (by simp [hx]); simpa using this)) trodAll_mk0)), rfl, hnx.frame _, fun h => by cases h⟩

theorem digitsWhole_met (os : Os) : laidMet Tryz.prog Rows.digitsWholeRow.laid ((laidWorld os).forCall (fun _ _ => 0) ⟨#[], #[.agg #[.int .i64 0, .bool false, .string ⟨#[]⟩, .string ⟨#[]⟩, .int .i64 0, .bool false], .agg #[.int .i64 0, .int .i64 0, .int .i64 0, .bool false]], []⟩).memory :=
  laidMet_of_run' 300 (by kernel_rfl) (by kernel_rfl)
theorem digitsWhole_reads (os : Os) {H : Type} (enc : TypeId × Value → H) : ∃ places, DataW.whole enc Tryz.prog ((laidWorld os).forCall (fun _ _ => 0) ⟨#[], #[.agg #[.int .i64 0, .bool false, .string ⟨#[]⟩, .string ⟨#[]⟩, .int .i64 0, .bool false], .agg #[.int .i64 0, .int .i64 0, .int .i64 0, .bool false]], []⟩).memory Tryz.f5.params.toList Rows.digitsWholeSpec.vars false #[.agg #[.int .i64 0, .bool false, .string ⟨#[]⟩, .string ⟨#[]⟩, .int .i64 0, .bool false], .agg #[.int .i64 0, .int .i64 0, .int .i64 0, .bool false]].toList 8 = some ([.agg [.lit (.int .i64 0), .lit (.bool false), .lit (.string []), .lit (.string []), .lit (.int .i64 0), .lit (.bool false)], .agg [.lit (.int .i64 0), .lit (.int .i64 0), .lit (.int .i64 0), .lit (.bool false)]], [], places) :=
  ⟨[], by kernel_rfl⟩

set_option maxRecDepth 100000 in
theorem digitsWhole_lifted (os : Os) (started : os.Started) (H : Type) (enc : TypeId × Value → H) (F : Stop.Interp) :
    ReturnsInHanded {} Tryz.checked os 5 .any ((OpenSpec.ofChange Rows.digitsWholeSpec).preRow enc Tryz.prog Tryz.f5 Rows.digitsWholeRow.domain false Rows.digitsWholeRow.laid) (((OpenSpec.ofChange Rows.digitsWholeSpec).at F).post enc Tryz.prog Tryz.f5 false true false false) := by
  obtain ⟨places, hx⟩ := digitsWhole_reads os enc
  refine returnsInHanded_of_row (C := Tryz.checked) (s := OpenSpec.ofChange Rows.digitsWholeSpec) Tryz.own started (by kernel_rfl) Tryz.func5
    (witness_row_at (enc := enc) (C := Tryz.checked) false (laidWorld os) #[.agg #[.int .i64 0, .bool false, .string ⟨#[]⟩, .string ⟨#[]⟩, .int .i64 0, .bool false], .agg #[.int .i64 0, .int .i64 0, .int .i64 0, .bool false]] rfl (by kernel_rfl) (by kernel_rfl) (by kernel_rfl)
      (OpenSpec.preRow_of_cond 8 hx (by kernel_rfl) (fun k hk => by cases hk) (by kernel_rfl) (digitsWhole_met os))) ?_
  intro W base args ds gs before hval hW _ _ hz hL _ _
  exact digitsWhole_contract H enc W base args ds gs before hval hW hL hz

theorem digitsWhole_said : Rows.DigitsWholeSaid :=
  OpenClaim.holds_of_cond 5 Tryz.f5 rfl rfl rfl rfl rfl rfl rfl ⟨rfl, rfl, rfl, rfl, rfl⟩ rfl rfl rfl rfl rfl (by kernel_rfl) Tryz.func5 (by kernel_rfl)
    (of_decide_eq_true (by kernel_rfl)) (by unfold Func.isWrapper; first | (rw [if_pos (by decide +kernel)]; kernel_rfl) | (rw [if_neg (by decide +kernel)]; exact ⟨rfl, rfl⟩))
    (fun os started H enc _ F => by rw [OpenClaim.pre_eq_preRow]; exact digitsWhole_lifted os started H enc F)

theorem digitsWhole_plain (f : FuncId) (fn : Func) (hf : Tryz.pinned.checked.prog.funcNamed "quipu/quipulaw16.DigitsWhole" = some f) (hfn : Tryz.pinned.checked.prog.funcs[f]? = some fn) :
    true = Tryz.pinned.checked.prog.looks [] ∧ ∀ (j : Nat) t, fn.params[j]? = some t → Tryz.pinned.checked.prog.wantsStandIn t = false := by
  obtain rfl : f = 5 := Option.some.inj ((show Tryz.prog.funcNamed "quipu/quipulaw16.DigitsWhole" = some 5 by kernel_rfl).symm.trans hf) |>.symm
  obtain rfl : fn = Tryz.f5 := (Option.some.inj (Tryz.func5.symm.trans hfn)).symm
  refine ⟨by kernel_rfl, fun j t ht => ?_⟩
  rw [Tryz.params5] at ht
  have hm := Array.mem_of_getElem? ht
  have hm2 : t = 23 ∨ t = 28 := by first | (simpa [or_comm, or_left_comm] using hm; done) | (simp at hm; rcases hm with h | h | h <;> simp [h])
  rcases hm2 with rfl | rfl
  · exact (show Tryz.prog.wantsStandIn 23 = false by kernel_rfl)
  · exact (show Tryz.prog.wantsStandIn 28 = false by kernel_rfl)

theorem digitsWhole_proved : Rows.DigitsWholeCardSaid :=
  Claim7.holds_tied_plain_at .later [] _ _ _ _ digitsWhole_said (fun _ h => by cases h) (by kernel_rfl) (fun _ h => by cases h) digitsWhole_row_tie rfl ⟨rfl, rfl⟩ (by kernel_rfl) rfl digitsWhole_plain (by kernel_rfl)

end Go.Proofs.YtionbkmbhhlmjaaGreatDoor
