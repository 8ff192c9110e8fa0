/-
  quipulaw17.FieldsLeaves answers true and leaves its arguments as they were, whatever they are, where together they hold at most 1048576 values, the library's tables being what their text lays: the given statement FieldsLeavesUptoCardSaid.
-/
import Derived.Test.YtkgapklhgkngnaaDoorCards
import Derived.Test.YtkgapklhgkngnaaDoorTie
import Derived.Test.YtkgapklhgkngnaaDoorEB9
import Derived.Test.YtkgapklhgkngnaaDoorEB15
import Derived.Deep.DeepHandedRow
namespace Go.Proofs.YtkgapklhgkngnaaDoor
open Go.ChangeShapes Go.WideShapes Go.ChangeAt Go.RowKit

set_option maxRecDepth 100000 in
theorem fieldsLeaves_contract (H : Type) (enc : TypeId × Value → H) (W : World) (base : Nat) (args : Array Value) (ds gs : List (DataW H)) (before : List MemPlace)
    (hval : ∀ (j : Nat) t v, Tryd.f5.params[j]? = some t → args[j]? = some v → Value.okWide Tryd.prog W .any base t v)
    (hW : DataW.Whole enc Tryd.prog Tryd.f5.params.toList Rows.fieldsLeavesSpec.vars false W args.toList ds gs before) (hL : laidMetH Tryd.prog Rows.fieldsLeavesUptoRow.laid W) (hk : Rows.uptoSmall H (ds ++ gs) = true) :
    Calls Tryd.prog 5 args W fun e W' => ∃ v, e = .returned v ∧ Rows.fieldsLeavesSpec.post enc Tryd.prog Tryd.f5 false true false false W args v W' := by
  have tab : U8 W := table hL
  have hW' := hW
  obtain ⟨p, q, hA0, hV, rfl, _, _⟩ := hW
  have hA : DataW.TrodAll enc Tryd.prog W 0 (fun _ => true) true Tryd.f5.params.toList args.toList ds p := hA0
  rw [Tryd.params5] at hA hval
  obtain ⟨v0, vs0, d0, ds0, p0, q0, hargs, rfl, rfl, h0, r0⟩ := trodAll_cons hA
  obtain ⟨v1, vs1, d1, ds1, p1, q1, rfl, rfl, rfl, h1, r1⟩ := trodAll_cons r0
  obtain ⟨rfl, rfl, rfl⟩ := trodAll_nil r1
  obtain rfl : args = #[v0, v1] := by cases args; simp_all
  obtain ⟨rfl, rfl⟩ := trodVars_none hV
  have h0k := h0
  obtain ⟨ta, ua, fa, rfl, faa, fba, fna⟩ := viewOut (hval 0 25 v0 rfl rfl) h0
  obtain ⟨nb, rfl, rfl, rfl, wfb⟩ := open_int Tryd.underlying3 (hval 1 3 v1 rfl rfl) h1
  clear hA0
  simp only [List.append_nil] at hW' hk
  have hbulk : Rows.uptoBulkAll [d0, DataW.lit (.int .i64 nb)] ≤ 1048576 := of_decide_eq_true hk
  simp only [Rows.uptoBulkAll] at hbulk
  refine (lvl_row W tab ta ua fa faa fna (fba (by omega)).1 (fba (by omega)).2 nb).mono fun e W' ⟨he, hnx⟩ => ?_
  subst he
  exact ⟨_, rfl, _, _, _, [], _, [], hW', trodAll_cons_mk (shut_bool Tryd.underlying4 _) trodAll_mk0, (trodAll_cons_mk (Below.trod Tryd.laidOut (by kernel_rfl) (of_decide_eq_true (by kernel_rfl)) h0k hnx (fun x hx => by have := hW'.lt x (by simp [hx]); simpa using this)) (trodAll_cons_mk (shut_int Tryd.underlying3 wfb) trodAll_mk0)), rfl, hnx.frame _, fun h => by cases h⟩

theorem fieldsLeaves_met (os : Os) : laidMet Tryd.prog Rows.fieldsLeavesUptoRow.laid ((laidWorld os).forCall (fun _ _ => 0) ⟨#[], #[.agg #[.string ⟨#[]⟩, .slice none 0 0], .int .i64 0], []⟩).memory :=
  laidMet_of_run' 600 (by kernel_rfl) (by kernel_rfl)
theorem fieldsLeaves_reads (os : Os) {H : Type} (enc : TypeId × Value → H) : ∃ places, DataW.whole enc Tryd.prog ((laidWorld os).forCall (fun _ _ => 0) ⟨#[], #[.agg #[.string ⟨#[]⟩, .slice none 0 0], .int .i64 0], []⟩).memory Tryd.f5.params.toList Rows.fieldsLeavesSpec.vars false #[.agg #[.string ⟨#[]⟩, .slice none 0 0], .int .i64 0].toList 8 = some ([.agg [.lit (.string []), .nil], .lit (.int .i64 0)], [], places) :=
  ⟨[], by kernel_rfl⟩

set_option maxRecDepth 100000 in
theorem fieldsLeaves_lifted (os : Os) (started : os.Started) (H : Type) (enc : TypeId × Value → H) (F : Stop.Interp) :
    ReturnsInHanded {} Tryd.checked os 5 .any ((Rows.OpenSpec.upto Rows.fieldsLeavesSpec).preRow enc Tryd.prog Tryd.f5 Rows.fieldsLeavesUptoRow.domain false Rows.fieldsLeavesUptoRow.laid) (((Rows.OpenSpec.upto Rows.fieldsLeavesSpec).at F).post enc Tryd.prog Tryd.f5 false true false false) := by
  obtain ⟨places, hx⟩ := fieldsLeaves_reads os enc
  refine returnsInHanded_of_row (C := Tryd.checked) (s := Rows.OpenSpec.upto Rows.fieldsLeavesSpec) Tryd.own started (by kernel_rfl) Tryd.func5
    (witness_row_at (enc := enc) (C := Tryd.checked) false (laidWorld os) #[.agg #[.string ⟨#[]⟩, .slice none 0 0], .int .i64 0] rfl (by kernel_rfl) (by kernel_rfl) (by kernel_rfl)
      (OpenSpec.preRow_of_cond 8 hx (by kernel_rfl) (fun k hk => by cases hk; kernel_rfl) (by kernel_rfl) (fieldsLeaves_met os))) ?_
  intro W base args ds gs before hval hW _ hcond _ hL _ _
  exact fieldsLeaves_contract H enc W base args ds gs before hval hW hL (hcond _ rfl)

theorem fieldsLeaves_said : Rows.FieldsLeavesUptoSaid :=
  OpenClaim.holds_of_cond 5 Tryd.f5 rfl rfl rfl rfl rfl rfl rfl ⟨rfl, rfl, rfl, rfl, rfl⟩ rfl rfl rfl rfl rfl (by kernel_rfl) Tryd.func5 (by kernel_rfl)
    (of_decide_eq_true (by kernel_rfl)) (by unfold Func.isWrapper; first | (rw [if_pos (by decide +kernel)]; kernel_rfl) | (rw [if_neg (by decide +kernel)]; exact ⟨rfl, rfl⟩))
    (fun os started H enc _ F => by rw [OpenClaim.pre_eq_preRow]; exact fieldsLeaves_lifted os started H enc F)

theorem fieldsLeaves_plain (f : FuncId) (fn : Func) (hf : Tryd.pinned.checked.prog.funcNamed "quipu/quipulaw17.FieldsLeaves" = some f) (hfn : Tryd.pinned.checked.prog.funcs[f]? = some fn) :
    true = Tryd.pinned.checked.prog.looks [] ∧ ∀ (j : Nat) t, fn.params[j]? = some t → Tryd.pinned.checked.prog.wantsStandIn t = false := by
  obtain rfl : f = 5 := Option.some.inj ((show Tryd.prog.funcNamed "quipu/quipulaw17.FieldsLeaves" = some 5 by kernel_rfl).symm.trans hf) |>.symm
  obtain rfl : fn = Tryd.f5 := (Option.some.inj (Tryd.func5.symm.trans hfn)).symm
  refine ⟨by kernel_rfl, fun j t ht => ?_⟩
  rw [Tryd.params5] at ht
  have hm := Array.mem_of_getElem? ht
  have hm2 : t = 3 ∨ t = 25 := by first | (simpa [or_comm, or_left_comm] using hm; done) | (simp at hm; rcases hm with h | h | h <;> simp [h])
  rcases hm2 with rfl | rfl
  · exact (show Tryd.prog.wantsStandIn 3 = false by kernel_rfl)
  · exact (show Tryd.prog.wantsStandIn 25 = false by kernel_rfl)

theorem fieldsLeaves_proved : Rows.FieldsLeavesUptoCardSaid :=
  Claim7.holds_tied_plain_at .later [] _ _ _ _ fieldsLeaves_said (fun _ h => by cases h) (by kernel_rfl) (fun _ h => by cases h) fieldsLeavesUpto_row_tie rfl ⟨rfl, rfl⟩ (by kernel_rfl) rfl fieldsLeaves_plain (by kernel_rfl)

end Go.Proofs.YtkgapklhgkngnaaDoor
