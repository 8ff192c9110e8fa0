/-
  quipulaw12.BundleApart answers true and leaves its arguments as they were, whatever they are, the library's tables being what their text lays: the given statement BundleApartCardSaid.
-/
import Derived.Test.YtobmdifledegbaaDoorCards
import Derived.Test.YtobmdifledegbaaDoorTie
import Derived.Test.YtobmdifledegbaaDoorAB2
import Derived.Test.YtobmdifledegbaaDoorAB8
import Derived.Deep.DeepHandedRow
import Derived.SizedLaws
namespace Go.Proofs.YtobmdifledegbaaDoor
open Go.ChangeShapes Go.WideShapes Go.ChangeAt Go.RowKit

set_option maxRecDepth 100000 in
theorem bundleApart_contract (H : Type) (enc : TypeId × Value → H) (W : World) (base : Nat) (args : Array Value) (ds gs : List (DataW H)) (before : List MemPlace)
    (hval : ∀ (j : Nat) t v, Tryd.f3.params[j]? = some t → args[j]? = some v → Value.okWide Tryd.prog W .any base t v)
    (hW : DataW.Whole enc Tryd.prog Tryd.f3.params.toList Rows.bundleApartSpec.vars false W args.toList ds gs before) (hL : laidMetH Tryd.prog Rows.bundleApartRow.laid W) (hz : (DataW.weightsEach Tryd.prog (Tryd.f3.params.toList ++ (OpenSpec.ofChange Rows.bundleApartSpec).bare.plain.varTypes Tryd.prog) (ds ++ gs)).all (· ≤ reachBytes) = true) :
    Calls Tryd.prog 3 args W fun e W' => ∃ v, e = .returned v ∧ Rows.bundleApartSpec.post enc Tryd.prog Tryd.f3 false true false false W args v W' := by
  have tab : U8 W := table hL
  have hW' := hW
  obtain ⟨p, q, hA0, hV, rfl, _, _⟩ := hW
  have hA : DataW.TrodAll enc Tryd.prog W 0 (fun _ => true) true Tryd.f3.params.toList args.toList ds p := hA0
  rw [Tryd.params3] at hA hval
  obtain ⟨v0, vs0, d0, ds0, p0, q0, hargs, rfl, rfl, h0, r0⟩ := trodAll_cons hA
  obtain ⟨v1, vs1, d1, ds1, p1, q1, rfl, rfl, rfl, h1, r1⟩ := trodAll_cons r0
  obtain ⟨v2, vs2, d2, ds2, p2, q2, rfl, rfl, rfl, h2, r2⟩ := trodAll_cons r1
  obtain ⟨rfl, rfl, rfl⟩ := trodAll_nil r2
  obtain rfl : args = #[v0, v1, v2] := by cases args; simp_all
  obtain ⟨rfl, rfl⟩ := trodVars_none hV
  have h0k := h0
  obtain ⟨ua, fa, rfl, faa, fba⟩ := viewBun (hval 0 24 v0 rfl rfl) h0
  have h1k := h1
  obtain ⟨⟨nb, mb, eb⟩, ub, rfl, fab, fbb⟩ := viewTab (hval 1 27 v1 rfl rfl) h1
  obtain ⟨sc, rfl, rfl, rfl, wsc⟩ := Go.ChangeMaps.open_string Tryd.underlying9 (hval 2 9 v2 rfl rfl) h2
  have hzc : sc.data.toList.length ≤ reachBytes := sized_string hz (j := 2) (t := 9) (by kernel_rfl) rfl
  obtain ⟨hza, hya⟩ := fba hz (j := 0) (by kernel_rfl) rfl
  have hzb := fbb hz (j := 1) (by kernel_rfl) rfl
  clear hA0
  simp only [List.append_nil] at hW'
  refine (bundleApart_row W tab ua fa faa hya hza ub nb mb eb fab hzb sc (by have h1 := bys_len sc; have h2 : (bys sc).length ≤ reachBytes := hzc; have h3 : reachBytes ≤ 140737488355328 := (by decide); omega)).mono fun e W' ⟨he, hnx⟩ => ?_
  subst he
  exact ⟨_, rfl, _, _, _, [], _, [], hW', trodAll_cons_mk (shut_bool Tryd.underlying4 _) trodAll_mk0, (trodAll_cons_mk (Below.trod Tryd.laidOut (by kernel_rfl) (of_decide_eq_true (by kernel_rfl)) h0k hnx (fun x hx => by have := hW'.lt x (by simp [hx]); simpa using this)) (trodAll_cons_mk (Below.trod Tryd.laidOut (by kernel_rfl) (of_decide_eq_true (by kernel_rfl)) h1k hnx (fun x hx => by have := hW'.lt x (by simp [hx]); simpa using this)) (trodAll_cons_mk (Go.ChangeMaps.shut_string Tryd.underlying9 wsc) trodAll_mk0))), rfl, hnx.frame _, fun h => by cases h⟩

theorem bundleApart_met (os : Os) : laidMet Tryd.prog Rows.bundleApartRow.laid ((laidWorld os).forCall (fun _ _ => 0) ⟨#[], #[.agg #[.slice none 0 0], .agg #[.string ⟨#[]⟩, .int .i64 0, .slice none 0 0], .string ⟨#[]⟩], []⟩).memory :=
  laidMet_of_run' 600 (by kernel_rfl) (by kernel_rfl)
theorem bundleApart_reads (os : Os) {H : Type} (enc : TypeId × Value → H) : ∃ places, DataW.whole enc Tryd.prog ((laidWorld os).forCall (fun _ _ => 0) ⟨#[], #[.agg #[.slice none 0 0], .agg #[.string ⟨#[]⟩, .int .i64 0, .slice none 0 0], .string ⟨#[]⟩], []⟩).memory Tryd.f3.params.toList Rows.bundleApartSpec.vars false #[.agg #[.slice none 0 0], .agg #[.string ⟨#[]⟩, .int .i64 0, .slice none 0 0], .string ⟨#[]⟩].toList 8 = some ([.agg [.nil], .agg [.lit (.string []), .lit (.int .i64 0), .nil], .lit (.string [])], [], places) :=
  ⟨[], by kernel_rfl⟩

set_option maxRecDepth 100000 in
theorem bundleApart_lifted (os : Os) (started : os.Started) (H : Type) (enc : TypeId × Value → H) (F : Stop.Interp) :
    ReturnsInHanded {} Tryd.checked os 3 .any ((OpenSpec.ofChange Rows.bundleApartSpec).preRow enc Tryd.prog Tryd.f3 Rows.bundleApartRow.domain false Rows.bundleApartRow.laid) (((OpenSpec.ofChange Rows.bundleApartSpec).at F).post enc Tryd.prog Tryd.f3 false true false false) := by
  obtain ⟨places, hx⟩ := bundleApart_reads os enc
  refine returnsInHanded_of_row (C := Tryd.checked) (s := OpenSpec.ofChange Rows.bundleApartSpec) Tryd.own started (by kernel_rfl) Tryd.func3
    (witness_row_at (enc := enc) (C := Tryd.checked) false (laidWorld os) #[.agg #[.slice none 0 0], .agg #[.string ⟨#[]⟩, .int .i64 0, .slice none 0 0], .string ⟨#[]⟩] rfl (by kernel_rfl) (by kernel_rfl) (by kernel_rfl)
      (OpenSpec.preRow_of_cond 8 hx (by kernel_rfl) (fun k hk => by cases hk) (by kernel_rfl) (bundleApart_met os))) ?_
  intro W base args ds gs before hval hW _ _ hz hL _ _
  exact bundleApart_contract H enc W base args ds gs before hval hW hL hz

theorem bundleApart_said : Rows.BundleApartSaid :=
  OpenClaim.holds_of_cond 3 Tryd.f3 rfl rfl rfl rfl rfl rfl rfl ⟨rfl, rfl, rfl, rfl, rfl⟩ rfl rfl rfl rfl rfl (by kernel_rfl) Tryd.func3 (by kernel_rfl)
    (of_decide_eq_true (by kernel_rfl)) (by unfold Func.isWrapper; first | (rw [if_pos (by decide +kernel)]; kernel_rfl) | (rw [if_neg (by decide +kernel)]; exact ⟨rfl, rfl⟩))
    (fun os started H enc _ F => by rw [OpenClaim.pre_eq_preRow]; exact bundleApart_lifted os started H enc F)

theorem bundleApart_plain (f : FuncId) (fn : Func) (hf : Tryd.pinned.checked.prog.funcNamed "quipu/quipulaw12.BundleApart" = some f) (hfn : Tryd.pinned.checked.prog.funcs[f]? = some fn) :
    true = Tryd.pinned.checked.prog.looks [] ∧ ∀ (j : Nat) t, fn.params[j]? = some t → Tryd.pinned.checked.prog.wantsStandIn t = false := by
  obtain rfl : f = 3 := Option.some.inj ((show Tryd.prog.funcNamed "quipu/quipulaw12.BundleApart" = some 3 by kernel_rfl).symm.trans hf) |>.symm
  obtain rfl : fn = Tryd.f3 := (Option.some.inj (Tryd.func3.symm.trans hfn)).symm
  refine ⟨by kernel_rfl, fun j t ht => ?_⟩
  rw [Tryd.params3] at ht
  have hm := Array.mem_of_getElem? ht
  have hm2 : t = 24 ∨ t = 27 ∨ t = 9 := by simpa [or_comm, or_left_comm] using hm
  rcases hm2 with rfl | rfl | rfl
  · exact (show Tryd.prog.wantsStandIn 24 = false by kernel_rfl)
  · exact (show Tryd.prog.wantsStandIn 27 = false by kernel_rfl)
  · exact (show Tryd.prog.wantsStandIn 9 = false by kernel_rfl)

theorem bundleApart_proved : Rows.BundleApartCardSaid :=
  Claim7.holds_tied_plain_at .later [] _ _ _ _ bundleApart_said (fun _ h => by cases h) (by kernel_rfl) (fun _ h => by cases h) bundleApart_row_tie rfl ⟨rfl, rfl⟩ (by kernel_rfl) rfl bundleApart_plain (by kernel_rfl)

end Go.Proofs.YtobmdifledegbaaDoor
