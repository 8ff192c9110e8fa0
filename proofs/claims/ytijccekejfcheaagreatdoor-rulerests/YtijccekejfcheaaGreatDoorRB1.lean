/-
  From what a row of the given statements hands over (readings of the arguments, the bound on their bulk) to the words of the walks.
  An argument that is an api.Dec, as a row of the given statements hands it over.
  Arguments that are an api.Precision or an api.Shown, as a row of the given statements hands them over.
  An argument that is an api.Shown, with what it reads as; and how long its texts may be.
  An argument that is an api.Operands, with what it reads as; and how long its texts may be.
  An argument that is a quipulaw09.Rest: a number and operands; how long their texts may be.
  A range over a function whose body, or whose function, may panic: the law of the statement, at any program.
  Plain mathematics of adding and taking away with a carry, digit by digit.
-/
import Derived.Test.YtijccekejfcheaaGreatDoorRows
import Derived.Test.YtijccekejfcheaaGreatDoorROwn
import Derived.ProofKit
import Derived.OpenShut
import Derived.JoinedCond
import Derived.ChangeSame
import Derived.Lib.SmallJoins
import Derived.ChangeArms
import Derived.SizedLaws
import Derived.RangeFuncNested
import Derived.RangeFuncBound
import Derived.RangeFuncLeaves
namespace Go.Proofs.YtijccekejfcheaaGreatDoor
open Go.ChangeShapes Go.WideShapes Go.ChangeAt Go.RowKit

theorem Tryz.own : ownKnob Tryz.prog.godebug = none := by kernel_rfl
theorem Tryz.laidOut : laidOutB Tryz.prog = true := by kernel_rfl
end Go.Proofs.YtijccekejfcheaaGreatDoor

namespace Go.Proofs.YtijccekejfcheaaGreatDoor
open Go.ChangeShapes Go.WideShapes Go.ChangeAt Go.RowKit

end Go.Proofs.YtijccekejfcheaaGreatDoor

namespace Go.Proofs.YtijccekejfcheaaGreatDoor
open Go.ChangeShapes Go.WideShapes Go.ChangeAt Go.RowKit

theorem Tryz.cellsIn : Tryz.prog.cellsOf 3 = 1 := by kernel_rfl
theorem Tryz.cellsSt : Tryz.prog.cellsOf 9 = 1 := by kernel_rfl

end Go.Proofs.YtijccekejfcheaaGreatDoor

namespace Go.Proofs.YtijccekejfcheaaGreatDoor
open Go.ChangeShapes Go.WideShapes Go.ChangeAt Go.RowKit

theorem list6 {α : Type} {l : List α} (h : l.length = 6) : ∃ a b c d e f, l = [a, b, c, d, e, f] := by
  match l, h with
  | [a, b, c, d, e, f], _ => exact ⟨a, b, c, d, e, f, rfl⟩

end Go.Proofs.YtijccekejfcheaaGreatDoor

namespace Go.Proofs.YtijccekejfcheaaGreatDoor
open Go.ChangeShapes Go.WideShapes Go.ChangeAt Go.RowKit

theorem Tryz.cellsOp : Tryz.prog.cellsOf 37 = 6 := by kernel_rfl

end Go.Proofs.YtijccekejfcheaaGreatDoor

namespace Go.Proofs.YtijccekejfcheaaGreatDoor
open Go.ChangeShapes Go.WideShapes Go.ChangeAt Go.RowKit

theorem Tryz.cellsRt : Tryz.prog.cellsOf 45 = 7 := by kernel_rfl

theorem array7r {α : Type} {cs : Array α} (h : cs.size = 7) : ∃ c0 c1 c2 c3 c4 c5 c6, cs = #[c0, c1, c2, c3, c4, c5, c6] := by
  rcases cs with ⟨l⟩
  match l, h with
  | [c0, c1, c2, c3, c4, c5, c6], _ => exact ⟨c0, c1, c2, c3, c4, c5, c6, rfl⟩

theorem pair2r {α : Type} {l : List α} (h : l.length = 2) : ∃ a b, l = [a, b] := by
  match l, h with
  | [a, b], _ => exact ⟨a, b, rfl⟩

set_option maxRecDepth 100000 in
theorem viewR {H : Type} {enc : TypeId × Value → H} {W : World} {base : Nat} {v : Value} {d : DataW H} {p : List MemPlace} (hval : Value.okWide Tryz.prog W .any base 45 v) (h : DataW.Trod enc Tryz.prog W 0 (fun _ => true) true 45 v d p) :
    ∃ (c : Int) (i : ByteArray) (n z : Int) (f t : ByteArray) (e : Int), v = .agg #[.int .i64 c, .string i, .int .i64 n, .int .i64 z, .string f, .string t, .int .i64 e] ∧ d = .agg [.lit (.int .i64 c), .agg [.lit (.string i.data.toList), .lit (.int .i64 n), .lit (.int .i64 z), .lit (.string f.data.toList), .lit (.string t.data.toList), .lit (.int .i64 e)]] := by
  obtain ⟨cs, rfl, hsz⟩ := okWide_struct Tryz.underlying45 hval
  obtain ⟨c0, c1, c2, c3, c4, c5, c6, rfl⟩ := array7r (hsz.trans Tryz.cellsRt)
  clear hsz hval
  obtain ⟨fuel, hf⟩ := h
  obtain ⟨xs, n, _, hx, _, hl, hg⟩ := DataW.trod_struct Tryz.underlying45 hf
  obtain ⟨y0, y1, rfl⟩ := pair2r (l := xs) (by simpa using hl)
  have hd : d = .agg [y0.1, y1.1] := by simpa using congrArg Prod.fst hx
  have k0 : DataW.trod enc Tryz.prog W 0 (fun _ => true) true n 3 [c0] = some y0 := by simpa [Value.cells, Tryz.cellsIn] using hg 0 _ rfl
  obtain ⟨a0, e0, z0⟩ := DataW.trod_int Tryz.underlying3 k0
  have k1 : DataW.trod enc Tryz.prog W 0 (fun _ => true) true n 37 [c1, c2, c3, c4, c5, c6] = some y1 := by simpa [Value.cells, Tryz.cellsOp] using hg 1 _ rfl
  obtain ⟨xs, m, _, hx1, _, hl1, hg1⟩ := DataW.trod_struct Tryz.underlying37 k1
  obtain ⟨u0, u1, u2, u3, u4, u5, rfl⟩ := list6 (l := xs) (by simpa using hl1)
  have hd1 : y1.1 = .agg [u0.1, u1.1, u2.1, u3.1, u4.1, u5.1] := by simpa using congrArg Prod.fst hx1
  have r0 : DataW.trod enc Tryz.prog W 0 (fun _ => true) true m 9 [c1] = some u0 := by simpa [Value.cells, Tryz.cellsSt] using hg1 0 _ rfl
  obtain ⟨b0, q0, s0⟩ := DataW.trod_string Tryz.underlying9 r0
  have r1 : DataW.trod enc Tryz.prog W 0 (fun _ => true) true m 3 [c2] = some u1 := by simpa [Value.cells, Tryz.cellsIn] using hg1 1 _ rfl
  obtain ⟨b1, q1, s1⟩ := DataW.trod_int Tryz.underlying3 r1
  have r2 : DataW.trod enc Tryz.prog W 0 (fun _ => true) true m 3 [c3] = some u2 := by simpa [Value.cells, Tryz.cellsIn] using hg1 2 _ rfl
  obtain ⟨b2, q2, s2⟩ := DataW.trod_int Tryz.underlying3 r2
  have r3 : DataW.trod enc Tryz.prog W 0 (fun _ => true) true m 9 [c4] = some u3 := by simpa [Value.cells, Tryz.cellsSt] using hg1 3 _ rfl
  obtain ⟨b3, q3, s3⟩ := DataW.trod_string Tryz.underlying9 r3
  have r4 : DataW.trod enc Tryz.prog W 0 (fun _ => true) true m 9 [c5] = some u4 := by simpa [Value.cells, Tryz.cellsSt] using hg1 4 _ rfl
  obtain ⟨b4, q4, s4⟩ := DataW.trod_string Tryz.underlying9 r4
  have r5 : DataW.trod enc Tryz.prog W 0 (fun _ => true) true m 3 [c6] = some u5 := by simpa [Value.cells, Tryz.cellsIn] using hg1 5 _ rfl
  obtain ⟨b5, q5, s5⟩ := DataW.trod_int Tryz.underlying3 r5
  simp at e0 q0 q1 q2 q3 q4 q5
  subst e0 q0 q1 q2 q3 q4 q5
  refine ⟨a0, b0, b1, b2, b3, b4, b5, rfl, ?_⟩
  rw [hd, hd1, z0.1, s0.1, s1.1, s2.1, s3.1, s4.1, s5.1]

theorem sized_rest {H : Type} {ts : List TypeId} {ds : List (DataW H)} (h : (DataW.weightsEach Tryz.prog ts ds).all (· ≤ reachBytes) = true) {j : Nat} {n v z e : Int} {li lf lt : List UInt8} (ht : ts[j]? = some 45) (hd : ds[j]? = some (.agg [.lit (.int .i64 n), .agg [.lit (.string li), .lit (.int .i64 v), .lit (.int .i64 z), .lit (.string lf), .lit (.string lt), .lit (.int .i64 e)]])) : li.length ≤ reachBytes ∧ lf.length ≤ reachBytes ∧ lt.length ≤ reachBytes := by
  have h1 := List.all_eq_true.1 h li.length (DataW.weights_mem_each ht hd _ (by simp [DataW.weights, DataW.weightsEach, Tryz.underlying45, Tryz.underlying37]))
  have h2 := List.all_eq_true.1 h lf.length (DataW.weights_mem_each ht hd _ (by simp [DataW.weights, DataW.weightsEach, Tryz.underlying45, Tryz.underlying37]))
  have h3 := List.all_eq_true.1 h lt.length (DataW.weights_mem_each ht hd _ (by simp [DataW.weights, DataW.weightsEach, Tryz.underlying45, Tryz.underlying37]))
  exact ⟨by simpa using h1, by simpa using h2, by simpa using h3⟩

end Go.Proofs.YtijccekejfcheaaGreatDoor

namespace Go.Proofs.YtijccekejfcheaaGreatDoor
open Go.RowKit

section
variable {P : Program} {n : Nat}

def roundPan (P : Program) (l : Nat) (R : Ending → World → Prop) : Exit → Act → World → Prop
  | .normal, _, w => ∃ v w', (Instr.endRound l none).run P w = .ok v w' ∧ R (.returned v) w'
  | .panic chain, a, w => a.defers = [] ∧ R (.panicked chain) w
  | _, _, _ => False

theorem roundIn_pan {F : Fence} {l : Nat} {f : FuncId} {tmps : Array Value} {assign body : Code} {w : World} {R : Ending → World → Prop} (hF : F.fn f) (hfn : ∃ fn, P.funcs[f]? = some fn)
    (h : assign.wpIn (F.inRound l) n P (Exit.then (fun a₁ w₁ => ∃ w₂, (Instr.beginRound l).run P w₁ = .ok () w₂ ∧ body.wpIn (F.inRound l) n P (roundPan P l R) a₁ w₂) (fun _ _ _ => False))
      { tmps := tmps, defers := [] } w) :
    RoundIn F n P l f tmps assign body w R := by
  refine ⟨hF, fun c cs hr => ?_⟩
  let b : Frame := { (default : Frame) with fn := f, kind := .normal, roundOf := some l }
  have hb0 : Frame.round l f tmps assign body .normal = b.atR { tmps := tmps, defers := [] } [.code assign, .beginRound, .code body] := by
    simp [Frame.round, Frame.atR, b]
  have hr' : (F.inRound l).room ((c :: cs).length + 1 + n) := hr
  have hF' : (F.inRound l).fn b.fn := hF
  obtain ⟨e, a₁, w₁, hq, harr⟩ := h b [.beginRound, .code body] (c :: cs) rfl hF' hr'
  rw [← hb0] at harr
  cases e with
  | normal =>
    obtain ⟨w₂, hbr, hbody⟩ := hq
    have s1 : StepsIn (Machine.fenced P (F.inRound l)) P (lone (b.atR a₁ [.beginRound, .code body]) (c :: cs) w₁) (lone (b.atR a₁ [.code body]) (c :: cs) w₂) :=
      .one (fenced_calm (fr := b.atR a₁ [.beginRound, .code body]) hF' hr' rfl) (stepR_beginRound rfl hbr)
    obtain ⟨e₂, a₂, w₃, hq₂, harr₂⟩ := hbody b [] (c :: cs) rfl hF' hr'
    cases e₂ with
    | normal =>
      obtain ⟨v, w₄, hend, hR⟩ := hq₂
      exact ⟨.returned v, w₄, hR, (StepsIn.trans harr s1).trans (StepsIn.trans harr₂ (.one (fenced_calm (fr := b.atR a₂ []) hF' hr' rfl) (stepR_round_end rfl rfl hend)))⟩
    | panic chain =>
      obtain ⟨hd, hR⟩ := hq₂
      obtain ⟨todo, hs⟩ := harr₂
      have hl : Frame.leaving P { b.atR a₂ todo with mode := .panicking chain } w₃ (.panicked chain) := ⟨rfl, hd, hfn⟩
      have hfe := fenced_leaving (F := F.inRound l) (fr := { b.atR a₂ todo with mode := .panicking chain }) hF' hr' hl
      exact ⟨.panicked chain, w₃, hR, (StepsIn.trans harr s1).trans (StepsIn.trans hs (.one hfe (step_leave_panicked hl)))⟩
    | ret => exact hq₂.elim
    | exit id => exact hq₂.elim
    | goto t => exact hq₂.elim
    | outgrown => exact hq₂.elim
  | exit id => exact hq.elim
  | goto t => exact hq.elim
  | ret => exact hq.elim
  | panic chain => exact hq.elim
  | outgrown => exact hq.elim

structure Xt (B : Nat) (W W' : World) : Prop where
  below : Below B W W'
  cells : ∀ (k : Nat) (o : Obj), W.heap[k]? = some o → o.isCells = true → W'.heap[k]? = some o

theorem Xt.of_below {B : Nat} {W W' : World} (h : Below W.heap.size W W') (hB : B ≤ W.heap.size) : Xt B W W' :=
  ⟨h.mono hB, fun k _ hk _ => (h.block k (Array.getElem?_eq_some_iff.1 hk).1).trans hk⟩

theorem Xt.putObj {B : Nat} {W : World} {l : Nat} {o : Obj} (o' : Obj) (hB : B ≤ l) (hl : W.heap[l]? = some o) (ho : o.isCells = false) : Xt B W (W.putObj l o') := by
  refine ⟨(Below.refl B W).grown (grownBy_putObj' W l o') (by have := (Array.getElem?_eq_some_iff.1 hl).1; omega) (fun k e => by cases e; omega), fun k u hk hu => ?_⟩
  by_cases e : k = l
  · subst e; rw [hl] at hk; cases hk; rw [ho] at hu; cases hu
  · exact (World.putObj_heap_other e).trans hk

def SeqPan {α : Type} (P : Program) (n g : Nat) (lb : Array Value) (encs : α → Array Value) (Kp : World → World → Prop) (xs : List α) (stop : Bool) (pc : List PanicEntry) (w : World) : Prop :=
  ∀ (l : Nat) (J : Nat → World → Prop) (Jp : World → Prop) (W : World), Below w.heap.size w W → (∀ k X Y, J k X → Below X.heap.size X Y → J k Y) →
    (∀ k x X, xs[k]? = some x → J k X → YieldAt Fence.wide (n - 1) P l (encs x) X fun e Y => (e = .returned (.bool true) ∧ J (k + 1) Y ∧ Kp X Y) ∨ (e = .panicked pc ∧ Jp Y)) →
    J 0 W →
    CallsIn Fence.wide n P g (#[.func (.yield l) #[] #[]] ++ lb) W fun e Y => (stop = false ∧ (∃ v, e = .returned v) ∧ J xs.length Y) ∨ (e = .panicked pc ∧ (Jp Y ∨ stop = true ∧ J xs.length Y))

def panPost (B : Nat) (Kp : World → World → Prop) (pc : List PanicEntry) (I : World → Prop) (Ip : World → Prop) (W : World) : Exit → Act → World → Prop
  | .normal, _, W' => KeepsFrom B W W' ∧ Kp W W' ∧ I W'
  | .panic c, a, W' => c = pc ∧ a.defers = [] ∧ KeepsFrom B W W' ∧ Ip W'
  | _, _, _ => False

def WpAt (P : Program) (f : FuncId) (c : Code) (Q : Exit → Act → World → Prop) (a : Act) (w : World) : Prop :=
  ∀ (b : Frame) (k : List Item) (cs : List Frame), b.roundOf = none → b.fn = f →
    ∃ e a' w', Q e a' w' ∧ ArrivesIn (Machine.fenced P Fence.wide) P (lone (b.atR a (.code c :: k)) cs w) b k cs e a' w'

theorem WpAt.of_wp {f : FuncId} {c : Code} {Q : Exit → Act → World → Prop} {a : Act} {w : World} (h : c.wp P Q a w) : WpAt P f c Q a w :=
  fun b k cs hr _ => (wpIn_wide (n := 0)).2 h b k cs hr trivial (room_wide _)

theorem WpAt.seq {f : FuncId} {x y : Code} {Q : Exit → Act → World → Prop} {a : Act} {w : World} (h : WpAt P f x (Exit.then (WpAt P f y Q) Q) a w) : WpAt P f (Code.seq x y) Q a w := by
  intro b k cs hro hb
  have h0 : (lone (b.atR a (.code (.seq x y) :: k)) cs w).fenced P Fence.wide := fenced_wide _ _
  obtain ⟨e, a₁, w₁, hq, harr⟩ := h b (.code y :: k) cs hro hb
  cases e with
  | normal =>
    obtain ⟨e₂, a₂, w₂, hq₂, harr₂⟩ := hq b k cs hro hb
    exact ⟨e₂, a₂, w₂, hq₂, .of_steps (.head h0 stepR_seq harr) harr₂⟩
  | exit id => exact ⟨_, a₁, w₁, hq, .of_steps (.one h0 stepR_seq) (.pass (x := .code y) rfl (fun _ _ => .inl (by simp)) harr)⟩
  | goto l => exact ⟨_, a₁, w₁, hq, .of_steps (.one h0 stepR_seq) (.pass (x := .code y) rfl (fun _ _ => .inl (by simp)) harr)⟩
  | ret => exact ⟨_, a₁, w₁, hq, .of_steps (.one h0 stepR_seq) (.pass (x := .code y) rfl (fun _ _ => .inl (by simp)) harr)⟩
  | panic ch => exact ⟨_, a₁, w₁, hq, .of_steps (.one h0 stepR_seq) (.pass (x := .code y) rfl (fun _ _ => .inl (by simp)) harr)⟩
  | outgrown => exact ⟨_, a₁, w₁, hq, .of_steps (.one h0 stepR_seq) (.pass (x := .code y) rfl (fun _ _ => .inl (by simp)) harr)⟩

theorem WpAt.block {f : FuncId} {id : Nat} {c : Code} {Q : Exit → Act → World → Prop} {a : Act} {w : World} (h : WpAt P f c Q a w)
    (hy : ∀ i a w, ¬ Q (.exit i) a w) (hz : ∀ i a w, ¬ Q (.goto i) a w) : WpAt P f (Code.block id c) Q a w := by
  intro b k cs hro hb
  have h0 : (lone (b.atR a (.code (.block id c) :: k)) cs w).fenced P Fence.wide := fenced_wide _ _
  obtain ⟨e, a₁, w₁, hq, harr⟩ := h b (.inBlock id :: k) cs hro hb
  cases e with
  | normal => exact ⟨.normal, a₁, w₁, hq, .head h0 stepR_block (StepsIn.trans harr (.one (fenced_wide _ _) stepR_inBlock))⟩
  | exit id' => exact (hy _ _ _ hq).elim
  | goto l => exact (hz _ _ _ hq).elim
  | ret => exact ⟨_, a₁, w₁, hq, .of_steps (.one h0 stepR_block) harr⟩
  | panic ch => exact ⟨_, a₁, w₁, hq, .of_steps (.one h0 stepR_block) harr⟩
  | outgrown => exact ⟨_, a₁, w₁, hq, .of_steps (.one h0 stepR_block) harr⟩

def endPan (P : Program) (fn : Func) (R : Ending → World → Prop) : Exit → Act → World → Prop
  | .normal, a, w | .ret, a, w => LeavesInM Fence.wide 0 P fn a.tmps R a.defers .returning w
  | .panic chain, a, w => LeavesInM Fence.wide 0 P fn a.tmps R a.defers (.panicking chain) w
  | _, _, _ => False

theorem calls_pan {f : FuncId} {fn : Func} {c : Code} {args : Array Value} {w : World} {R : Ending → World → Prop} (hf : P.funcs[f]? = some fn) (hb : fn.body = some c)
    (h : WpAt P f c (endPan P fn R) { tmps := args ++ Array.replicate (fn.ntmps - args.size) undef, defers := [] } w) : Calls P f args w R := by
  refine (callsIn_wide (n := 0)).1 ⟨trivial, fun cs _ => ?_⟩
  let b : Frame := { (default : Frame) with fn := f, kind := .normal, roundOf := none }
  have henter : Frame.enter P f args .normal =
      b.atR { tmps := args ++ Array.replicate (fn.ntmps - args.size) undef, defers := [] } [.code c] := by
    simp [Frame.enter, Frame.atR, hf, hb, b]
  have hr : Fence.wide.room (cs.length + 1 + 0) := room_wide _
  obtain ⟨e, a', w', hq, harr⟩ := h b [] cs rfl rfl
  rw [← henter] at harr
  cases e with
  | normal =>
    obtain ⟨e', w'', fr', hR, hs, hfn, hl⟩ := leaves_stepsInM (F := Fence.wide) a'.defers .returning w' { b.atR a' [] with mode := .returning } cs rfl rfl rfl hf rfl trivial hr hq
    exact ⟨e', w'', fr', hR, ComesIn.of_steps (StepsIn.trans harr (.one (fenced_wide _ _) (stepR_end rfl))) hs, hfn, hl⟩
  | ret =>
    obtain ⟨todo, hs₀⟩ := harr.1 rfl
    obtain ⟨e', w'', fr', hR, hs, hfn, hl⟩ := leaves_stepsInM (F := Fence.wide) a'.defers .returning w' { b.atR a' todo with mode := .returning } cs rfl rfl rfl hf rfl trivial hr hq
    exact ⟨e', w'', fr', hR, ComesIn.of_steps hs₀ hs, hfn, hl⟩
  | panic chain =>
    obtain ⟨todo, hs₀⟩ := harr
    obtain ⟨e', w'', fr', hR, hs, hfn, hl⟩ := leaves_stepsInM (F := Fence.wide) a'.defers (.panicking chain) w' { b.atR a' todo with mode := .panicking chain } cs rfl rfl rfl hf rfl trivial hr hq
    exact ⟨e', w'', fr', hR, ComesIn.of_steps hs₀ hs, hfn, hl⟩
  | exit id => exact hq.elim
  | goto l => exact hq.elim
  | outgrown => exact hq.elim

theorem WpAt.range {α : Type} {f : FuncId} {fn : Func} (hfn : P.funcs[f]? = some fn) {g : Operand} {ps : Array Tmp} {assign body : Code} {Q : Exit → Act → World → Prop} {a : Act} {w : World}
    {gf : Nat} {lb : Array Value} (hg : a.eval g = .func (.func gf) #[] lb) (eg : ∀ args w, (callFunc gf args).run P w = .ok (.enter gf args) w)
    {encs : α → Array Value} {Kp : World → World → Prop} {xs : List α} {stop : Bool} {pc : List PanicEntry} (hseq : SeqPan P 2 gf lb encs Kp xs stop pc w) (hKt : ∀ {X Y Z : World}, Kp X Y → Kp Y Z → Kp X Z) (hKx : ∀ {X Y : World}, Xt w.heap.size X Y → Kp X Y) (hps : ∀ x, (encs x).size = ps.size)
    (I : Nat → World → Prop) (Ip : World → Prop) (hI : ∀ k X Y, I k X → Xt w.heap.size X Y → I k Y) (h0 : I 0 w) (a₁ : α → Act)
    (hassign : ∀ (l : Nat) (x : α) (W : World) (K : Act → World → Prop), K (a₁ x) W →
      assign.wpIn (Fence.wide.inRound l) 1 P (Exit.then K (fun _ _ _ => False)) { tmps := (ps.zip (encs x)).foldl (fun t (p, v) => t.setIfInBounds p v) a.tmps, defers := [] } W)
    (hbody : ∀ (l k : Nat) (x : α) (W : World), xs[k]? = some x → I k W → w.heap.size < W.heap.size → body.wpIn (Fence.wide.inRound l) 1 P (panPost w.heap.size Kp pc (I (k + 1)) Ip W) (a₁ x) W)
    (hdone : ∀ (D : Nat) (W : World), stop = false → w.heap.size ≤ D → I xs.length W → W.heap[D]? = some (.deferred (some [])) → Q .normal { a with defers := { target := .collected D, args := #[] } :: a.defers } W)
    (hpan : ∀ (D : Nat) (W : World), w.heap.size ≤ D → (Ip W ∨ stop = true ∧ I xs.length W) → W.heap[D]? = some (.deferred (some [])) → Q (.panic pc) { a with defers := { target := .collected D, args := #[] } :: a.defers } W) :
    WpAt P f (Code.rangeFunc g ps assign body) Q a w := by
  intro b k cs hro hb
  obtain ⟨rec, hrec⟩ : ∃ rec : LoopState → Option Code → Loop, rec = fun st pe => { state := st, pending := pe, fn := f, tmps := a.tmps, params := ps, assign, body, defers := w.heap.size } := ⟨_, rfl⟩
  obtain ⟨W1, hW1⟩ : ∃ W1, (w.alloc (.deferred (some []))).alloc (.loop (rec .ready none)) = W1 := ⟨_, rfl⟩
  have hL1 : W1.heap[w.heap.size + 1]? = some (.loop (rec .ready none)) := by
    rw [← hW1]; have := World.alloc_heap_new (w.alloc (.deferred (some []))) (.loop (rec .ready none)); rwa [World.size_alloc] at this
  have hK1 : W1.heap[w.heap.size]? = some (.deferred (some [])) := by
    rw [← hW1]; exact (Below.heap_alloc _ _ _ (by simp)).trans (World.alloc_heap_new w _)
  have hbw : Below w.heap.size w W1 := by rw [← hW1]; exact ((Below.refl _ w).alloc (Nat.le_refl _) _).alloc (by simp) _
  have hI1 : I 0 W1 := hI _ _ _ h0 (Xt.of_below hbw (Nat.le_refl _))
  have he : (Instr.enterLoop b.fn a.tmps ps assign body b.roundOf).run P w = .ok (w.heap.size + 1, [{ target := .collected w.heap.size, args := #[] }]) W1 := by
    rw [hro, hb, ← hW1, hrec]; exact run_enterLoop_outer _ _ _ _ _
  have hres : (resolve a.eval (rangeCall g (w.heap.size + 1)) 0).run P W1 = .ok { target := .fn (.func gf) lb, args := #[.func (.yield (w.heap.size + 1)) #[] #[]] } W1 := by
    simp only [resolve, hg]
    simp [go_sem]
  have hinv : (invoke (.fn (.func gf) lb) #[.func (.yield (w.heap.size + 1)) #[] #[]]).run P W1 = .ok (.enter gf (#[.func (.yield (w.heap.size + 1)) #[] #[]] ++ lb)) W1 := by
    simp [invoke, go_sem, eg]
  have henter := stepR_rangeFunc (P := P) (b := b) (a := a) (k := k) (cs := cs) (w := w) he hres hinv
  have hcall : CallsIn Fence.wide 2 P gf (#[.func (.yield (w.heap.size + 1)) #[] #[]] ++ lb) W1 fun e Y =>
      (stop = false ∧ (∃ v, e = .returned v) ∧ (I xs.length Y ∧ Y.heap[w.heap.size + 1]? = some (.loop (rec .ready none)) ∧ Y.heap[w.heap.size]? = some (.deferred (some [])))) ∨
      (e = .panicked pc ∧ ((Ip Y ∧ Y.heap[w.heap.size]? = some (.deferred (some []))) ∨ stop = true ∧ (I xs.length Y ∧ Y.heap[w.heap.size + 1]? = some (.loop (rec .ready none)) ∧ Y.heap[w.heap.size]? = some (.deferred (some []))))) := by
    refine hseq (w.heap.size + 1) (fun j W => I j W ∧ W.heap[w.heap.size + 1]? = some (.loop (rec .ready none)) ∧ W.heap[w.heap.size]? = some (.deferred (some []))) (fun W => Ip W ∧ W.heap[w.heap.size]? = some (.deferred (some []))) W1 hbw ?_ ?_ ⟨hI1, hL1, hK1⟩
    · rintro j X Y ⟨hi, hl, hk⟩ hb
      have hlt : w.heap.size + 1 < X.heap.size := (Array.getElem?_eq_some_iff.1 hl).1
      exact ⟨hI _ _ _ hi (Xt.of_below hb (by omega)), (hb.block _ hlt).trans hl, (hb.block _ (by omega)).trans hk⟩
    · rintro j x W hx ⟨hi, hl, hk⟩
      have hlt : w.heap.size + 1 < W.heap.size := (Array.getElem?_eq_some_iff.1 hl).1
      have hy := run_yield (P := P) (args := encs x) hl (by rw [hrec]; exact hps x)
      rw [hrec] at hy
      refine ⟨f, _, assign, body, hy, roundIn_pan trivial ⟨fn, hfn⟩ (hassign _ x W _ ⟨_, run_beginRound hl (by rw [hrec]), ?_⟩)⟩
      have hl2 : (W.putObj (w.heap.size + 1) (.loop { rec .ready none with state := .busy })).heap[w.heap.size + 1]? = some (.loop { rec .ready none with state := .busy }) := World.putObj_heap_same hlt
      have hk2 : (W.putObj (w.heap.size + 1) (.loop { rec .ready none with state := .busy })).heap[w.heap.size]? = some (.deferred (some [])) := (World.putObj_heap_other (by omega)).trans hk
      have x2 : Xt w.heap.size W (W.putObj (w.heap.size + 1) (.loop { rec .ready none with state := .busy })) := Xt.putObj _ (by omega) hl rfl
      refine wpIn_mono (hbody _ j x _ hx (hI _ _ _ hi x2) (by have := (Array.getElem?_eq_some_iff.1 hk2).1; omega)) ?_
      rintro e a3 W3 hp
      cases e with
      | normal =>
        obtain ⟨hk3, hb3, hi3⟩ := hp
        have hl3 := hk3.same _ _ (by omega) hl2 rfl
        have he3 := run_endRound (P := P) none hl3
        rw [hrec] at he3
        have x3 : Xt w.heap.size W3 (W3.putObj (w.heap.size + 1) (.loop (rec .ready none))) := Xt.putObj _ (by omega) hl3 rfl
        rw [hrec] at x3
        refine ⟨_, _, he3, .inl ⟨rfl, ⟨hI _ _ _ hi3 x3, ?_, ?_⟩, ?_⟩⟩
        · rw [hrec]; exact World.putObj_heap_same (Array.getElem?_eq_some_iff.1 hl3).1
        · exact (World.putObj_heap_other (by omega)).trans (hk3.same _ _ (Nat.le_refl _) hk2 rfl)
        · exact hKt (hKt (hKx x2) hb3) (hKx x3)
      | panic c =>
        obtain ⟨rfl, hd, hk3, hi3⟩ := hp
        exact ⟨hd, .inr ⟨rfl, hi3, hk3.same _ _ (Nat.le_refl _) hk2 rfl⟩⟩
      | ret => exact hp.elim
      | exit id => exact hp.elim
      | goto t => exact hp.elim
      | outgrown => exact hp.elim
  obtain ⟨e, w₃, fr, hR, hsteps, hfe, hleave⟩ := hcall.2 (b.atR { a with defers := [{ target := .collected w.heap.size, args := #[] }] ++ a.defers } (.inRangeFunc (w.heap.size + 1) :: k) :: cs) (room_wide _)
  rcases hR with ⟨hst, ⟨v, rfl⟩, hi, hl, hk⟩ | ⟨rfl, hR⟩
  · have hend := run_endLoop (P := P) hl (by rw [hrec]; simp)
    rw [hrec] at hend
    have sback : ∀ w₄, (Instr.endLoop (w.heap.size + 1)).run P w₃ = .ok none w₄ → StepsIn (Machine.fenced P Fence.wide) P (lone (b.atR a (.code (.rangeFunc g ps assign body) :: k)) cs w) (lone (b.atR { a with defers := [{ target := .collected w.heap.size, args := #[] }] ++ a.defers } k) cs w₄) := by
      intro w₄ h4
      refine .head (fenced_wide _ _) henter (StepsIn.trans hsteps (.head (fenced_wide _ _) ?_ (.one (fenced_wide _ _) (stepR_endRangeFunc h4))))
      rw [← finish_atR_inRangeFunc (w.heap.size + 1) v]; exact step_leave_returned hleave
    refine ⟨.normal, _, _, hdone w.heap.size _ hst (Nat.le_refl _) (hI _ _ _ hi (Xt.putObj _ (by omega) hl rfl)) ((World.putObj_heap_other (by omega)).trans hk), sback _ hend⟩
  · refine ⟨.panic pc, _, w₃, hpan w.heap.size w₃ (Nat.le_refl _) ?_ ?_, .inRangeFunc (w.heap.size + 1) :: k, .head (fenced_wide _ _) henter (StepsIn.trans hsteps (.one (fenced_wide _ _) ?_))⟩
    · rcases hR with h | h
      · exact .inl h.1
      · exact .inr ⟨h.1, h.2.1⟩
    · rcases hR with h | h
      · exact h.2
      · exact h.2.2.2
    · have := step_leave_panicked (P := P) (c := b.atR { a with defers := [{ target := .collected w.heap.size, args := #[] }] ++ a.defers } (.inRangeFunc (w.heap.size + 1) :: k)) (cs := cs) hleave
      rw [Frame.raise_atR] at this
      exact this
end

end Go.Proofs.YtijccekejfcheaaGreatDoor

namespace Go.Proofs.YtijccekejfcheaaGreatDoor

end Go.Proofs.YtijccekejfcheaaGreatDoor
