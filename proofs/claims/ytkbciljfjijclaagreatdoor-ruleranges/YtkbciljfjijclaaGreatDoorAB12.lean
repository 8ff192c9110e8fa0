/-
  The parts of a text told by places: signs, parts of two bytes, none.
  A range over a function whose body, or whose function, may panic: the law of the statement, at any program.
  Variables of three, six and fourteen cells, all cells at once; what is answered by a function that hands back digits that are shown.
  What width's small tests do.
  What operand's noughts, moved, count, number, areDigits, isCount and isNumber do.
-/
import Derived.Test.YtkbciljfjijclaaGreatDoorAB11
import Derived.RangeFuncNested
import Derived.RangeFuncBound
import Derived.RangeFuncLeaves
import Derived.Test.YtkbciljfjijclaaGreatDoorAB2
import Derived.Test.YtkbciljfjijclaaGreatDoorAB5
import Derived.Laws.EntriesVeiled
import Derived.Test.YtkbciljfjijclaaGreatDoorAB8
import Derived.Laws.RangeAny
import Derived.Deep.RegionHeld3
namespace Go.Proofs.YtkbciljfjijclaaGreatDoor
open Go.RowKit

def isSgN (b : Nat) : Prop := b = 58 ∨ b = 59 ∨ b = 37 ∨ b = 61 ∨ b = 44 ∨ b = 43

theorem head_at (l : List UInt8) (i : Nat) : (l.drop i).head? = l[i]? := by rw [List.head?_drop]

theorem part_sg (l : List UInt8) (i : Nat) (h : i < l.length) (hs : isSgN (byt l i)) : partN (l.drop i) = some 1 := by
  unfold isSgN at hs
  have e0 : isLt l[i] = false := by unfold isLt; rw [byt_at h]; simp; omega
  have e1 : isNm l[i] = false := by unfold isNm; rw [byt_at h]; simp; omega
  have e2 : isSg l[i] = true := by unfold isSg; rw [byt_at h]; simp; omega
  rw [drop_at h]
  simp only [partN, e0, e1, e2, Bool.false_eq_true, if_false, if_true]
  rw [if_neg (by rw [byt_at h]; omega)]

theorem part_two (l : List UInt8) (i : Nat) (h : i + 1 < l.length) (hs : (byt l i = 33 ∧ byt l (i + 1) = 61) ∨ (byt l i = 46 ∧ byt l (i + 1) = 46)) : partN (l.drop i) = some 2 := by
  have hi : i < l.length := by omega
  have e0 : isLt l[i] = false := by unfold isLt; rw [byt_at hi]; simp; omega
  have e1 : isNm l[i] = false := by unfold isNm; rw [byt_at hi]; simp; omega
  rw [drop_at hi]
  simp only [partN, e0, e1, Bool.false_eq_true, if_false]
  rw [head_at, List.getElem?_eq_getElem h, byt_at hi]
  have key : ∀ c : UInt8, some l[i + 1] = some c ↔ byt l (i + 1) = c.toNat := by
    intro c
    rw [← byt_at h, Option.some.injEq, UInt8.toNat_inj]
  rw [if_pos]
  rcases hs with ⟨a, b⟩ | ⟨a, b⟩
  · exact .inl ⟨a, (key 61).2 b⟩
  · exact .inr ⟨a, (key 46).2 b⟩

theorem part_no (l : List UInt8) (i : Nat) (h : i < l.length) (h1 : ¬ (97 ≤ byt l i ∧ byt l i ≤ 122)) (h2 : ¬ (48 ≤ byt l i ∧ byt l i ≤ 57)) (h3 : ¬ isSgN (byt l i)) (h4 : i + 1 < l.length → ¬ ((byt l i = 33 ∧ byt l (i + 1) = 61) ∨ (byt l i = 46 ∧ byt l (i + 1) = 46))) : partN (l.drop i) = none := by
  unfold isSgN at h3
  have e0 : isLt l[i] = false := by unfold isLt; rw [byt_at h]; simp; omega
  have e1 : isNm l[i] = false := by unfold isNm; rw [byt_at h]; simp; omega
  have e2 : isSg l[i] = false := by unfold isSg; rw [byt_at h]; simp; omega
  rw [drop_at h]
  simp only [partN, e0, e1, e2, Bool.false_eq_true, if_false]
  rw [if_neg]
  rw [head_at, byt_at h]
  intro hc
  by_cases hl : i + 1 < l.length
  · rw [List.getElem?_eq_getElem hl] at hc
    have key : ∀ c : UInt8, some l[i + 1] = some c → byt l (i + 1) = c.toNat := by
      intro c q
      rw [← byt_at hl, Option.some.inj q]
    rcases hc with ⟨a, b⟩ | ⟨a, b⟩
    · exact h4 hl (.inl ⟨a, key 61 b⟩)
    · exact h4 hl (.inr ⟨a, key 46 b⟩)
  · rw [List.getElem?_eq_none (by omega)] at hc
    simp at hc

theorem bys_cutR (t : ByteArray) (i j : Nat) : bys (t.extract i (i + j)) = ((bys t).drop i).take j := by
  unfold bys
  rw [ByteArray.data_extract, Array.toList_extract]
  simp only [List.extract, Nat.add_sub_cancel_left]

theorem two_is (s : ByteArray) (i : Nat) (h : i + 1 < s.size) (a b : UInt8) : ((s.extract i (i + 2)).toList == [a, b]) = decide (byt (bys s) i = a.toNat ∧ byt (bys s) (i + 1) = b.toNat) := by
  have hl := bys_len s
  have e : (s.extract i (i + 2)).toList = [(bys s)[i]'(by omega), (bys s)[i + 1]'(by omega)] := by
    rw [ByteArray.toList_eq]
    show bys (s.extract i (i + 2)) = _
    rw [bys_cutR, drop_at (by omega), List.take_succ_cons, drop_at (by omega), List.take_succ_cons, List.take_zero]
  rw [e]
  apply Bool.eq_iff_iff.2
  rw [beq_iff_eq, decide_eq_true_eq, ← byt_at (by omega), ← byt_at (by omega), UInt8.toNat_inj, UInt8.toNat_inj]
  simp

theorem toks_next (l : List UInt8) (ts : List Tok) (i k : Nat) (h : i < l.length) (hb : byt l i ≠ 32) (hp : partN (l.drop i) = some k) (ht : toks l = (ts ++ (toksA l i).1, (toksA l i).2)) : toks l = ((ts ++ [(l.drop i).take k]) ++ (toksA l (i + k)).1, (toksA l (i + k)).2) := by
  rw [ht, toksA_some l i k h hb hp]
  simp
theorem toksA_skip (l : List UInt8) (ts : List Tok) (i : Nat) (h : i < l.length) (hb : byt l i = 32) (ht : toks l = (ts ++ (toksA l i).1, (toksA l i).2)) : toks l = (ts ++ (toksA l (i + 1)).1, (toksA l (i + 1)).2) := by
  rw [ht, toksA_blank l i h hb]

end Go.Proofs.YtkbciljfjijclaaGreatDoor

namespace Go.Proofs.YtkbciljfjijclaaGreatDoor
open Go.RowKit

section
variable {P : Program} {n : Nat}

def roundPan (P : Program) (l : Nat) (R : Ending → World → Prop) : Exit → Act → World → Prop
  | .normal, _, w => ∃ v w', (Instr.endRound l none).run P w = .ok v w' ∧ R (.returned v) w'
  | .panic chain, a, w => a.defers = [] ∧ R (.panicked chain) w
  | _, _, _ => False

theorem roundIn_pan {F : Fence} {l : Nat} {f : FuncId} {tmps : Array Value} {assign body : Code} {w : World} {R : Ending → World → Prop} (hF : F.fn f) (hfn : ∃ fn, P.funcs[f]? = some fn)
    (h : assign.wpIn (F.inRound l) n P (Exit.then (fun a₁ w₁ => ∃ w₂, (Instr.beginRound l).run P w₁ = .ok () w₂ ∧ body.wpIn (F.inRound l) n P (roundPan P l R) a₁ w₂) (fun _ _ _ => False))
      { tmps := tmps, defers := [] } w) :
    RoundIn F n P l f tmps assign body w R := by
  refine ⟨hF, fun c cs hr => ?_⟩
  let b : Frame := { (default : Frame) with fn := f, kind := .normal, roundOf := some l }
  have hb0 : Frame.round l f tmps assign body .normal = b.atR { tmps := tmps, defers := [] } [.code assign, .beginRound, .code body] := by
    simp [Frame.round, Frame.atR, b]
  have hr' : (F.inRound l).room ((c :: cs).length + 1 + n) := hr
  have hF' : (F.inRound l).fn b.fn := hF
  obtain ⟨e, a₁, w₁, hq, harr⟩ := h b [.beginRound, .code body] (c :: cs) rfl hF' hr'
  rw [← hb0] at harr
  cases e with
  | normal =>
    obtain ⟨w₂, hbr, hbody⟩ := hq
    have s1 : StepsIn (Machine.fenced P (F.inRound l)) P (lone (b.atR a₁ [.beginRound, .code body]) (c :: cs) w₁) (lone (b.atR a₁ [.code body]) (c :: cs) w₂) :=
      .one (fenced_calm (fr := b.atR a₁ [.beginRound, .code body]) hF' hr' rfl) (stepR_beginRound rfl hbr)
    obtain ⟨e₂, a₂, w₃, hq₂, harr₂⟩ := hbody b [] (c :: cs) rfl hF' hr'
    cases e₂ with
    | normal =>
      obtain ⟨v, w₄, hend, hR⟩ := hq₂
      exact ⟨.returned v, w₄, hR, (StepsIn.trans harr s1).trans (StepsIn.trans harr₂ (.one (fenced_calm (fr := b.atR a₂ []) hF' hr' rfl) (stepR_round_end rfl rfl hend)))⟩
    | panic chain =>
      obtain ⟨hd, hR⟩ := hq₂
      obtain ⟨todo, hs⟩ := harr₂
      have hl : Frame.leaving P { b.atR a₂ todo with mode := .panicking chain } w₃ (.panicked chain) := ⟨rfl, hd, hfn⟩
      have hfe := fenced_leaving (F := F.inRound l) (fr := { b.atR a₂ todo with mode := .panicking chain }) hF' hr' hl
      exact ⟨.panicked chain, w₃, hR, (StepsIn.trans harr s1).trans (StepsIn.trans hs (.one hfe (step_leave_panicked hl)))⟩
    | ret => exact hq₂.elim
    | exit id => exact hq₂.elim
    | goto t => exact hq₂.elim
    | outgrown => exact hq₂.elim
  | exit id => exact hq.elim
  | goto t => exact hq.elim
  | ret => exact hq.elim
  | panic chain => exact hq.elim
  | outgrown => exact hq.elim

structure Xt (B : Nat) (W W' : World) : Prop where
  below : Below B W W'
  cells : ∀ (k : Nat) (o : Obj), W.heap[k]? = some o → o.isCells = true → W'.heap[k]? = some o

theorem Xt.of_below {B : Nat} {W W' : World} (h : Below W.heap.size W W') (hB : B ≤ W.heap.size) : Xt B W W' :=
  ⟨h.mono hB, fun k _ hk _ => (h.block k (Array.getElem?_eq_some_iff.1 hk).1).trans hk⟩

theorem Xt.putObj {B : Nat} {W : World} {l : Nat} {o : Obj} (o' : Obj) (hB : B ≤ l) (hl : W.heap[l]? = some o) (ho : o.isCells = false) : Xt B W (W.putObj l o') := by
  refine ⟨(Below.refl B W).grown (grownBy_putObj' W l o') (by have := (Array.getElem?_eq_some_iff.1 hl).1; omega) (fun k e => by cases e; omega), fun k u hk hu => ?_⟩
  by_cases e : k = l
  · subst e; rw [hl] at hk; cases hk; rw [ho] at hu; cases hu
  · exact (World.putObj_heap_other e).trans hk

def SeqPan {α : Type} (P : Program) (n g : Nat) (lb : Array Value) (encs : α → Array Value) (Kp : World → World → Prop) (xs : List α) (stop : Bool) (pc : List PanicEntry) (w : World) : Prop :=
  ∀ (l : Nat) (J : Nat → World → Prop) (Jp : World → Prop) (W : World), Below w.heap.size w W → (∀ k X Y, J k X → Below X.heap.size X Y → J k Y) →
    (∀ k x X, xs[k]? = some x → J k X → YieldAt Fence.wide (n - 1) P l (encs x) X fun e Y => (e = .returned (.bool true) ∧ J (k + 1) Y ∧ Kp X Y) ∨ (e = .panicked pc ∧ Jp Y)) →
    J 0 W →
    CallsIn Fence.wide n P g (#[.func (.yield l) #[] #[]] ++ lb) W fun e Y => (stop = false ∧ (∃ v, e = .returned v) ∧ J xs.length Y) ∨ (e = .panicked pc ∧ (Jp Y ∨ stop = true ∧ J xs.length Y))

def panPost (B : Nat) (Kp : World → World → Prop) (pc : List PanicEntry) (I : World → Prop) (Ip : World → Prop) (W : World) : Exit → Act → World → Prop
  | .normal, _, W' => KeepsFrom B W W' ∧ Kp W W' ∧ I W'
  | .panic c, a, W' => c = pc ∧ a.defers = [] ∧ KeepsFrom B W W' ∧ Ip W'
  | _, _, _ => False

def WpAt (P : Program) (f : FuncId) (c : Code) (Q : Exit → Act → World → Prop) (a : Act) (w : World) : Prop :=
  ∀ (b : Frame) (k : List Item) (cs : List Frame), b.roundOf = none → b.fn = f →
    ∃ e a' w', Q e a' w' ∧ ArrivesIn (Machine.fenced P Fence.wide) P (lone (b.atR a (.code c :: k)) cs w) b k cs e a' w'

theorem WpAt.of_wp {f : FuncId} {c : Code} {Q : Exit → Act → World → Prop} {a : Act} {w : World} (h : c.wp P Q a w) : WpAt P f c Q a w :=
  fun b k cs hr _ => (wpIn_wide (n := 0)).2 h b k cs hr trivial (room_wide _)

theorem WpAt.seq {f : FuncId} {x y : Code} {Q : Exit → Act → World → Prop} {a : Act} {w : World} (h : WpAt P f x (Exit.then (WpAt P f y Q) Q) a w) : WpAt P f (Code.seq x y) Q a w := by
  intro b k cs hro hb
  have h0 : (lone (b.atR a (.code (.seq x y) :: k)) cs w).fenced P Fence.wide := fenced_wide _ _
  obtain ⟨e, a₁, w₁, hq, harr⟩ := h b (.code y :: k) cs hro hb
  cases e with
  | normal =>
    obtain ⟨e₂, a₂, w₂, hq₂, harr₂⟩ := hq b k cs hro hb
    exact ⟨e₂, a₂, w₂, hq₂, .of_steps (.head h0 stepR_seq harr) harr₂⟩
  | exit id => exact ⟨_, a₁, w₁, hq, .of_steps (.one h0 stepR_seq) (.pass (x := .code y) rfl (fun _ _ => .inl (by simp)) harr)⟩
  | goto l => exact ⟨_, a₁, w₁, hq, .of_steps (.one h0 stepR_seq) (.pass (x := .code y) rfl (fun _ _ => .inl (by simp)) harr)⟩
  | ret => exact ⟨_, a₁, w₁, hq, .of_steps (.one h0 stepR_seq) (.pass (x := .code y) rfl (fun _ _ => .inl (by simp)) harr)⟩
  | panic ch => exact ⟨_, a₁, w₁, hq, .of_steps (.one h0 stepR_seq) (.pass (x := .code y) rfl (fun _ _ => .inl (by simp)) harr)⟩
  | outgrown => exact ⟨_, a₁, w₁, hq, .of_steps (.one h0 stepR_seq) (.pass (x := .code y) rfl (fun _ _ => .inl (by simp)) harr)⟩

theorem WpAt.block {f : FuncId} {id : Nat} {c : Code} {Q : Exit → Act → World → Prop} {a : Act} {w : World} (h : WpAt P f c Q a w)
    (hy : ∀ i a w, ¬ Q (.exit i) a w) (hz : ∀ i a w, ¬ Q (.goto i) a w) : WpAt P f (Code.block id c) Q a w := by
  intro b k cs hro hb
  have h0 : (lone (b.atR a (.code (.block id c) :: k)) cs w).fenced P Fence.wide := fenced_wide _ _
  obtain ⟨e, a₁, w₁, hq, harr⟩ := h b (.inBlock id :: k) cs hro hb
  cases e with
  | normal => exact ⟨.normal, a₁, w₁, hq, .head h0 stepR_block (StepsIn.trans harr (.one (fenced_wide _ _) stepR_inBlock))⟩
  | exit id' => exact (hy _ _ _ hq).elim
  | goto l => exact (hz _ _ _ hq).elim
  | ret => exact ⟨_, a₁, w₁, hq, .of_steps (.one h0 stepR_block) harr⟩
  | panic ch => exact ⟨_, a₁, w₁, hq, .of_steps (.one h0 stepR_block) harr⟩
  | outgrown => exact ⟨_, a₁, w₁, hq, .of_steps (.one h0 stepR_block) harr⟩

def endPan (P : Program) (fn : Func) (R : Ending → World → Prop) : Exit → Act → World → Prop
  | .normal, a, w | .ret, a, w => LeavesInM Fence.wide 0 P fn a.tmps R a.defers .returning w
  | .panic chain, a, w => LeavesInM Fence.wide 0 P fn a.tmps R a.defers (.panicking chain) w
  | _, _, _ => False

theorem calls_pan {f : FuncId} {fn : Func} {c : Code} {args : Array Value} {w : World} {R : Ending → World → Prop} (hf : P.funcs[f]? = some fn) (hb : fn.body = some c)
    (h : WpAt P f c (endPan P fn R) { tmps := args ++ Array.replicate (fn.ntmps - args.size) undef, defers := [] } w) : Calls P f args w R := by
  refine (callsIn_wide (n := 0)).1 ⟨trivial, fun cs _ => ?_⟩
  let b : Frame := { (default : Frame) with fn := f, kind := .normal, roundOf := none }
  have henter : Frame.enter P f args .normal =
      b.atR { tmps := args ++ Array.replicate (fn.ntmps - args.size) undef, defers := [] } [.code c] := by
    simp [Frame.enter, Frame.atR, hf, hb, b]
  have hr : Fence.wide.room (cs.length + 1 + 0) := room_wide _
  obtain ⟨e, a', w', hq, harr⟩ := h b [] cs rfl rfl
  rw [← henter] at harr
  cases e with
  | normal =>
    obtain ⟨e', w'', fr', hR, hs, hfn, hl⟩ := leaves_stepsInM (F := Fence.wide) a'.defers .returning w' { b.atR a' [] with mode := .returning } cs rfl rfl rfl hf rfl trivial hr hq
    exact ⟨e', w'', fr', hR, ComesIn.of_steps (StepsIn.trans harr (.one (fenced_wide _ _) (stepR_end rfl))) hs, hfn, hl⟩
  | ret =>
    obtain ⟨todo, hs₀⟩ := harr.1 rfl
    obtain ⟨e', w'', fr', hR, hs, hfn, hl⟩ := leaves_stepsInM (F := Fence.wide) a'.defers .returning w' { b.atR a' todo with mode := .returning } cs rfl rfl rfl hf rfl trivial hr hq
    exact ⟨e', w'', fr', hR, ComesIn.of_steps hs₀ hs, hfn, hl⟩
  | panic chain =>
    obtain ⟨todo, hs₀⟩ := harr
    obtain ⟨e', w'', fr', hR, hs, hfn, hl⟩ := leaves_stepsInM (F := Fence.wide) a'.defers (.panicking chain) w' { b.atR a' todo with mode := .panicking chain } cs rfl rfl rfl hf rfl trivial hr hq
    exact ⟨e', w'', fr', hR, ComesIn.of_steps hs₀ hs, hfn, hl⟩
  | exit id => exact hq.elim
  | goto l => exact hq.elim
  | outgrown => exact hq.elim

theorem WpAt.range {α : Type} {f : FuncId} {fn : Func} (hfn : P.funcs[f]? = some fn) {g : Operand} {ps : Array Tmp} {assign body : Code} {Q : Exit → Act → World → Prop} {a : Act} {w : World}
    {gf : Nat} {lb : Array Value} (hg : a.eval g = .func (.func gf) #[] lb) (eg : ∀ args w, (callFunc gf args).run P w = .ok (.enter gf args) w)
    {encs : α → Array Value} {Kp : World → World → Prop} {xs : List α} {stop : Bool} {pc : List PanicEntry} (hseq : SeqPan P 2 gf lb encs Kp xs stop pc w) (hKt : ∀ {X Y Z : World}, Kp X Y → Kp Y Z → Kp X Z) (hKx : ∀ {X Y : World}, Xt w.heap.size X Y → Kp X Y) (hps : ∀ x, (encs x).size = ps.size)
    (I : Nat → World → Prop) (Ip : World → Prop) (hI : ∀ k X Y, I k X → Xt w.heap.size X Y → I k Y) (h0 : I 0 w) (a₁ : α → Act)
    (hassign : ∀ (l : Nat) (x : α) (W : World) (K : Act → World → Prop), K (a₁ x) W →
      assign.wpIn (Fence.wide.inRound l) 1 P (Exit.then K (fun _ _ _ => False)) { tmps := (ps.zip (encs x)).foldl (fun t (p, v) => t.setIfInBounds p v) a.tmps, defers := [] } W)
    (hbody : ∀ (l k : Nat) (x : α) (W : World), xs[k]? = some x → I k W → w.heap.size < W.heap.size → body.wpIn (Fence.wide.inRound l) 1 P (panPost w.heap.size Kp pc (I (k + 1)) Ip W) (a₁ x) W)
    (hdone : ∀ (D : Nat) (W : World), stop = false → w.heap.size ≤ D → I xs.length W → W.heap[D]? = some (.deferred (some [])) → Q .normal { a with defers := { target := .collected D, args := #[] } :: a.defers } W)
    (hpan : ∀ (D : Nat) (W : World), w.heap.size ≤ D → (Ip W ∨ stop = true ∧ I xs.length W) → W.heap[D]? = some (.deferred (some [])) → Q (.panic pc) { a with defers := { target := .collected D, args := #[] } :: a.defers } W) :
    WpAt P f (Code.rangeFunc g ps assign body) Q a w := by
  intro b k cs hro hb
  obtain ⟨rec, hrec⟩ : ∃ rec : LoopState → Option Code → Loop, rec = fun st pe => { state := st, pending := pe, fn := f, tmps := a.tmps, params := ps, assign, body, defers := w.heap.size } := ⟨_, rfl⟩
  obtain ⟨W1, hW1⟩ : ∃ W1, (w.alloc (.deferred (some []))).alloc (.loop (rec .ready none)) = W1 := ⟨_, rfl⟩
  have hL1 : W1.heap[w.heap.size + 1]? = some (.loop (rec .ready none)) := by
    rw [← hW1]; have := World.alloc_heap_new (w.alloc (.deferred (some []))) (.loop (rec .ready none)); rwa [World.size_alloc] at this
  have hK1 : W1.heap[w.heap.size]? = some (.deferred (some [])) := by
    rw [← hW1]; exact (Below.heap_alloc _ _ _ (by simp)).trans (World.alloc_heap_new w _)
  have hbw : Below w.heap.size w W1 := by rw [← hW1]; exact ((Below.refl _ w).alloc (Nat.le_refl _) _).alloc (by simp) _
  have hI1 : I 0 W1 := hI _ _ _ h0 (Xt.of_below hbw (Nat.le_refl _))
  have he : (Instr.enterLoop b.fn a.tmps ps assign body b.roundOf).run P w = .ok (w.heap.size + 1, [{ target := .collected w.heap.size, args := #[] }]) W1 := by
    rw [hro, hb, ← hW1, hrec]; exact run_enterLoop_outer _ _ _ _ _
  have hres : (resolve a.eval (rangeCall g (w.heap.size + 1)) 0).run P W1 = .ok { target := .fn (.func gf) lb, args := #[.func (.yield (w.heap.size + 1)) #[] #[]] } W1 := by
    simp only [resolve, hg]
    simp [go_sem]
  have hinv : (invoke (.fn (.func gf) lb) #[.func (.yield (w.heap.size + 1)) #[] #[]]).run P W1 = .ok (.enter gf (#[.func (.yield (w.heap.size + 1)) #[] #[]] ++ lb)) W1 := by
    simp [invoke, go_sem, eg]
  have henter := stepR_rangeFunc (P := P) (b := b) (a := a) (k := k) (cs := cs) (w := w) he hres hinv
  have hcall : CallsIn Fence.wide 2 P gf (#[.func (.yield (w.heap.size + 1)) #[] #[]] ++ lb) W1 fun e Y =>
      (stop = false ∧ (∃ v, e = .returned v) ∧ (I xs.length Y ∧ Y.heap[w.heap.size + 1]? = some (.loop (rec .ready none)) ∧ Y.heap[w.heap.size]? = some (.deferred (some [])))) ∨
      (e = .panicked pc ∧ ((Ip Y ∧ Y.heap[w.heap.size]? = some (.deferred (some []))) ∨ stop = true ∧ (I xs.length Y ∧ Y.heap[w.heap.size + 1]? = some (.loop (rec .ready none)) ∧ Y.heap[w.heap.size]? = some (.deferred (some []))))) := by
    refine hseq (w.heap.size + 1) (fun j W => I j W ∧ W.heap[w.heap.size + 1]? = some (.loop (rec .ready none)) ∧ W.heap[w.heap.size]? = some (.deferred (some []))) (fun W => Ip W ∧ W.heap[w.heap.size]? = some (.deferred (some []))) W1 hbw ?_ ?_ ⟨hI1, hL1, hK1⟩
    · rintro j X Y ⟨hi, hl, hk⟩ hb
      have hlt : w.heap.size + 1 < X.heap.size := (Array.getElem?_eq_some_iff.1 hl).1
      exact ⟨hI _ _ _ hi (Xt.of_below hb (by omega)), (hb.block _ hlt).trans hl, (hb.block _ (by omega)).trans hk⟩
    · rintro j x W hx ⟨hi, hl, hk⟩
      have hlt : w.heap.size + 1 < W.heap.size := (Array.getElem?_eq_some_iff.1 hl).1
      have hy := run_yield (P := P) (args := encs x) hl (by rw [hrec]; exact hps x)
      rw [hrec] at hy
      refine ⟨f, _, assign, body, hy, roundIn_pan trivial ⟨fn, hfn⟩ (hassign _ x W _ ⟨_, run_beginRound hl (by rw [hrec]), ?_⟩)⟩
      have hl2 : (W.putObj (w.heap.size + 1) (.loop { rec .ready none with state := .busy })).heap[w.heap.size + 1]? = some (.loop { rec .ready none with state := .busy }) := World.putObj_heap_same hlt
      have hk2 : (W.putObj (w.heap.size + 1) (.loop { rec .ready none with state := .busy })).heap[w.heap.size]? = some (.deferred (some [])) := (World.putObj_heap_other (by omega)).trans hk
      have x2 : Xt w.heap.size W (W.putObj (w.heap.size + 1) (.loop { rec .ready none with state := .busy })) := Xt.putObj _ (by omega) hl rfl
      refine wpIn_mono (hbody _ j x _ hx (hI _ _ _ hi x2) (by have := (Array.getElem?_eq_some_iff.1 hk2).1; omega)) ?_
      rintro e a3 W3 hp
      cases e with
      | normal =>
        obtain ⟨hk3, hb3, hi3⟩ := hp
        have hl3 := hk3.same _ _ (by omega) hl2 rfl
        have he3 := run_endRound (P := P) none hl3
        rw [hrec] at he3
        have x3 : Xt w.heap.size W3 (W3.putObj (w.heap.size + 1) (.loop (rec .ready none))) := Xt.putObj _ (by omega) hl3 rfl
        rw [hrec] at x3
        refine ⟨_, _, he3, .inl ⟨rfl, ⟨hI _ _ _ hi3 x3, ?_, ?_⟩, ?_⟩⟩
        · rw [hrec]; exact World.putObj_heap_same (Array.getElem?_eq_some_iff.1 hl3).1
        · exact (World.putObj_heap_other (by omega)).trans (hk3.same _ _ (Nat.le_refl _) hk2 rfl)
        · exact hKt (hKt (hKx x2) hb3) (hKx x3)
      | panic c =>
        obtain ⟨rfl, hd, hk3, hi3⟩ := hp
        exact ⟨hd, .inr ⟨rfl, hi3, hk3.same _ _ (Nat.le_refl _) hk2 rfl⟩⟩
      | ret => exact hp.elim
      | exit id => exact hp.elim
      | goto t => exact hp.elim
      | outgrown => exact hp.elim
  obtain ⟨e, w₃, fr, hR, hsteps, hfe, hleave⟩ := hcall.2 (b.atR { a with defers := [{ target := .collected w.heap.size, args := #[] }] ++ a.defers } (.inRangeFunc (w.heap.size + 1) :: k) :: cs) (room_wide _)
  rcases hR with ⟨hst, ⟨v, rfl⟩, hi, hl, hk⟩ | ⟨rfl, hR⟩
  · have hend := run_endLoop (P := P) hl (by rw [hrec]; simp)
    rw [hrec] at hend
    have sback : ∀ w₄, (Instr.endLoop (w.heap.size + 1)).run P w₃ = .ok none w₄ → StepsIn (Machine.fenced P Fence.wide) P (lone (b.atR a (.code (.rangeFunc g ps assign body) :: k)) cs w) (lone (b.atR { a with defers := [{ target := .collected w.heap.size, args := #[] }] ++ a.defers } k) cs w₄) := by
      intro w₄ h4
      refine .head (fenced_wide _ _) henter (StepsIn.trans hsteps (.head (fenced_wide _ _) ?_ (.one (fenced_wide _ _) (stepR_endRangeFunc h4))))
      rw [← finish_atR_inRangeFunc (w.heap.size + 1) v]; exact step_leave_returned hleave
    refine ⟨.normal, _, _, hdone w.heap.size _ hst (Nat.le_refl _) (hI _ _ _ hi (Xt.putObj _ (by omega) hl rfl)) ((World.putObj_heap_other (by omega)).trans hk), sback _ hend⟩
  · refine ⟨.panic pc, _, w₃, hpan w.heap.size w₃ (Nat.le_refl _) ?_ ?_, .inRangeFunc (w.heap.size + 1) :: k, .head (fenced_wide _ _) henter (StepsIn.trans hsteps (.one (fenced_wide _ _) ?_))⟩
    · rcases hR with h | h
      · exact .inl h.1
      · exact .inr ⟨h.1, h.2.1⟩
    · rcases hR with h | h
      · exact h.2
      · exact h.2.2.2
    · have := step_leave_panicked (P := P) (c := b.atR { a with defers := [{ target := .collected w.heap.size, args := #[] }] ++ a.defers } (.inRangeFunc (w.heap.size + 1) :: k)) (cs := cs) hleave
      rw [Frame.raise_atR] at this
      exact this
end

end Go.Proofs.YtkbciljfjijclaaGreatDoor

namespace Go.Proofs.YtkbciljfjijclaaGreatDoor
open Go.RowKit

theorem Blk.six {w : World} {b : Nat} {x0 x1 x2 x3 x4 x5 : Value} {t : TypeId} (h : Blk w b #[x0, x1, x2, x3, x4, x5] t) : w.cell? ⟨b, 0, none⟩ = some x0 ∧ w.cell? ⟨b, 1, none⟩ = some x1 ∧ w.cell? ⟨b, 2, none⟩ = some x2 ∧ w.cell? ⟨b, 3, none⟩ = some x3 ∧ w.cell? ⟨b, 4, none⟩ = some x4 ∧ w.cell? ⟨b, 5, none⟩ = some x5 := ⟨h.cell 0, h.cell 1, h.cell 2, h.cell 3, h.cell 4, h.cell 5⟩
end Go.Proofs.YtkbciljfjijclaaGreatDoor

namespace Go.Proofs.YtkbciljfjijclaaGreatDoor
open Go.RowKit

end Go.Proofs.YtkbciljfjijclaaGreatDoor

namespace Go.Proofs.YtkbciljfjijclaaGreatDoor
open Go.RowKit

theorem ne_nought {t : ByteArray} (h : bys t ≠ [48]) : (t.toList == [48]) = false := by
  rw [ByteArray.toList_eq]
  exact beq_eq_false_iff_ne.2 h

theorem iter_below (w : World) (s : ByteArray) (k : Nat) : Below w.heap.size w (w.iter s k) := (Below.refl _ _).alloc (Nat.le_refl _) _

theorem onoughts_any (n : Nat) (w : World) (h : n ≤ 100000) : Calls Tryz.prog 102 #[.int .i64 (n : Int)] w fun e w' => e = .returned (.string ⟨(List.replicate n 48).toArray⟩) ∧ Below w.heap.size w w' := by
  have RP := hide (fun W => repeat_any n W h)
  obtain ⟨N, hN⟩ : ∃ N : ByteArray, N = ⟨(List.replicate n (48 : UInt8)).toArray⟩ := ⟨_, rfl⟩
  rw [← hN] at RP ⊢
  clear hN h
  go_enter Tryz.func102, Tryz.ntmps102
  go_wp2_with fail
  refine (RP.out _).mono ?_
  rintro e w1 ⟨rfl, hb⟩
  have HB := hide hb
  clear hb
  go_wp2
  go_ret
  exact ⟨rfl, HB.out⟩

theorem min_run (a b n : Nat) (hn : n = min a b) : ∀ (w : World) (ts : Array TypeId) (t : TypeId), (Builtin.min_ ts t #[.int .i64 (a : Int), .int .i64 (b : Int)]).run Tryz.prog w = .ok (.int .i64 (n : Int)) w := by
  intro w ts t
  rw [run_min_int2, hn]
  congr 2
  split <;> omega

set_option maxHeartbeats 1000000 in
theorem areDig_t (s : ByteArray) (w : World) (hd : DigB (bys s)) : Calls Tryz.prog 152 #[.string s] w fun e w' => e = .returned (.bool true) ∧ Below w.heap.size w w' := by
  have HD : Hid (∀ k, k < s.size → (48 ≤ byt (bys s) k ∧ byt (bys s) k ≤ 57) ∧ ∀ h : k < s.size, s[k].toNat = byt (bys s) k) := fun k hk => ⟨hd k (by first | exact hk | (rw [bys_len]; omega)), fun h => byt_get s k h⟩
  clear hd
  go_enter Tryz.func152, Tryz.ntmps152
  go_wp2
  go_loopw [4] (fun _ wr => ∃ k : Nat, k ≤ s.size ∧ wr = w.iter s k) (fun _ wr => s.size - wr.iterPos w.heap.size)
  case atStart => exact ⟨0, Nat.zero_le _, rfl⟩
  case round =>
    obtain ⟨k, hk, rfl⟩ := hrel
    by_cases hlt : k < s.size
    · have hks : k < s.size := by omega
      obtain ⟨hb, hg⟩ := HD.out k hlt
      obtain ⟨b, hbb⟩ : ∃ b, b = byt (bys s) k := ⟨_, rfl⟩
      rw [← hbb] at hg hb
      have hnx : ∀ ty, (Instr.next (.pointer (some ⟨w.heap.size, 0, none⟩)) true ty).run Tryz.prog (w.iter s k) = .ok (.tuple #[.bool true, .int .i64 (k : Int), .int .i32 ((b : Nat) : Int)]) (w.iter s (k + 1)) := fun ty => by
        have h := run_next_ascii (P := Tryz.prog) w s k ty hks (by rw [hg hks]; omega)
        rw [hg hks] at h
        exact h
      have h1' : ¬ (b : Int) < 48 := by omega
      have h2' : ¬ 57 < (b : Int) := by omega
      have h3' : decide ((b : Int) < 48) = false := decide_eq_false h1'
      have h4' : decide (57 < (b : Int)) = false := decide_eq_false h2'
      clear hbb HD hg
      go_wp2
      go_roundw
      case rel => exact ⟨k + 1, by omega, rfl⟩
      case measure => simp; omega
    · have hk0 : ¬ k < s.size := by omega
      have hnx : ∀ ty, (Instr.next (.pointer (some ⟨w.heap.size, 0, none⟩)) true ty).run Tryz.prog (w.iter s k) = _ := fun ty => run_next_end w s k ty hk0
      clear HD hlt hk
      go_wp2
      go_ret
      exact ⟨rfl, iter_below _ _ _⟩

set_option maxHeartbeats 1000000 in
theorem areDig_x (s : ByteArray) (n : Nat) (w : World) (hn : n < s.size) (hd : ∀ k, k < n → 48 ≤ byt (bys s) k ∧ byt (bys s) k ≤ 57) (hx : ¬ (48 ≤ byt (bys s) n ∧ byt (bys s) n ≤ 57)) : Calls Tryz.prog 152 #[.string s] w fun e w' => e = .returned (.bool false) ∧ Below w.heap.size w w' := by
  have HD : Hid (∀ k, k < n → (48 ≤ byt (bys s) k ∧ byt (bys s) k ≤ 57) ∧ ∀ h : k < s.size, s[k].toNat = byt (bys s) k) := fun k hk => ⟨hd k (by first | exact hk | (rw [bys_len]; omega)), fun h => byt_get s k h⟩
  clear hd
  go_enter Tryz.func152, Tryz.ntmps152
  go_wp2
  go_loopw [4] (fun _ wr => ∃ k : Nat, k ≤ n ∧ wr = w.iter s k) (fun _ wr => s.size - wr.iterPos w.heap.size)
  case atStart => exact ⟨0, Nat.zero_le _, rfl⟩
  case round =>
    obtain ⟨k, hk, rfl⟩ := hrel
    by_cases hlt : k < n
    · have hks : k < s.size := by omega
      obtain ⟨hb, hg⟩ := HD.out k hlt
      obtain ⟨b, hbb⟩ : ∃ b, b = byt (bys s) k := ⟨_, rfl⟩
      rw [← hbb] at hg hb
      have hnx : ∀ ty, (Instr.next (.pointer (some ⟨w.heap.size, 0, none⟩)) true ty).run Tryz.prog (w.iter s k) = .ok (.tuple #[.bool true, .int .i64 (k : Int), .int .i32 ((b : Nat) : Int)]) (w.iter s (k + 1)) := fun ty => by
        have h := run_next_ascii (P := Tryz.prog) w s k ty hks (by rw [hg hks]; omega)
        rw [hg hks] at h
        exact h
      have h1' : ¬ (b : Int) < 48 := by omega
      have h2' : ¬ 57 < (b : Int) := by omega
      have h3' : decide ((b : Int) < 48) = false := decide_eq_false h1'
      have h4' : decide (57 < (b : Int)) = false := decide_eq_false h2'
      clear hbb HD hg
      go_wp2
      go_roundw
      case rel => exact ⟨k + 1, by omega, rfl⟩
      case measure => simp; omega
    · obtain rfl : k = n := by omega
      have hks : k < s.size := hn
      have hg : ∀ h : k < s.size, s[k].toNat = byt (bys s) k := fun h => byt_get s k h
      have hdc : ((Utf8.decode s k).1 : Int) < 48 ∨ (¬ ((Utf8.decode s k).1 : Int) < 48 ∧ 57 < ((Utf8.decode s k).1 : Int)) := by
        by_cases ha : (s[k]'hks).toNat < 128
        · rw [decode_ascii s k hks ha]
          simp only
          rw [hg hks]
          omega
        · have := (decode_high s k hks (by omega)).1
          omega
      have hnx : ∀ ty, (Instr.next (.pointer (some ⟨w.heap.size, 0, none⟩)) true ty).run Tryz.prog (w.iter s k) = _ := fun ty => run_next_any w s k ty hks
      generalize (Utf8.decode s k).1 = b at hdc hnx
      generalize (Utf8.decode s k).2 = j at hnx
      clear HD hlt hk hg hx
      rcases hdc with h1 | ⟨h1, h2⟩
      · have h3' : decide ((b : Int) < 48) = true := decide_eq_true h1
        go_wp2
        go_ret
        exact ⟨rfl, iter_below _ _ _⟩
      · have h3' : decide ((b : Int) < 48) = false := decide_eq_false h1
        have h4' : decide (57 < (b : Int)) = true := decide_eq_true h2
        go_wp2
        go_ret
        exact ⟨rfl, iter_below _ _ _⟩

theorem areDig_F (s : ByteArray) (w : World) (h : ¬ DigB (bys s)) : Calls Tryz.prog 152 #[.string s] w fun e w' => e = .returned (.bool false) ∧ Below w.heap.size w w' := by
  have hlt : (dgs (bys s)).length < (bys s).length := by
    have h1 := dgs_len (bys s)
    rcases Nat.lt_or_ge (dgs (bys s)).length (bys s).length with g | g
    · exact g
    · exfalso
      apply h
      have h2 := dgs_take (bys s)
      rw [show (dgs (bys s)).length = (bys s).length by omega, List.take_length] at h2
      rw [h2]
      exact dgs_digB _
  exact areDig_x s (dgs (bys s)).length w (by rw [bys_len] at hlt; exact hlt) (fun k hk => dgs_at (bys s) hk) (dgs_stop (bys s) hlt)

set_option maxHeartbeats 1000000 in
theorem isCount_t (n : Int) (w : World) (h1 : 0 ≤ n) (h2 : n ≤ 8192) : Calls Tryz.prog 101 #[.int .i64 n] w fun e w' => e = .returned (.bool true) ∧ Below w.heap.size w w' := by
  have h3 : decide (0 ≤ n) = true := decide_eq_true h1
  have h4 : decide (n ≤ 8192) = true := decide_eq_true h2
  go_enter Tryz.func101, Tryz.ntmps101
  go_wp2
  go_ret
  exact ⟨rfl, Below.refl _ _⟩

set_option maxHeartbeats 1000000 in
theorem isCount_l (n : Int) (w : World) (h1 : ¬ 0 ≤ n) : Calls Tryz.prog 101 #[.int .i64 n] w fun e w' => e = .returned (.bool false) ∧ Below w.heap.size w w' := by
  have h3 : decide (0 ≤ n) = false := decide_eq_false h1
  go_enter Tryz.func101, Tryz.ntmps101
  go_wp2
  go_ret
  exact ⟨rfl, Below.refl _ _⟩

set_option maxHeartbeats 1000000 in
theorem isCount_h (n : Int) (w : World) (h1 : 0 ≤ n) (h2 : ¬ n ≤ 8192) : Calls Tryz.prog 101 #[.int .i64 n] w fun e w' => e = .returned (.bool false) ∧ Below w.heap.size w w' := by
  have h3 : decide (0 ≤ n) = true := decide_eq_true h1
  have h4 : decide (n ≤ 8192) = false := decide_eq_false h2
  go_enter Tryz.func101, Tryz.ntmps101
  go_wp2
  go_ret
  exact ⟨rfl, Below.refl _ _⟩

theorem isCount_f (n : Int) (w : World) (h : ¬ (0 ≤ n ∧ n ≤ 8192)) : Calls Tryz.prog 101 #[.int .i64 n] w fun e w' => e = .returned (.bool false) ∧ Below w.heap.size w w' := by
  by_cases h1 : 0 ≤ n
  · exact isCount_h n w h1 (fun g => h ⟨h1, g⟩)
  · exact isCount_l n w h1

set_option maxHeartbeats 1000000 in
theorem isNum_0 (w : World) : Calls Tryz.prog 100 #[.string ⟨#[48]⟩] w fun e w' => e = .returned (.bool true) ∧ Below w.heap.size w w' := by
  go_enter Tryz.func100, Tryz.ntmps100
  go_wp2
  go_ret
  exact ⟨rfl, Below.refl _ _⟩

set_option maxHeartbeats 1000000 in
theorem isNum_e (w : World) : Calls Tryz.prog 100 #[.string ⟨#[]⟩] w fun e w' => e = .returned (.bool false) ∧ Below w.heap.size w w' := by
  go_enter Tryz.func100, Tryz.ntmps100
  go_wp2
  go_ret
  exact ⟨rfl, Below.refl _ _⟩

set_option maxHeartbeats 1000000 in
theorem isNum_l (t : ByteArray) (w : World) (h0 : t.size ≠ 0) (hz : bys t ≠ [48]) (h : ¬ t.size ≤ 8192) : Calls Tryz.prog 100 #[.string t] w fun e w' => e = .returned (.bool false) ∧ Below w.heap.size w w' := by
  have hn := toList_ne h0
  have hq := ne_nought hz
  have h2 : decide ((t.size : Int) ≤ 8192) = false := decide_eq_false (by omega)
  clear h h0 hz
  go_enter Tryz.func100, Tryz.ntmps100
  go_wp2
  go_ret
  exact ⟨rfl, Below.refl _ _⟩

set_option maxHeartbeats 1000000 in
theorem isNum_z (t : ByteArray) (w : World) (h0 : t.size ≠ 0) (hz : bys t ≠ [48]) (h : t.size ≤ 8192) (hx : byt (bys t) 0 = 48) : Calls Tryz.prog 100 #[.string t] w fun e w' => e = .returned (.bool false) ∧ Below w.heap.size w w' := by
  have hn := toList_ne h0
  have hq := ne_nought hz
  have h2 : decide ((t.size : Int) ≤ 8192) = true := decide_eq_true (by omega)
  have h3 : (0 : Int) < (t.size : Int) := by omega
  have hp : 0 < t.size := by omega
  have hg : ∀ h : 0 < t.size, t[0].toNat = byt (bys t) 0 := fun h => byt_get t 0 h
  obtain ⟨b, hbb⟩ : ∃ b, b = byt (bys t) 0 := ⟨_, rfl⟩
  rw [← hbb] at hg hx
  subst hx
  clear h h0 hz hbb
  go_enter Tryz.func100, Tryz.ntmps100
  go_wp2
  go_ret
  exact ⟨rfl, Below.refl _ _⟩

set_option maxHeartbeats 1000000 in
theorem isNum_d (t : ByteArray) (b1 : Bool) (w : World) (h0 : t.size ≠ 0) (hz : bys t ≠ [48]) (h : t.size ≤ 8192) (hx : byt (bys t) 0 ≠ 48) (hA : ∀ W, Calls Tryz.prog 152 #[.string t] W fun e w' => e = .returned (.bool b1) ∧ Below W.heap.size W w') : Calls Tryz.prog 100 #[.string t] w fun e w' => e = .returned (.bool b1) ∧ Below w.heap.size w w' := by
  have hn := toList_ne h0
  have hq := ne_nought hz
  have h2 : decide ((t.size : Int) ≤ 8192) = true := decide_eq_true (by omega)
  have h3 : (0 : Int) < (t.size : Int) := by omega
  have hp : 0 < t.size := by omega
  have hg : ∀ h : 0 < t.size, t[0].toNat = byt (bys t) 0 := fun h => byt_get t 0 h
  obtain ⟨b, hbb⟩ : ∃ b, b = byt (bys t) 0 := ⟨_, rfl⟩
  rw [← hbb] at hg hx
  have hne : ¬ (b : Int) = 48 := by omega
  have hne2 : ((b : Int) != 48) = true := bne_iff_ne.2 hne
  have HN2 := hide hne2
  clear hne2
  have HA := hide hA
  clear h h0 hz hbb hA hx
  go_enter Tryz.func100, Tryz.ntmps100
  go_wp2_with fail
  refine (HA.out _).mono ?_
  rintro e w1 ⟨rfl, hb⟩
  have HB := hide hb
  clear hb
  go_wp2
  go_ret
  exact ⟨congrArg (fun x => Ending.returned (Value.bool (x && b1))) HN2.out, HB.out⟩

theorem isNum_T (t : ByteArray) (w : World) (h : NumT (bys t) 8192) : Calls Tryz.prog 100 #[.string t] w fun e w' => e = .returned (.bool true) ∧ Below w.heap.size w w' := by
  rcases h with h | ⟨h1, h2, h3, h4⟩
  · obtain rfl : t = ⟨#[48]⟩ := by rw [← mk_bys t, h]
    exact isNum_0 w
  · rw [bys_len] at h2
    exact isNum_d t true w (fun g => h1 (bys_nil.2 g)) (fun g => h3 (by rw [g]; rfl)) (by omega) h3 (fun W => areDig_t t W h4)

theorem isNum_F (t : ByteArray) (w : World) (h : ¬ NumT (bys t) 8192) : Calls Tryz.prog 100 #[.string t] w fun e w' => e = .returned (.bool false) ∧ Below w.heap.size w w' := by
  have hz : bys t ≠ [48] := fun g => h (.inl g)
  by_cases h0 : bys t = []
  · obtain rfl : t = ⟨#[]⟩ := size_nil (bys_nil.1 h0)
    exact isNum_e w
  have h0' : t.size ≠ 0 := fun g => h0 (bys_nil.2 g)
  by_cases h1 : t.size ≤ 8192
  · by_cases h2 : byt (bys t) 0 = 48
    · exact isNum_z t w h0' hz h1 h2
    · exact isNum_d t false w h0' hz h1 h2 (fun W => areDig_F t W (fun g => h (.inr ⟨h0, by rw [bys_len]; omega, h2, g⟩)))
  · exact isNum_l t w h0' hz h1

end Go.Proofs.YtkbciljfjijclaaGreatDoor
