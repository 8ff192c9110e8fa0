/-
  The parts of texts that are joined; rows of parts that are joined.
  A rule more at the end, in plain words.
  Blanks ahead of signs change no part of a text.
  Conditions that are joined, and the other relation, in plain words.
  A divisor that is a power of 10 sees no more of a whole number than its rest.
  What rule's readEntry does.
-/
import Derived.Test.YtijccekejfcheaaGreatDoorRB20
namespace Go.Proofs.YtijccekejfcheaaGreatDoor
open Go.RowKit

theorem btrim_nil {A : List UInt8} (X : List UInt8) (h : trimB A = []) : trimB (A ++ X) = trimB X := by
  unfold trimB at *
  induction A with
  | nil => rfl
  | cons a r ih =>
    simp only [List.dropWhile] at h
    split at h
    · rename_i ha
      rw [List.cons_append, List.dropWhile, ha]
      exact ih h
    · cases h

theorem btrim_cons {A : List UInt8} (X : List UInt8) {a : UInt8} {r : List UInt8} (h : trimB A = a :: r) : trimB (A ++ X) = a :: (r ++ X) := by
  unfold trimB at *
  induction A with
  | nil => cases h
  | cons b q ih =>
    simp only [List.dropWhile] at h
    split at h
    · rename_i hb
      rw [List.cons_append, List.dropWhile, hb]
      exact ih h
    · rename_i hb
      rw [List.cons_append, List.dropWhile, hb]
      cases h
      rfl

theorem takeW_stop (p : UInt8 → Bool) (l R : List UInt8) (c : UInt8) (hc : p c = false) : ((l ++ c :: R).takeWhile p).length = (l.takeWhile p).length := by
  induction l with
  | nil => simp [List.takeWhile, hc]
  | cons a l ih =>
    by_cases ha : p a = true
    · simp [List.takeWhile, ha, ih]
    · simp [List.takeWhile, ha]

theorem toks_sign (c : UInt8) (R : List UInt8) (h1 : isLt c = false) (h2 : isNm c = false) (h3 : isSg c = true) (h4 : c ≠ 32) (h5 : c ≠ 33) (h6 : c ≠ 46) : toks (c :: R) = ([c] :: (toks R).1, (toks R).2) := by
  rw [toks_step]
  have e : trimB (c :: R) = c :: R := by
    unfold trimB
    have : (c == 32) = false := beq_eq_false_iff_ne.2 h4
    simp [List.dropWhile, this]
  rw [e]
  have n33 : ¬ c.toNat = 33 := fun h => h5 (UInt8.toNat_inj.1 h)
  have n46 : ¬ c.toNat = 46 := fun h => h6 (UInt8.toNat_inj.1 h)
  have hp : partN (c :: R) = some 1 := by
    unfold partN
    simp [h1, h2, h3, n33, n46]
  dsimp only
  rw [hp]
  rfl

theorem toks_blank (R : List UInt8) : toks (32 :: R) = toks R := by
  rw [toks_step, toks_step R]
  rfl

theorem splitT_none (sep : Tok) (a : List Tok) (h : sep ∉ a) : splitT sep a = [a] := by
  induction a with
  | nil => rfl
  | cons t a ih =>
    rw [splitT, if_neg (fun e => h (by simp [e])), ih (fun hm => h (by simp [hm]))]

theorem mapM_one {α β : Type} (f : α → Option β) (a : α) : [a].mapM f = (f a).map fun x => [x] := by
  simp [List.mapM_cons]
  cases f a <;> rfl

theorem toksF_sub (n : Nat) (s : List UInt8) : ∀ t, t ∈ (toksF n s).1 → ∀ c, c ∈ t → c ∈ s := by
  induction n generalizing s with
  | zero => simp [toksF]
  | succ n ih =>
    rw [toksF]
    have hsub : ∀ c, c ∈ trimB s → c ∈ s := fun c hc => (List.dropWhile_sublist _).subset hc
    cases ht : trimB s with
    | nil => simp
    | cons a r =>
      rw [ht] at hsub
      dsimp only
      cases hp : partN (a :: r) with
      | none => simp
      | some k =>
        dsimp only
        intro t hm c hc
        rcases List.mem_cons.1 hm with rfl | hm
        · exact hsub c (List.mem_of_mem_take hc)
        · exact hsub c (List.mem_of_mem_drop (ih _ t hm c hc))

theorem toks_sub (s : List UInt8) : ∀ t, t ∈ (toks s).1 → ∀ c, c ∈ t → c ∈ s := toksF_sub _ _

end Go.Proofs.YtijccekejfcheaaGreatDoor

namespace Go.Proofs.YtijccekejfcheaaGreatDoor
open Go.RowKit

end Go.Proofs.YtijccekejfcheaaGreatDoor

namespace Go.Proofs.YtijccekejfcheaaGreatDoor
open Go.RowKit

end Go.Proofs.YtijccekejfcheaaGreatDoor

namespace Go.Proofs.YtijccekejfcheaaGreatDoor
open Go.RowKit

theorem no_tok {C : List UInt8} {t : Tok} {c : UInt8} (hc : c ∈ t) (h : c ∉ C) : t ∉ (toks C).1 := fun hm => h (toks_sub C t hm c hc)

theorem partN_eq (a : UInt8) (r R : List UInt8) (h : (33 : UInt8) ∉ a :: r) : partN (a :: (r ++ 61 :: R)) = partN (a :: r) := by
  have e1 := takeW_stop isLt (a :: r) R 61 (by decide)
  have e2 := takeW_stop isNm (a :: r) R 61 (by decide)
  rw [List.cons_append] at e1 e2
  simp only [partN]
  rw [e1, e2]
  have na : ¬ a.toNat = 33 := fun e => h (by rw [show a = 33 from UInt8.toNat_inj.1 e]; simp)
  have e3 : ((a.toNat = 33 ∧ (r ++ 61 :: R).head? = some 61) ∨ (a.toNat = 46 ∧ (r ++ 61 :: R).head? = some 46)) ↔ ((a.toNat = 33 ∧ r.head? = some 61) ∨ (a.toNat = 46 ∧ r.head? = some 46)) := by
    cases r with
    | nil => simp [na]
    | cons b r => simp
  simp only [e3]

theorem toks_appE (A R : List UInt8) (h33 : (33 : UInt8) ∉ A) : toks (A ++ 61 :: R) = if (toks A).2 then ((toks A).1, true) else ((toks A).1 ++ (toks (61 :: R)).1, (toks (61 :: R)).2) := by
  obtain ⟨n, hn⟩ : ∃ n, A.length ≤ n := ⟨_, Nat.le_refl _⟩
  induction n generalizing A with
  | zero =>
    obtain rfl := List.eq_nil_of_length_eq_zero (by omega : A.length = 0)
    rw [List.nil_append, show toks [] = ([], false) from rfl]
    simp
  | succ n ih =>
    have hl := trimB_len A
    have hsub : ∀ c, c ∈ trimB A → c ∈ A := fun c hc => (List.dropWhile_sublist _).subset hc
    cases ht : trimB A with
    | nil =>
      have hA : toks A = ([], false) := by rw [toks_step, ht]
      have hB : toks (A ++ 61 :: R) = toks (61 :: R) := by rw [toks_step, btrim_nil _ ht, ← toks_step]
      rw [hA, hB]; rfl
    | cons a r =>
      rw [ht] at hsub
      have h33' : (33 : UInt8) ∉ a :: r := fun hm => h33 (hsub _ hm)
      cases hp : partN (a :: r) with
      | none =>
        have hA : toks A = ([], true) := by rw [toks_step, ht]; dsimp only; rw [hp]
        have hB : toks (A ++ 61 :: R) = ([], true) := by rw [toks_step, btrim_cons _ ht]; dsimp only; rw [partN_eq a r R h33', hp]
        rw [hA, hB]; rfl
      | some k =>
        have hk := partN_le hp
        have e1 : (a :: (r ++ 61 :: R)).take k = (a :: r).take k := by
          rw [← List.cons_append, List.take_append_of_le_length hk.2]
        have e2 : (a :: (r ++ 61 :: R)).drop k = (a :: r).drop k ++ 61 :: R := by
          rw [← List.cons_append, List.drop_append_of_le_length hk.2]
        have hA : toks A = ((a :: r).take k :: (toks ((a :: r).drop k)).1, (toks ((a :: r).drop k)).2) := by rw [toks_step, ht]; dsimp only; rw [hp]
        have hB : toks (A ++ 61 :: R) = ((a :: r).take k :: (toks ((a :: r).drop k ++ 61 :: R)).1, (toks ((a :: r).drop k ++ 61 :: R)).2) := by
          rw [toks_step, btrim_cons _ ht]
          dsimp only
          rw [partN_eq a r R h33', hp]
          dsimp only
          rw [e1, e2]
        rw [hA, hB, ih ((a :: r).drop k) (fun hm => h33' (List.mem_of_mem_drop hm)) (by rw [List.length_drop, ← ht]; rw [← ht] at hk; omega)]
        dsimp only
        split
        · rfl
        · rfl

theorem takeW_all {l : List Tok} (X : List Tok) (e : Tok) (h : ∀ t, t ∈ l → isEq t = false) (he : isEq e = true) : (l ++ e :: X).takeWhile (fun t => !isEq t) = l ∧ (l ++ e :: X).dropWhile (fun t => !isEq t) = e :: X := by
  induction l with
  | nil => simp [he]
  | cons a l ih =>
    have ha := h a (by simp)
    obtain ⟨h1, h2⟩ := ih (fun t ht => h t (by simp [ht]))
    simp only [List.cons_append, List.takeWhile, List.dropWhile, ha, Bool.not_false]
    exact ⟨by rw [h1], h2⟩

end Go.Proofs.YtijccekejfcheaaGreatDoor

namespace Go.Proofs.YtijccekejfcheaaGreatDoor
open Go.RowKit

def dv (l : List UInt8) : Nat := l.foldl (fun n c => 10 * n + (c.toNat - 48)) 0

theorem val_mod (d : Nat) (hd : d ≠ 0) (s : List UInt8) (a : Nat) : s.foldl (fun n c => leftT d (10 * n + (c.toNat - 48))) (a % d) = (s.foldl (fun n c => 10 * n + (c.toNat - 48)) a) % d := by
  induction s generalizing a with
  | nil => rfl
  | cons c s ih =>
    rw [List.foldl_cons, List.foldl_cons, ← ih]
    congr 1
    unfold leftT
    rw [if_neg hd, Nat.add_mod, Nat.mul_mod, Nat.mod_mod, ← Nat.mul_mod, ← Nat.add_mod]

theorem valOf_mod (d : Nat) (hd : d ≠ 0) (s : List UInt8) : valOf d s = dv s % d := by
  have := val_mod d hd s 0
  rw [Nat.zero_mod] at this
  exact this

theorem dv_from (s : List UInt8) (a : Nat) : s.foldl (fun n c => 10 * n + (c.toNat - 48)) a = a * 10 ^ s.length + dv s := by
  induction s generalizing a with
  | nil => simp [dv]
  | cons c s ih =>
    unfold dv
    rw [List.foldl_cons, List.foldl_cons, ih, ih (10 * 0 + (c.toNat - 48)), List.length_cons, Nat.pow_succ]
    have : (10 * a + (c.toNat - 48)) * 10 ^ s.length = a * (10 ^ s.length * 10) + (10 * 0 + (c.toNat - 48)) * 10 ^ s.length := by
      rw [Nat.add_mul, Nat.mul_zero, Nat.zero_add]
      congr 1
      rw [Nat.mul_comm 10 a, Nat.mul_assoc, Nat.mul_comm 10]
    omega

theorem dv_app (p s : List UInt8) : dv (p ++ s) = dv p * 10 ^ s.length + dv s := by
  unfold dv
  rw [List.foldl_append]
  exact dv_from s _

def bare (i : List UInt8) : List UInt8 := if i = [48] then [] else i
def padI (k : Nat) (i : List UInt8) : List UInt8 := List.replicate (k - (bare i).length) 48 ++ bare i

theorem padI_len (k : Nat) (i : List UInt8) : k ≤ (padI k i).length ∧ (padI k i).length ≤ k + i.length := by
  unfold padI bare
  split
  · simp
  · simp; omega

theorem dv_noughts (n : Nat) : dv (List.replicate n 48) = 0 := by
  induction n with
  | zero => rfl
  | succ n ih =>
    rw [List.replicate_succ', dv_app, ih]
    rfl

theorem dv_pad (k : Nat) (i : List UInt8) : dv (padI k i) = dv i := by
  unfold padI
  rw [dv_app, dv_noughts, Nat.zero_mul, Nat.zero_add]
  unfold bare
  split
  · rename_i h; rw [h]; rfl
  · rfl

theorem rests_val (k : Nat) (more i : List UInt8) : valOf (10 ^ k) (more ++ padI k i) = valOf (10 ^ k) i := by
  have hd : 10 ^ k ≠ 0 := by
    have := Nat.pow_pos (n := k) (show 0 < 10 by decide)
    omega
  rw [valOf_mod _ hd, valOf_mod _ hd, dv_app, dv_pad]
  obtain ⟨m, hm⟩ : ∃ m, (padI k i).length = k + m := ⟨(padI k i).length - k, by have := (padI_len k i).1; omega⟩
  rw [hm, Nat.pow_add, show dv more * (10 ^ k * 10 ^ m) = 10 ^ k * (dv more * 10 ^ m) by rw [Nat.mul_left_comm], Nat.mul_add_mod]

def modC (k : Nat) : List UInt8 := 49 :: List.replicate k 48
def restsU (op : UInt8) (k : Nat) : List UInt8 := [102, 101, 119, 58, 32] ++ [op] ++ [32, 37, 32] ++ modC k ++ [32]
def restsC (op : UInt8) (k : Nat) (L : List UInt8) : List UInt8 := restsU op k ++ 61 :: 32 :: L

theorem toks_rests (op : UInt8) (k : Nat) (hop : op = 105 ∨ op = 110) (h1 : 1 ≤ k) (h8 : k ≤ 8) : toks (restsU op k) = ([[102, 101, 119], [58], [op], [37], modC k], false) ∧ numT (modC k) = some (10 ^ k) ∧ (33 : UInt8) ∉ restsU op k := by
  have hk : k = 1 ∨ k = 2 ∨ k = 3 ∨ k = 4 ∨ k = 5 ∨ k = 6 ∨ k = 7 ∨ k = 8 := by omega
  rcases hop with rfl | rfl <;> rcases hk with rfl | rfl | rfl | rfl | rfl | rfl | rfl | rfl <;> exact ⟨by kernel_rfl, by kernel_rfl, by decide⟩

def ListB (L : List UInt8) : Prop := ∀ c, c ∈ L → isNm c = true ∨ c = 44 ∨ c = 46 ∨ c = 32

theorem ListB.no {L : List UInt8} (h : ListB L) (c : UInt8) (hc : isNm c = false ∧ c ≠ 44 ∧ c ≠ 46 ∧ c ≠ 32) : c ∉ L := by
  intro hm
  rcases h c hm with q | q | q | q
  · rw [hc.1] at q; cases q
  · exact hc.2.1 q
  · exact hc.2.2.1 q
  · exact hc.2.2.2 q

theorem rests_rules (op : UInt8) (k : Nat) (L : List UInt8) (hop : op = 105 ∨ op = 110) (h1 : 1 ≤ k) (h8 : k ≤ 8) (hL : ListB L) : rulesT (restsC op k L) = none ∨ ∃ rs, rulesT (restsC op k L) = some [(3, [[⟨op, 10 ^ k, false, rs⟩]])] := by
  obtain ⟨tU, nm, n33⟩ := toks_rests op k hop h1 h8
  have n59 := hL.no 59 (by decide)
  have n111 := hL.no 111 (by decide)
  have n97 := hL.no 97 (by decide)
  have ht : toks (restsC op k L) = ([102, 101, 119] :: [58] :: [op] :: [37] :: modC k :: [61] :: (toks L).1, (toks L).2) := by
    unfold restsC
    rw [toks_appE _ _ n33, tU, if_neg (by simp), toks_sign 61 _ (by decide) (by decide) (by decide) (by decide) (by decide) (by decide), toks_blank]
    rfl
  have hop' : operT [op] = some op := by rcases hop with rfl | rfl <;> rfl
  have ne59 : [op] ≠ ([59] : Tok) := by rcases hop with rfl | rfl <;> decide
  have neq : isEq [op] = false := by rcases hop with rfl | rfl <;> rfl
  have m59 : modC k ≠ ([59] : Tok) := by unfold modC; intro e; cases e
  have m111 : modC k ≠ ([111, 114] : Tok) := by unfold modC; intro e; cases e
  have m97 : modC k ≠ ([97, 110, 100] : Tok) := by unfold modC; intro e; cases e
  have meq : isEq (modC k) = false := by unfold modC isEq; simp
  have o2 : [op] ≠ ([111, 114] : Tok) := by intro e; cases e
  have o3 : [op] ≠ ([97, 110, 100] : Tok) := by intro e; cases e
  have s59 : ([59] : Tok) ∉ (toks (restsC op k L)).1 := by
    rw [ht]
    simp only [List.mem_cons, not_or]
    exact ⟨by decide, by decide, fun e => ne59 e.symm, by decide, fun e => m59 e.symm, by decide, no_tok (c := 59) (by simp) n59⟩
  have s111 : ([111, 114] : Tok) ∉ ([op] :: [37] :: modC k :: [61] :: (toks L).1 : List Tok) := by
    simp only [List.mem_cons, not_or]
    exact ⟨fun e => o2 e.symm, by decide, fun e => m111 e.symm, by decide, no_tok (c := 111) (by simp) n111⟩
  have s97 : ([97, 110, 100] : Tok) ∉ ([op] :: [37] :: modC k :: [61] :: (toks L).1 : List Tok) := by
    simp only [List.mem_cons, not_or]
    exact ⟨fun e => o3 e.symm, by decide, fun e => m97 e.symm, by decide, no_tok (c := 97) (by simp) n97⟩
  unfold rulesT
  cases hf : (toks (restsC op k L)).2 with
  | true => exact .inl (if_pos rfl)
  | false =>
    rw [if_neg (by simp), if_neg (by rw [ht]; simp), splitT_none [59] _ s59, mapM_one, ht]
    have hx : ruleT ([102, 101, 119] :: [58] :: [op] :: [37] :: modC k :: [61] :: (toks L).1) = ((splitT [44] (toks L).1).mapM rangeT).map fun rs => (3, [[⟨op, 10 ^ k, false, rs⟩]]) := by
      have hr : relT ([op] :: [37] :: modC k :: [61] :: (toks L).1) = ((splitT [44] (toks L).1).mapM rangeT).map fun rs => ⟨op, 10 ^ k, false, rs⟩ := by
        have e1 := takeW_all (l := [[op], [37], modC k]) (toks L).1 [61] (by
          intro t ht
          simp only [List.mem_cons, List.not_mem_nil, or_false] at ht
          rcases ht with rfl | rfl | rfl
          · exact neq
          · rfl
          · exact meq) rfl
        unfold relT
        rw [show ([op] :: [37] :: modC k :: [61] :: (toks L).1 : List Tok) = [[op], [37], modC k] ++ [61] :: (toks L).1 from rfl, e1.1, e1.2]
        dsimp only
        have ex : exprT [[op], [37], modC k] = some (op, 10 ^ k) := by
          have hd : 10 ^ k ≠ 0 := by
            have := Nat.pow_pos (n := k) (show 0 < 10 by decide)
            omega
          simp only [exprT, if_true, hop', nm]
          rw [if_neg hd]
        rw [ex]
        cases (splitT [44] (toks L).1).mapM rangeT <;> rfl
      simp only [ruleT, if_true, show catT [102, 101, 119] = some 3 by decide]
      unfold condT
      rw [splitT_none _ _ s111, mapM_one]
      unfold allT
      rw [splitT_none _ _ s97, mapM_one, hr]
      cases (splitT [44] (toks L).1).mapM rangeT <;> rfl
    rw [hx]
    cases (splitT [44] (toks L).1).mapM rangeT with
    | none => exact .inl rfl
    | some rs => exact .inr ⟨rs, rfl⟩

theorem digB_of {l : List UInt8} (h : ∀ c, c ∈ l → 48 ≤ c.toNat ∧ c.toNat ≤ 57) : DigB l := by
  intro k hk
  have e : byt l k = l[k].toNat := by unfold byt; simp [hk]
  rw [e]
  exact h _ (List.getElem_mem hk)

theorem digB_at {l : List UInt8} (h : DigB l) : ∀ c, c ∈ l → 48 ≤ c.toNat ∧ c.toNat ≤ 57 := by
  intro c hc
  obtain ⟨k, hk, rfl⟩ := List.getElem_of_mem hc
  have e : byt l k = l[k].toNat := by unfold byt; simp [hk]
  rw [← e]
  exact h k hk

theorem rests_may {x : OperT} {more : List UInt8} {k : Nat} (hm : MayO x) (hi : x.i.length ≤ 4000) (h8 : k ≤ 8) (h0 : more ≠ []) (hl : more.length ≤ 4000) (hb : byt more 0 ≠ 48) (hd : DigB more) : MayO ⟨more ++ padI k x.i, x.v, x.w, x.f, x.t, x.e⟩ := by
  obtain ⟨m1, m2, m3, m4, m5, m6, m7, m8⟩ := hm
  refine ⟨m1, m2, m3, .inr ⟨by simp [h0], ?_, ?_, ?_⟩, m5, m6, m7, m8⟩
  · have := padI_len k x.i
    rw [List.length_append]
    omega
  · cases more with
    | nil => exact absurd rfl h0
    | cons a r => exact hb
  · refine digB_of fun c hc => ?_
    rcases List.mem_append.1 hc with hc | hc
    · exact digB_at hd c hc
    · unfold padI bare at hc
      rcases List.mem_append.1 hc with hc | hc
      · obtain rfl := (List.mem_replicate.1 hc).2
        decide
      · split at hc
        · cases hc
        · rename_i hn
          exact digB_at (m4.resolve_left hn).2.2.2 c hc

theorem rests_pick {x : OperT} {more L : List UInt8} {k : Nat} (op : UInt8) (hop : op = 105 ∨ op = 110) (h1 : 1 ≤ k) (h8 : k ≤ 8) (hL : ListB L) (hm : MayO x) (hi : x.i.length ≤ 4000) (h0 : more ≠ []) (hl : more.length ≤ 4000) (hb : byt more 0 ≠ 48) (hd : DigB more) :
    pickT (restsC op k L) x = pickT (restsC op k L) ⟨more ++ padI k x.i, x.v, x.w, x.f, x.t, x.e⟩ := by
  have hy := rests_may hm hi h8 h0 hl hb hd
  unfold pickT
  rcases rests_rules op k L hop h1 h8 hL with hr | ⟨rs, hr⟩
  · rw [hr]
  · rw [hr]
    dsimp only
    rw [if_pos hm, if_pos hy]
    have e : relH x ⟨op, 10 ^ k, false, rs⟩ = relH ⟨more ++ padI k x.i, x.v, x.w, x.f, x.t, x.e⟩ ⟨op, 10 ^ k, false, rs⟩ := by
      have ev : valT op (10 ^ k) ⟨more ++ padI k x.i, x.v, x.w, x.f, x.t, x.e⟩ = valT op (10 ^ k) x := by
        unfold valT
        rcases hop with rfl | rfl <;> simp [rests_val]
      unfold relH foundT
      dsimp only
      rw [ev]
    have ef : firstH x [(3, [[⟨op, 10 ^ k, false, rs⟩]])] = firstH ⟨more ++ padI k x.i, x.v, x.w, x.f, x.t, x.e⟩ [(3, [[⟨op, 10 ^ k, false, rs⟩]])] := by
      simp only [firstH, condH, allH, List.any_cons, List.any_nil, List.all_cons, List.all_nil, e]
      rfl
    rw [ef]

end Go.Proofs.YtijccekejfcheaaGreatDoor

namespace Go.Proofs.YtijccekejfcheaaGreatDoor
open Go.RowKit

theorem readCategory_is (t : Tok) (w : World) {o : Option Nat} (h : catT t = o) : Calls Tryz.prog 151 #[.string (mkB t)] w (Ans o IsNum w) := h ▸ readCategory_any t w

def IsEntry (y : (Nat × Nat) × Nat) (v : Value) (_ : World) : Prop := v = .agg #[.int .i64 (y.1.1 : Int), .int .i64 (y.1.2 : Int), .int .i64 (y.2 : Int)]

theorem Blk.put3 {w : World} {b : Nat} {t : TypeId} {x0 x1 x2 : Value} (h : Blk w b #[x0, x1, x2] t) (y0 y1 y2 : Value) : Blk (((w.setCell ⟨b, 0, none⟩ y0).setCell ⟨b, 1, none⟩ y1).setCell ⟨b, 2, none⟩ y2) b #[y0, y1, y2] t := by
  unfold Blk at *
  simp only [World.setCell, Array.getElem?_modify, if_true, h, Option.map_some]
  rfl

set_option maxHeartbeats 1000000 in
theorem ent_p (g off cap : Nat) (a p b c d : Tok) (hp : p ≠ [43]) (w : World) (hv : TokV w g off cap [a, p, b, c, d] (.slice (some ⟨g, off, none⟩) 5 cap)) :
    Calls Tryz.prog 110 #[.slice (some ⟨g, off, none⟩) 5 cap] w (Ans (none : Option ((Nat × Nat) × Nat)) IsEntry w) := by
  have BR := hide (Blk.newAt w w.heap.size rfl #[.int .i64 0, .int .i64 0, .int .i64 0] 138)
  have HB : Hid (Below w.heap.size w (w.alloc (.cells #[.int .i64 0, .int .i64 0, .int .i64 0] 138))) := (Below.refl w.heap.size w).alloc (Nat.le_refl _) _
  have HT := hide (hv.below HB.out)
  have hcap : 5 ≤ cap := hv.2.1
  have hcm : cap ≤ 9223372036854775807 := hv.2.2.1
  have hgn : ¬ g = w.heap.size := by have := hv.2.2.2.1; omega
  have hgm : ¬ w.heap.size = g := by have := hv.2.2.2.1; omega
  have r0 := HT.out.cell 0 _ rfl
  have r1 := HT.out.cell 1 _ rfl
  have r2 := HT.out.cell 2 _ rfl
  have r3 := HT.out.cell 3 _ rfl
  have r4 := HT.out.cell 4 _ rfl
  rw [Nat.add_zero] at r0
  have hq := ne_lit hp
  clear hp hv HT r0 r2 r3 r4 BR
  go_enter Tryz.func110, Tryz.ntmps110
  go_wp2
  exact ⟨rfl, Ans.panic rfl HB.out⟩

set_option maxHeartbeats 1000000 in
theorem ent_c (g off cap : Nat) (a b c d : Tok) (hc : c ≠ [58]) (w : World) (hv : TokV w g off cap [a, [43], b, c, d] (.slice (some ⟨g, off, none⟩) 5 cap)) :
    Calls Tryz.prog 110 #[.slice (some ⟨g, off, none⟩) 5 cap] w (Ans (none : Option ((Nat × Nat) × Nat)) IsEntry w) := by
  have BR := hide (Blk.newAt w w.heap.size rfl #[.int .i64 0, .int .i64 0, .int .i64 0] 138)
  have HB : Hid (Below w.heap.size w (w.alloc (.cells #[.int .i64 0, .int .i64 0, .int .i64 0] 138))) := (Below.refl w.heap.size w).alloc (Nat.le_refl _) _
  have HT := hide (hv.below HB.out)
  have hcap : 5 ≤ cap := hv.2.1
  have hcm : cap ≤ 9223372036854775807 := hv.2.2.1
  have hgn : ¬ g = w.heap.size := by have := hv.2.2.2.1; omega
  have hgm : ¬ w.heap.size = g := by have := hv.2.2.2.1; omega
  have r0 := HT.out.cell 0 _ rfl
  have r1 := HT.out.cell 1 _ rfl
  have r2 := HT.out.cell 2 _ rfl
  have r3 := HT.out.cell 3 _ rfl
  have r4 := HT.out.cell 4 _ rfl
  rw [Nat.add_zero] at r0
  rw [show mkB [43] = ⟨#[43]⟩ from rfl] at r1
  have hq := ne_lit hc
  clear hc hv HT r0 r2 r4 BR
  go_enter Tryz.func110, Tryz.ntmps110
  go_wp2
  exact ⟨rfl, Ans.panic rfl HB.out⟩

theorem ent_x (a : Option Addr) (n cap : Nat) (w : World) (h : n ≠ 5) : Calls Tryz.prog 110 #[.slice a n cap] w (Ans (none : Option ((Nat × Nat) × Nat)) IsEntry w) := by
  have HB : Hid (Below w.heap.size w (w.alloc (.cells #[.int .i64 0, .int .i64 0, .int .i64 0] 138))) := (Below.refl w.heap.size w).alloc (Nat.le_refl _) _
  have q1 : ((n : Int) != 5) = true := by rw [bne_iff_ne]; omega
  clear h
  go_enter Tryz.func110, Tryz.ntmps110
  go_wp2
  exact ⟨rfl, Ans.panic rfl HB.out⟩

set_option maxHeartbeats 1000000 in
theorem ent_y (g off cap : Nat) (a b d : Tok) (x y z : Nat) (h0 : catT a = some x) (h1 : catT b = some y) (h2 : catT d = some z) (w : World) (hv : TokV w g off cap [a, [43], b, [58], d] (.slice (some ⟨g, off, none⟩) 5 cap)) :
    Calls Tryz.prog 110 #[.slice (some ⟨g, off, none⟩) 5 cap] w (Ans (some ((x, y), z)) IsEntry w) := by
  have BR := hide (Blk.newAt w w.heap.size rfl #[.int .i64 0, .int .i64 0, .int .i64 0] 138)
  have HB : Hid (Below w.heap.size w (w.alloc (.cells #[.int .i64 0, .int .i64 0, .int .i64 0] 138))) := (Below.refl w.heap.size w).alloc (Nat.le_refl _) _
  have HT := hide (hv.below HB.out)
  have hcap : 5 ≤ cap := hv.2.1
  have hcm : cap ≤ 9223372036854775807 := hv.2.2.1
  have hgn : ¬ g = w.heap.size := by have := hv.2.2.2.1; omega
  have hgm : ¬ w.heap.size = g := by have := hv.2.2.2.1; omega
  have r0 := HT.out.cell 0 _ rfl
  have r1 := HT.out.cell 1 _ rfl
  have r2 := HT.out.cell 2 _ rfl
  have r3 := HT.out.cell 3 _ rfl
  have r4 := HT.out.cell 4 _ rfl
  rw [Nat.add_zero] at r0
  rw [show mkB [43] = ⟨#[43]⟩ from rfl] at r1
  rw [show mkB [58] = ⟨#[58]⟩ from rfl] at r3
  have HLT := hide (HT.out.2.2.2.1)
  have HC : Hid (∀ w', Below (w.alloc (.cells #[.int .i64 0, .int .i64 0, .int .i64 0] 138)).heap.size (w.alloc (.cells #[.int .i64 0, .int .i64 0, .int .i64 0] 138)) w' → w'.cell? ⟨g, off, none⟩ = some (.string (mkB a)) ∧ w'.cell? ⟨g, off + 2, none⟩ = some (.string (mkB b)) ∧ w'.cell? ⟨g, off + 4, none⟩ = some (.string (mkB d))) := fun w' hb => ⟨(hb.cell (p := ⟨g, off, none⟩) HLT.out).trans r0, (hb.cell (p := ⟨g, off + 2, none⟩) HLT.out).trans r2, (hb.cell (p := ⟨g, off + 4, none⟩) HLT.out).trans r4⟩
  have b0 : Hid (Below (w.alloc (.cells #[.int .i64 0, .int .i64 0, .int .i64 0] 138)).heap.size (w.alloc (.cells #[.int .i64 0, .int .i64 0, .int .i64 0] 138)) (w.alloc (.cells #[.int .i64 0, .int .i64 0, .int .i64 0] 138)).drew) := bdrewD (w.alloc (.cells #[.int .i64 0, .int .i64 0, .int .i64 0] 138))
  have C0 : Hid (∀ X, Hid (Below (w.alloc (.cells #[.int .i64 0, .int .i64 0, .int .i64 0] 138)).heap.size (w.alloc (.cells #[.int .i64 0, .int .i64 0, .int .i64 0] 138)) X) → Calls Tryz.prog 151 #[.string (mkB a)] X fun e w' => e = .returned (.int .i64 (x : Int)) ∧ Hid (Below (w.alloc (.cells #[.int .i64 0, .int .i64 0, .int .i64 0] 138)).heap.size (w.alloc (.cells #[.int .i64 0, .int .i64 0, .int .i64 0] 138)) w') ∧ w'.cell? ⟨g, off, none⟩ = some (.string (mkB a)) ∧ w'.cell? ⟨g, off + 2, none⟩ = some (.string (mkB b)) ∧ w'.cell? ⟨g, off + 4, none⟩ = some (.string (mkB d))) := by
    intro X bX
    refine (readCategory_is a X h0).mono ?_
    rintro e w' ⟨hb, v, rfl, rfl⟩
    have bb := bX.out.trans (hb.mono bX.out.size)
    exact ⟨rfl, bb, HC.out _ bb⟩
  have C1 : Hid (∀ X, Hid (Below (w.alloc (.cells #[.int .i64 0, .int .i64 0, .int .i64 0] 138)).heap.size (w.alloc (.cells #[.int .i64 0, .int .i64 0, .int .i64 0] 138)) X) → Calls Tryz.prog 151 #[.string (mkB b)] X fun e w' => e = .returned (.int .i64 (y : Int)) ∧ Hid (Below (w.alloc (.cells #[.int .i64 0, .int .i64 0, .int .i64 0] 138)).heap.size (w.alloc (.cells #[.int .i64 0, .int .i64 0, .int .i64 0] 138)) w') ∧ w'.cell? ⟨g, off, none⟩ = some (.string (mkB a)) ∧ w'.cell? ⟨g, off + 2, none⟩ = some (.string (mkB b)) ∧ w'.cell? ⟨g, off + 4, none⟩ = some (.string (mkB d))) := by
    intro X bX
    refine (readCategory_is b X h1).mono ?_
    rintro e w' ⟨hb, v, rfl, rfl⟩
    have bb := bX.out.trans (hb.mono bX.out.size)
    exact ⟨rfl, bb, HC.out _ bb⟩
  have C2 : Hid (∀ X, Hid (Below (w.alloc (.cells #[.int .i64 0, .int .i64 0, .int .i64 0] 138)).heap.size (w.alloc (.cells #[.int .i64 0, .int .i64 0, .int .i64 0] 138)) X) → Calls Tryz.prog 151 #[.string (mkB d)] X fun e w' => e = .returned (.int .i64 (z : Int)) ∧ Hid (Below (w.alloc (.cells #[.int .i64 0, .int .i64 0, .int .i64 0] 138)).heap.size (w.alloc (.cells #[.int .i64 0, .int .i64 0, .int .i64 0] 138)) w') ∧ w'.cell? ⟨g, off, none⟩ = some (.string (mkB a)) ∧ w'.cell? ⟨g, off + 2, none⟩ = some (.string (mkB b)) ∧ w'.cell? ⟨g, off + 4, none⟩ = some (.string (mkB d))) := by
    intro X bX
    refine (readCategory_is d X h2).mono ?_
    rintro e w' ⟨hb, v, rfl, rfl⟩
    have bb := bX.out.trans (hb.mono bX.out.size)
    exact ⟨rfl, bb, HC.out _ bb⟩
  clear hv HT HC HLT h0 h1 h2
  go_enter Tryz.func110, Tryz.ntmps110
  go_wp2_with fail
  refine wp_region_held_drew (S := (fun w' => w'.cell? ⟨g, off, none⟩ = some (.string (mkB a)) ∧ w'.cell? ⟨g, off + 2, none⟩ = some (.string (mkB b)) ∧ w'.cell? ⟨g, off + 4, none⟩ = some (.string (mkB d)))) (by kernel_rfl) ?_ (fun hHeld => ?_)
  · (try dsimp only)
    go_keep
  refine wpAnyH_take (i := 0) (oi := Oper.mk (some 19) _ _ _ _ _) (v := .slice (some ⟨g, off, none⟩) 5 cap) rfl (by kernel_rfl) (by kernel_rfl) (by kernel_rfl) (fun _ _ _ h => h) (Or.inl ⟨by rfl, ?_⟩) (by assumption) ?_
  · intro wX hSw
    (try dsimp only at hSw)
    go_simp
  simp only [Act.put, List.setIfInBounds_toArray, List.set_cons_succ, List.set_cons_zero]
  refine wpAnyH_take (i := 1) (oi := Oper.mk (some 20) _ _ _ _ _) (v := .pointer (some ⟨g, off, none⟩)) rfl (by kernel_rfl) (by kernel_rfl) (by kernel_rfl) (fun _ _ _ h => h) (Or.inl ⟨by rfl, ?_⟩) (by assumption) ?_
  · intro wX hSw
    (try dsimp only at hSw)
    go_simp
  simp only [Act.put, List.setIfInBounds_toArray, List.set_cons_succ, List.set_cons_zero]
  refine wpAnyH_take (i := 2) (oi := Oper.mk (some 21) _ _ _ _ _) (v := .string (mkB a)) rfl (by kernel_rfl) (by kernel_rfl) (by kernel_rfl) (fun _ _ _ h => h) (Or.inl ⟨by rfl, ?_⟩) (by assumption) ?_
  · intro wX hSw
    (try dsimp only at hSw)
    go_simp
  simp only [Act.put, List.setIfInBounds_toArray, List.set_cons_succ, List.set_cons_zero]
  refine wpAnyH_take (i := 4) (oi := Oper.mk (some 23) _ _ _ _ _) (v := .slice (some ⟨g, off, none⟩) 5 cap) rfl (by kernel_rfl) (by kernel_rfl) (by kernel_rfl) (fun _ _ _ h => h) (Or.inl ⟨by rfl, ?_⟩) (by assumption) ?_
  · intro wX hSw
    (try dsimp only at hSw)
    go_simp
  simp only [Act.put, List.setIfInBounds_toArray, List.set_cons_succ, List.set_cons_zero]
  refine wpAnyH_take (i := 5) (oi := Oper.mk (some 24) _ _ _ _ _) (v := .pointer (some ⟨g, off + 2, none⟩)) rfl (by kernel_rfl) (by kernel_rfl) (by kernel_rfl) (fun _ _ _ h => h) (Or.inl ⟨by rfl, ?_⟩) (by assumption) ?_
  · intro wX hSw
    (try dsimp only at hSw)
    go_simp
  simp only [Act.put, List.setIfInBounds_toArray, List.set_cons_succ, List.set_cons_zero]
  refine wpAnyH_take (i := 6) (oi := Oper.mk (some 25) _ _ _ _ _) (v := .string (mkB b)) rfl (by kernel_rfl) (by kernel_rfl) (by kernel_rfl) (fun _ _ _ h => h) (Or.inl ⟨by rfl, ?_⟩) (by assumption) ?_
  · intro wX hSw
    (try dsimp only at hSw)
    go_simp
  simp only [Act.put, List.setIfInBounds_toArray, List.set_cons_succ, List.set_cons_zero]
  refine wpAnyH_take (i := 8) (oi := Oper.mk (some 27) _ _ _ _ _) (v := .slice (some ⟨g, off, none⟩) 5 cap) rfl (by kernel_rfl) (by kernel_rfl) (by kernel_rfl) (fun _ _ _ h => h) (Or.inl ⟨by rfl, ?_⟩) (by assumption) ?_
  · intro wX hSw
    (try dsimp only at hSw)
    go_simp
  simp only [Act.put, List.setIfInBounds_toArray, List.set_cons_succ, List.set_cons_zero]
  refine wpAnyH_take (i := 9) (oi := Oper.mk (some 28) _ _ _ _ _) (v := .pointer (some ⟨g, off + 4, none⟩)) rfl (by kernel_rfl) (by kernel_rfl) (by kernel_rfl) (fun _ _ _ h => h) (Or.inl ⟨by rfl, ?_⟩) (by assumption) ?_
  · intro wX hSw
    (try dsimp only at hSw)
    go_simp
  simp only [Act.put, List.setIfInBounds_toArray, List.set_cons_succ, List.set_cons_zero]
  refine wpAnyH_take (i := 10) (oi := Oper.mk (some 29) _ _ _ _ _) (v := .string (mkB d)) rfl (by kernel_rfl) (by kernel_rfl) (by kernel_rfl) (fun _ _ _ h => h) (Or.inl ⟨by rfl, ?_⟩) (by assumption) ?_
  · intro wX hSw
    (try dsimp only at hSw)
    go_simp
  simp only [Act.put, List.setIfInBounds_toArray, List.set_cons_succ, List.set_cons_zero]
  refine wpAnyH_ready (rs := [3]) (by kernel_rfl) (by simp) ?_
  refine AllReadyH.cons (o := Oper.mk (some 22) _ _ _ _ _) rfl (fun K hK => ?_) AllReadyH.nil
  go_simp
  refine (C0.out _ b0).mono ?_
  rintro e v1 ⟨rfl, b1, q00, q01, q02⟩
  refine hK.out _ _ ?_ (fun hHeld => ?_)
  · (try dsimp only)
    go_keep
  clear hK K
  refine wpAnyH_ready (rs := [7]) (by kernel_rfl) (by simp) ?_
  refine AllReadyH.cons (o := Oper.mk (some 26) _ _ _ _ _) rfl (fun K hK => ?_) AllReadyH.nil
  go_simp
  refine (C1.out _ b1).mono ?_
  rintro e v2 ⟨rfl, b2, q10, q11, q12⟩
  refine hK.out _ _ ?_ (fun hHeld => ?_)
  · (try dsimp only)
    go_keep
  clear hK K
  refine wpAnyH_ready (rs := [11]) (by kernel_rfl) (by simp) ?_
  refine AllReadyH.cons (o := Oper.mk (some 30) _ _ _ _ _) rfl (fun K hK => ?_) AllReadyH.nil
  go_simp
  refine (C2.out _ b2).mono ?_
  rintro e v3 ⟨rfl, b3, q20, q21, q22⟩
  have HB1 := hide (HB.out.trans (b3.out.mono HB.out.size))
  have BR1 := Blk.on BR b3.out
  obtain ⟨f0, f1, f2⟩ : v3.frozen? ⟨w.heap.size, 0, none⟩ = false ∧ v3.frozen? ⟨w.heap.size, 1, none⟩ = false ∧ v3.frozen? ⟨w.heap.size, 2, none⟩ = false := ⟨BR1.out.free 0, BR1.out.free 1, BR1.out.free 2⟩
  have c0 := BR1.out.cell 0
  have c1 := BR1.out.cell 1
  have c2 := BR1.out.cell 2
  simp at c0 c1 c2
  refine hK.out _ _ ?_ (fun hHeld => ?_)
  · (try dsimp only)
    go_keep
  clear hK K
  refine wpAnyH_take (i := 12) (oi := Oper.mk (some 31) _ _ _ _ _) (v := .agg #[.int .i64 (x : Int), .int .i64 (y : Int), .int .i64 (z : Int)]) rfl (by kernel_rfl) (by kernel_rfl) (by kernel_rfl) (fun _ _ _ h => h) (Or.inl ⟨by rfl, ?_⟩) (by assumption) ?_
  · intro wX hSw
    (try dsimp only at hSw)
    go_simp
  simp only [Act.put, List.setIfInBounds_toArray, List.set_cons_succ, List.set_cons_zero]
  refine wpAnyH_ready (rs := [13]) (by kernel_rfl) (by simp) ?_
  refine AllReadyH.cons (o := Oper.mk none _ _ _ _ _) rfl (fun K hK => ?_) AllReadyH.nil
  go_simp
  refine hK.out _ _ ?_ (fun hHeld => ?_)
  · (try dsimp only)
    go_keep
  clear hK K
  refine wpAnyH_done (by kernel_rfl) ?_ _
  go_wp2
  refine bodyPost_ret (results_entry rfl _ _ _ _ _ _ rfl (BR1.out.put3 _ _ _)) rfl ?_
  exact Ans.ret rfl (((HB1.out.setCell (p := ⟨w.heap.size, 0, none⟩) (Nat.le_refl _) _).setCell (p := ⟨w.heap.size, 1, none⟩) (Nat.le_refl _) _).setCell (p := ⟨w.heap.size, 2, none⟩) (Nat.le_refl _) _) rfl

set_option maxHeartbeats 1000000 in
theorem ent_2 (g off cap : Nat) (a b d : Tok) (x y : Nat) (h0 : catT a = some x) (h1 : catT b = some y) (h2 : catT d = none) (w : World) (hv : TokV w g off cap [a, [43], b, [58], d] (.slice (some ⟨g, off, none⟩) 5 cap)) :
    Calls Tryz.prog 110 #[.slice (some ⟨g, off, none⟩) 5 cap] w (Ans (none : Option ((Nat × Nat) × Nat)) IsEntry w) := by
  have BR := hide (Blk.newAt w w.heap.size rfl #[.int .i64 0, .int .i64 0, .int .i64 0] 138)
  have HB : Hid (Below w.heap.size w (w.alloc (.cells #[.int .i64 0, .int .i64 0, .int .i64 0] 138))) := (Below.refl w.heap.size w).alloc (Nat.le_refl _) _
  have HT := hide (hv.below HB.out)
  have hcap : 5 ≤ cap := hv.2.1
  have hcm : cap ≤ 9223372036854775807 := hv.2.2.1
  have hgn : ¬ g = w.heap.size := by have := hv.2.2.2.1; omega
  have hgm : ¬ w.heap.size = g := by have := hv.2.2.2.1; omega
  have r0 := HT.out.cell 0 _ rfl
  have r1 := HT.out.cell 1 _ rfl
  have r2 := HT.out.cell 2 _ rfl
  have r3 := HT.out.cell 3 _ rfl
  have r4 := HT.out.cell 4 _ rfl
  rw [Nat.add_zero] at r0
  rw [show mkB [43] = ⟨#[43]⟩ from rfl] at r1
  rw [show mkB [58] = ⟨#[58]⟩ from rfl] at r3
  have HLT := hide (HT.out.2.2.2.1)
  have HC : Hid (∀ w', Below (w.alloc (.cells #[.int .i64 0, .int .i64 0, .int .i64 0] 138)).heap.size (w.alloc (.cells #[.int .i64 0, .int .i64 0, .int .i64 0] 138)) w' → w'.cell? ⟨g, off, none⟩ = some (.string (mkB a)) ∧ w'.cell? ⟨g, off + 2, none⟩ = some (.string (mkB b)) ∧ w'.cell? ⟨g, off + 4, none⟩ = some (.string (mkB d))) := fun w' hb => ⟨(hb.cell (p := ⟨g, off, none⟩) HLT.out).trans r0, (hb.cell (p := ⟨g, off + 2, none⟩) HLT.out).trans r2, (hb.cell (p := ⟨g, off + 4, none⟩) HLT.out).trans r4⟩
  have b0 : Hid (Below (w.alloc (.cells #[.int .i64 0, .int .i64 0, .int .i64 0] 138)).heap.size (w.alloc (.cells #[.int .i64 0, .int .i64 0, .int .i64 0] 138)) (w.alloc (.cells #[.int .i64 0, .int .i64 0, .int .i64 0] 138)).drew) := bdrewD (w.alloc (.cells #[.int .i64 0, .int .i64 0, .int .i64 0] 138))
  have C0 : Hid (∀ X, Hid (Below (w.alloc (.cells #[.int .i64 0, .int .i64 0, .int .i64 0] 138)).heap.size (w.alloc (.cells #[.int .i64 0, .int .i64 0, .int .i64 0] 138)) X) → Calls Tryz.prog 151 #[.string (mkB a)] X fun e w' => e = .returned (.int .i64 (x : Int)) ∧ Hid (Below (w.alloc (.cells #[.int .i64 0, .int .i64 0, .int .i64 0] 138)).heap.size (w.alloc (.cells #[.int .i64 0, .int .i64 0, .int .i64 0] 138)) w') ∧ w'.cell? ⟨g, off, none⟩ = some (.string (mkB a)) ∧ w'.cell? ⟨g, off + 2, none⟩ = some (.string (mkB b)) ∧ w'.cell? ⟨g, off + 4, none⟩ = some (.string (mkB d))) := by
    intro X bX
    refine (readCategory_is a X h0).mono ?_
    rintro e w' ⟨hb, v, rfl, rfl⟩
    have bb := bX.out.trans (hb.mono bX.out.size)
    exact ⟨rfl, bb, HC.out _ bb⟩
  have C1 : Hid (∀ X, Hid (Below (w.alloc (.cells #[.int .i64 0, .int .i64 0, .int .i64 0] 138)).heap.size (w.alloc (.cells #[.int .i64 0, .int .i64 0, .int .i64 0] 138)) X) → Calls Tryz.prog 151 #[.string (mkB b)] X fun e w' => e = .returned (.int .i64 (y : Int)) ∧ Hid (Below (w.alloc (.cells #[.int .i64 0, .int .i64 0, .int .i64 0] 138)).heap.size (w.alloc (.cells #[.int .i64 0, .int .i64 0, .int .i64 0] 138)) w') ∧ w'.cell? ⟨g, off, none⟩ = some (.string (mkB a)) ∧ w'.cell? ⟨g, off + 2, none⟩ = some (.string (mkB b)) ∧ w'.cell? ⟨g, off + 4, none⟩ = some (.string (mkB d))) := by
    intro X bX
    refine (readCategory_is b X h1).mono ?_
    rintro e w' ⟨hb, v, rfl, rfl⟩
    have bb := bX.out.trans (hb.mono bX.out.size)
    exact ⟨rfl, bb, HC.out _ bb⟩
  have C2 : Hid (∀ X, Hid (Below (w.alloc (.cells #[.int .i64 0, .int .i64 0, .int .i64 0] 138)).heap.size (w.alloc (.cells #[.int .i64 0, .int .i64 0, .int .i64 0] 138)) X) → Calls Tryz.prog 151 #[.string (mkB d)] X fun e w' => e = .panicked PC ∧ Hid (Below (w.alloc (.cells #[.int .i64 0, .int .i64 0, .int .i64 0] 138)).heap.size (w.alloc (.cells #[.int .i64 0, .int .i64 0, .int .i64 0] 138)) w')) := by
    intro X bX
    refine (readCategory_is d X h2).mono ?_
    rintro e w' ⟨hb, rfl⟩
    exact ⟨rfl, bX.out.trans (hb.mono bX.out.size)⟩
  clear hv HT HC HLT h0 h1 h2 hgn hgm
  go_enter Tryz.func110, Tryz.ntmps110
  go_wp2_with fail
  refine wp_region_held_drew (S := (fun w' => w'.cell? ⟨g, off, none⟩ = some (.string (mkB a)) ∧ w'.cell? ⟨g, off + 2, none⟩ = some (.string (mkB b)) ∧ w'.cell? ⟨g, off + 4, none⟩ = some (.string (mkB d)))) (by kernel_rfl) ?_ (fun hHeld => ?_)
  · (try dsimp only)
    go_keep
  refine wpAnyH_take (i := 0) (oi := Oper.mk (some 19) _ _ _ _ _) (v := .slice (some ⟨g, off, none⟩) 5 cap) rfl (by kernel_rfl) (by kernel_rfl) (by kernel_rfl) (fun _ _ _ h => h) (Or.inl ⟨by rfl, ?_⟩) (by assumption) ?_
  · intro wX hSw
    (try dsimp only at hSw)
    go_simp
  simp only [Act.put, List.setIfInBounds_toArray, List.set_cons_succ, List.set_cons_zero]
  refine wpAnyH_take (i := 1) (oi := Oper.mk (some 20) _ _ _ _ _) (v := .pointer (some ⟨g, off, none⟩)) rfl (by kernel_rfl) (by kernel_rfl) (by kernel_rfl) (fun _ _ _ h => h) (Or.inl ⟨by rfl, ?_⟩) (by assumption) ?_
  · intro wX hSw
    (try dsimp only at hSw)
    go_simp
  simp only [Act.put, List.setIfInBounds_toArray, List.set_cons_succ, List.set_cons_zero]
  refine wpAnyH_take (i := 2) (oi := Oper.mk (some 21) _ _ _ _ _) (v := .string (mkB a)) rfl (by kernel_rfl) (by kernel_rfl) (by kernel_rfl) (fun _ _ _ h => h) (Or.inl ⟨by rfl, ?_⟩) (by assumption) ?_
  · intro wX hSw
    (try dsimp only at hSw)
    go_simp
  simp only [Act.put, List.setIfInBounds_toArray, List.set_cons_succ, List.set_cons_zero]
  refine wpAnyH_take (i := 4) (oi := Oper.mk (some 23) _ _ _ _ _) (v := .slice (some ⟨g, off, none⟩) 5 cap) rfl (by kernel_rfl) (by kernel_rfl) (by kernel_rfl) (fun _ _ _ h => h) (Or.inl ⟨by rfl, ?_⟩) (by assumption) ?_
  · intro wX hSw
    (try dsimp only at hSw)
    go_simp
  simp only [Act.put, List.setIfInBounds_toArray, List.set_cons_succ, List.set_cons_zero]
  refine wpAnyH_take (i := 5) (oi := Oper.mk (some 24) _ _ _ _ _) (v := .pointer (some ⟨g, off + 2, none⟩)) rfl (by kernel_rfl) (by kernel_rfl) (by kernel_rfl) (fun _ _ _ h => h) (Or.inl ⟨by rfl, ?_⟩) (by assumption) ?_
  · intro wX hSw
    (try dsimp only at hSw)
    go_simp
  simp only [Act.put, List.setIfInBounds_toArray, List.set_cons_succ, List.set_cons_zero]
  refine wpAnyH_take (i := 6) (oi := Oper.mk (some 25) _ _ _ _ _) (v := .string (mkB b)) rfl (by kernel_rfl) (by kernel_rfl) (by kernel_rfl) (fun _ _ _ h => h) (Or.inl ⟨by rfl, ?_⟩) (by assumption) ?_
  · intro wX hSw
    (try dsimp only at hSw)
    go_simp
  simp only [Act.put, List.setIfInBounds_toArray, List.set_cons_succ, List.set_cons_zero]
  refine wpAnyH_take (i := 8) (oi := Oper.mk (some 27) _ _ _ _ _) (v := .slice (some ⟨g, off, none⟩) 5 cap) rfl (by kernel_rfl) (by kernel_rfl) (by kernel_rfl) (fun _ _ _ h => h) (Or.inl ⟨by rfl, ?_⟩) (by assumption) ?_
  · intro wX hSw
    (try dsimp only at hSw)
    go_simp
  simp only [Act.put, List.setIfInBounds_toArray, List.set_cons_succ, List.set_cons_zero]
  refine wpAnyH_take (i := 9) (oi := Oper.mk (some 28) _ _ _ _ _) (v := .pointer (some ⟨g, off + 4, none⟩)) rfl (by kernel_rfl) (by kernel_rfl) (by kernel_rfl) (fun _ _ _ h => h) (Or.inl ⟨by rfl, ?_⟩) (by assumption) ?_
  · intro wX hSw
    (try dsimp only at hSw)
    go_simp
  simp only [Act.put, List.setIfInBounds_toArray, List.set_cons_succ, List.set_cons_zero]
  refine wpAnyH_take (i := 10) (oi := Oper.mk (some 29) _ _ _ _ _) (v := .string (mkB d)) rfl (by kernel_rfl) (by kernel_rfl) (by kernel_rfl) (fun _ _ _ h => h) (Or.inl ⟨by rfl, ?_⟩) (by assumption) ?_
  · intro wX hSw
    (try dsimp only at hSw)
    go_simp
  simp only [Act.put, List.setIfInBounds_toArray, List.set_cons_succ, List.set_cons_zero]
  refine wpAnyH_ready (rs := [3]) (by kernel_rfl) (by simp) ?_
  refine AllReadyH.cons (o := Oper.mk (some 22) _ _ _ _ _) rfl (fun K hK => ?_) AllReadyH.nil
  go_simp
  refine (C0.out _ b0).mono ?_
  rintro e v1 ⟨rfl, b1, q00, q01, q02⟩
  refine hK.out _ _ ?_ (fun hHeld => ?_)
  · (try dsimp only)
    go_keep
  clear hK K
  refine wpAnyH_ready (rs := [7]) (by kernel_rfl) (by simp) ?_
  refine AllReadyH.cons (o := Oper.mk (some 26) _ _ _ _ _) rfl (fun K hK => ?_) AllReadyH.nil
  go_simp
  refine (C1.out _ b1).mono ?_
  rintro e v2 ⟨rfl, b2, q10, q11, q12⟩
  refine hK.out _ _ ?_ (fun hHeld => ?_)
  · (try dsimp only)
    go_keep
  clear hK K
  refine wpAnyH_ready (rs := [11]) (by kernel_rfl) (by simp) ?_
  refine AllReadyH.cons (o := Oper.mk (some 30) _ _ _ _ _) rfl (fun K hK => ?_) AllReadyH.nil
  go_simp
  refine (C2.out _ b2).mono ?_
  rintro e v3 ⟨rfl, b3⟩
  exact ⟨rfl, Ans.panic rfl (HB.out.trans (b3.out.mono HB.out.size))⟩

set_option maxHeartbeats 1000000 in
theorem ent_1 (g off cap : Nat) (a b d : Tok) (x : Nat) (h0 : catT a = some x) (h1 : catT b = none) (w : World) (hv : TokV w g off cap [a, [43], b, [58], d] (.slice (some ⟨g, off, none⟩) 5 cap)) :
    Calls Tryz.prog 110 #[.slice (some ⟨g, off, none⟩) 5 cap] w (Ans (none : Option ((Nat × Nat) × Nat)) IsEntry w) := by
  have BR := hide (Blk.newAt w w.heap.size rfl #[.int .i64 0, .int .i64 0, .int .i64 0] 138)
  have HB : Hid (Below w.heap.size w (w.alloc (.cells #[.int .i64 0, .int .i64 0, .int .i64 0] 138))) := (Below.refl w.heap.size w).alloc (Nat.le_refl _) _
  have HT := hide (hv.below HB.out)
  have hcap : 5 ≤ cap := hv.2.1
  have hcm : cap ≤ 9223372036854775807 := hv.2.2.1
  have hgn : ¬ g = w.heap.size := by have := hv.2.2.2.1; omega
  have hgm : ¬ w.heap.size = g := by have := hv.2.2.2.1; omega
  have r0 := HT.out.cell 0 _ rfl
  have r1 := HT.out.cell 1 _ rfl
  have r2 := HT.out.cell 2 _ rfl
  have r3 := HT.out.cell 3 _ rfl
  have r4 := HT.out.cell 4 _ rfl
  rw [Nat.add_zero] at r0
  rw [show mkB [43] = ⟨#[43]⟩ from rfl] at r1
  rw [show mkB [58] = ⟨#[58]⟩ from rfl] at r3
  have HLT := hide (HT.out.2.2.2.1)
  have HC : Hid (∀ w', Below (w.alloc (.cells #[.int .i64 0, .int .i64 0, .int .i64 0] 138)).heap.size (w.alloc (.cells #[.int .i64 0, .int .i64 0, .int .i64 0] 138)) w' → w'.cell? ⟨g, off, none⟩ = some (.string (mkB a)) ∧ w'.cell? ⟨g, off + 2, none⟩ = some (.string (mkB b)) ∧ w'.cell? ⟨g, off + 4, none⟩ = some (.string (mkB d))) := fun w' hb => ⟨(hb.cell (p := ⟨g, off, none⟩) HLT.out).trans r0, (hb.cell (p := ⟨g, off + 2, none⟩) HLT.out).trans r2, (hb.cell (p := ⟨g, off + 4, none⟩) HLT.out).trans r4⟩
  have b0 : Hid (Below (w.alloc (.cells #[.int .i64 0, .int .i64 0, .int .i64 0] 138)).heap.size (w.alloc (.cells #[.int .i64 0, .int .i64 0, .int .i64 0] 138)) (w.alloc (.cells #[.int .i64 0, .int .i64 0, .int .i64 0] 138)).drew) := bdrewD (w.alloc (.cells #[.int .i64 0, .int .i64 0, .int .i64 0] 138))
  have C0 : Hid (∀ X, Hid (Below (w.alloc (.cells #[.int .i64 0, .int .i64 0, .int .i64 0] 138)).heap.size (w.alloc (.cells #[.int .i64 0, .int .i64 0, .int .i64 0] 138)) X) → Calls Tryz.prog 151 #[.string (mkB a)] X fun e w' => e = .returned (.int .i64 (x : Int)) ∧ Hid (Below (w.alloc (.cells #[.int .i64 0, .int .i64 0, .int .i64 0] 138)).heap.size (w.alloc (.cells #[.int .i64 0, .int .i64 0, .int .i64 0] 138)) w') ∧ w'.cell? ⟨g, off, none⟩ = some (.string (mkB a)) ∧ w'.cell? ⟨g, off + 2, none⟩ = some (.string (mkB b)) ∧ w'.cell? ⟨g, off + 4, none⟩ = some (.string (mkB d))) := by
    intro X bX
    refine (readCategory_is a X h0).mono ?_
    rintro e w' ⟨hb, v, rfl, rfl⟩
    have bb := bX.out.trans (hb.mono bX.out.size)
    exact ⟨rfl, bb, HC.out _ bb⟩
  have C1 : Hid (∀ X, Hid (Below (w.alloc (.cells #[.int .i64 0, .int .i64 0, .int .i64 0] 138)).heap.size (w.alloc (.cells #[.int .i64 0, .int .i64 0, .int .i64 0] 138)) X) → Calls Tryz.prog 151 #[.string (mkB b)] X fun e w' => e = .panicked PC ∧ Hid (Below (w.alloc (.cells #[.int .i64 0, .int .i64 0, .int .i64 0] 138)).heap.size (w.alloc (.cells #[.int .i64 0, .int .i64 0, .int .i64 0] 138)) w')) := by
    intro X bX
    refine (readCategory_is b X h1).mono ?_
    rintro e w' ⟨hb, rfl⟩
    exact ⟨rfl, bX.out.trans (hb.mono bX.out.size)⟩
  clear hv HT HC HLT h0 h1 hgn hgm
  go_enter Tryz.func110, Tryz.ntmps110
  go_wp2_with fail
  refine wp_region_held_drew (S := (fun w' => w'.cell? ⟨g, off, none⟩ = some (.string (mkB a)) ∧ w'.cell? ⟨g, off + 2, none⟩ = some (.string (mkB b)) ∧ w'.cell? ⟨g, off + 4, none⟩ = some (.string (mkB d)))) (by kernel_rfl) ?_ (fun hHeld => ?_)
  · (try dsimp only)
    go_keep
  refine wpAnyH_take (i := 0) (oi := Oper.mk (some 19) _ _ _ _ _) (v := .slice (some ⟨g, off, none⟩) 5 cap) rfl (by kernel_rfl) (by kernel_rfl) (by kernel_rfl) (fun _ _ _ h => h) (Or.inl ⟨by rfl, ?_⟩) (by assumption) ?_
  · intro wX hSw
    (try dsimp only at hSw)
    go_simp
  simp only [Act.put, List.setIfInBounds_toArray, List.set_cons_succ, List.set_cons_zero]
  refine wpAnyH_take (i := 1) (oi := Oper.mk (some 20) _ _ _ _ _) (v := .pointer (some ⟨g, off, none⟩)) rfl (by kernel_rfl) (by kernel_rfl) (by kernel_rfl) (fun _ _ _ h => h) (Or.inl ⟨by rfl, ?_⟩) (by assumption) ?_
  · intro wX hSw
    (try dsimp only at hSw)
    go_simp
  simp only [Act.put, List.setIfInBounds_toArray, List.set_cons_succ, List.set_cons_zero]
  refine wpAnyH_take (i := 2) (oi := Oper.mk (some 21) _ _ _ _ _) (v := .string (mkB a)) rfl (by kernel_rfl) (by kernel_rfl) (by kernel_rfl) (fun _ _ _ h => h) (Or.inl ⟨by rfl, ?_⟩) (by assumption) ?_
  · intro wX hSw
    (try dsimp only at hSw)
    go_simp
  simp only [Act.put, List.setIfInBounds_toArray, List.set_cons_succ, List.set_cons_zero]
  refine wpAnyH_take (i := 4) (oi := Oper.mk (some 23) _ _ _ _ _) (v := .slice (some ⟨g, off, none⟩) 5 cap) rfl (by kernel_rfl) (by kernel_rfl) (by kernel_rfl) (fun _ _ _ h => h) (Or.inl ⟨by rfl, ?_⟩) (by assumption) ?_
  · intro wX hSw
    (try dsimp only at hSw)
    go_simp
  simp only [Act.put, List.setIfInBounds_toArray, List.set_cons_succ, List.set_cons_zero]
  refine wpAnyH_take (i := 5) (oi := Oper.mk (some 24) _ _ _ _ _) (v := .pointer (some ⟨g, off + 2, none⟩)) rfl (by kernel_rfl) (by kernel_rfl) (by kernel_rfl) (fun _ _ _ h => h) (Or.inl ⟨by rfl, ?_⟩) (by assumption) ?_
  · intro wX hSw
    (try dsimp only at hSw)
    go_simp
  simp only [Act.put, List.setIfInBounds_toArray, List.set_cons_succ, List.set_cons_zero]
  refine wpAnyH_take (i := 6) (oi := Oper.mk (some 25) _ _ _ _ _) (v := .string (mkB b)) rfl (by kernel_rfl) (by kernel_rfl) (by kernel_rfl) (fun _ _ _ h => h) (Or.inl ⟨by rfl, ?_⟩) (by assumption) ?_
  · intro wX hSw
    (try dsimp only at hSw)
    go_simp
  simp only [Act.put, List.setIfInBounds_toArray, List.set_cons_succ, List.set_cons_zero]
  refine wpAnyH_take (i := 8) (oi := Oper.mk (some 27) _ _ _ _ _) (v := .slice (some ⟨g, off, none⟩) 5 cap) rfl (by kernel_rfl) (by kernel_rfl) (by kernel_rfl) (fun _ _ _ h => h) (Or.inl ⟨by rfl, ?_⟩) (by assumption) ?_
  · intro wX hSw
    (try dsimp only at hSw)
    go_simp
  simp only [Act.put, List.setIfInBounds_toArray, List.set_cons_succ, List.set_cons_zero]
  refine wpAnyH_take (i := 9) (oi := Oper.mk (some 28) _ _ _ _ _) (v := .pointer (some ⟨g, off + 4, none⟩)) rfl (by kernel_rfl) (by kernel_rfl) (by kernel_rfl) (fun _ _ _ h => h) (Or.inl ⟨by rfl, ?_⟩) (by assumption) ?_
  · intro wX hSw
    (try dsimp only at hSw)
    go_simp
  simp only [Act.put, List.setIfInBounds_toArray, List.set_cons_succ, List.set_cons_zero]
  refine wpAnyH_take (i := 10) (oi := Oper.mk (some 29) _ _ _ _ _) (v := .string (mkB d)) rfl (by kernel_rfl) (by kernel_rfl) (by kernel_rfl) (fun _ _ _ h => h) (Or.inl ⟨by rfl, ?_⟩) (by assumption) ?_
  · intro wX hSw
    (try dsimp only at hSw)
    go_simp
  simp only [Act.put, List.setIfInBounds_toArray, List.set_cons_succ, List.set_cons_zero]
  refine wpAnyH_ready (rs := [3]) (by kernel_rfl) (by simp) ?_
  refine AllReadyH.cons (o := Oper.mk (some 22) _ _ _ _ _) rfl (fun K hK => ?_) AllReadyH.nil
  go_simp
  refine (C0.out _ b0).mono ?_
  rintro e v1 ⟨rfl, b1, q00, q01, q02⟩
  refine hK.out _ _ ?_ (fun hHeld => ?_)
  · (try dsimp only)
    go_keep
  clear hK K
  refine wpAnyH_ready (rs := [7]) (by kernel_rfl) (by simp) ?_
  refine AllReadyH.cons (o := Oper.mk (some 26) _ _ _ _ _) rfl (fun K hK => ?_) AllReadyH.nil
  go_simp
  refine (C1.out _ b1).mono ?_
  rintro e v2 ⟨rfl, b2⟩
  exact ⟨rfl, Ans.panic rfl (HB.out.trans (b2.out.mono HB.out.size))⟩

set_option maxHeartbeats 1000000 in
theorem ent_0 (g off cap : Nat) (a b d : Tok) (h0 : catT a = none) (w : World) (hv : TokV w g off cap [a, [43], b, [58], d] (.slice (some ⟨g, off, none⟩) 5 cap)) :
    Calls Tryz.prog 110 #[.slice (some ⟨g, off, none⟩) 5 cap] w (Ans (none : Option ((Nat × Nat) × Nat)) IsEntry w) := by
  have BR := hide (Blk.newAt w w.heap.size rfl #[.int .i64 0, .int .i64 0, .int .i64 0] 138)
  have HB : Hid (Below w.heap.size w (w.alloc (.cells #[.int .i64 0, .int .i64 0, .int .i64 0] 138))) := (Below.refl w.heap.size w).alloc (Nat.le_refl _) _
  have HT := hide (hv.below HB.out)
  have hcap : 5 ≤ cap := hv.2.1
  have hcm : cap ≤ 9223372036854775807 := hv.2.2.1
  have hgn : ¬ g = w.heap.size := by have := hv.2.2.2.1; omega
  have hgm : ¬ w.heap.size = g := by have := hv.2.2.2.1; omega
  have r0 := HT.out.cell 0 _ rfl
  have r1 := HT.out.cell 1 _ rfl
  have r2 := HT.out.cell 2 _ rfl
  have r3 := HT.out.cell 3 _ rfl
  have r4 := HT.out.cell 4 _ rfl
  rw [Nat.add_zero] at r0
  rw [show mkB [43] = ⟨#[43]⟩ from rfl] at r1
  rw [show mkB [58] = ⟨#[58]⟩ from rfl] at r3
  have HLT := hide (HT.out.2.2.2.1)
  have HC : Hid (∀ w', Below (w.alloc (.cells #[.int .i64 0, .int .i64 0, .int .i64 0] 138)).heap.size (w.alloc (.cells #[.int .i64 0, .int .i64 0, .int .i64 0] 138)) w' → w'.cell? ⟨g, off, none⟩ = some (.string (mkB a)) ∧ w'.cell? ⟨g, off + 2, none⟩ = some (.string (mkB b)) ∧ w'.cell? ⟨g, off + 4, none⟩ = some (.string (mkB d))) := fun w' hb => ⟨(hb.cell (p := ⟨g, off, none⟩) HLT.out).trans r0, (hb.cell (p := ⟨g, off + 2, none⟩) HLT.out).trans r2, (hb.cell (p := ⟨g, off + 4, none⟩) HLT.out).trans r4⟩
  have b0 : Hid (Below (w.alloc (.cells #[.int .i64 0, .int .i64 0, .int .i64 0] 138)).heap.size (w.alloc (.cells #[.int .i64 0, .int .i64 0, .int .i64 0] 138)) (w.alloc (.cells #[.int .i64 0, .int .i64 0, .int .i64 0] 138)).drew) := bdrewD (w.alloc (.cells #[.int .i64 0, .int .i64 0, .int .i64 0] 138))
  have C0 : Hid (∀ X, Hid (Below (w.alloc (.cells #[.int .i64 0, .int .i64 0, .int .i64 0] 138)).heap.size (w.alloc (.cells #[.int .i64 0, .int .i64 0, .int .i64 0] 138)) X) → Calls Tryz.prog 151 #[.string (mkB a)] X fun e w' => e = .panicked PC ∧ Hid (Below (w.alloc (.cells #[.int .i64 0, .int .i64 0, .int .i64 0] 138)).heap.size (w.alloc (.cells #[.int .i64 0, .int .i64 0, .int .i64 0] 138)) w')) := by
    intro X bX
    refine (readCategory_is a X h0).mono ?_
    rintro e w' ⟨hb, rfl⟩
    exact ⟨rfl, bX.out.trans (hb.mono bX.out.size)⟩
  clear hv HT HC HLT h0 hgn hgm
  go_enter Tryz.func110, Tryz.ntmps110
  go_wp2_with fail
  refine wp_region_held_drew (S := (fun w' => w'.cell? ⟨g, off, none⟩ = some (.string (mkB a)) ∧ w'.cell? ⟨g, off + 2, none⟩ = some (.string (mkB b)) ∧ w'.cell? ⟨g, off + 4, none⟩ = some (.string (mkB d)))) (by kernel_rfl) ?_ (fun hHeld => ?_)
  · (try dsimp only)
    go_keep
  refine wpAnyH_take (i := 0) (oi := Oper.mk (some 19) _ _ _ _ _) (v := .slice (some ⟨g, off, none⟩) 5 cap) rfl (by kernel_rfl) (by kernel_rfl) (by kernel_rfl) (fun _ _ _ h => h) (Or.inl ⟨by rfl, ?_⟩) (by assumption) ?_
  · intro wX hSw
    (try dsimp only at hSw)
    go_simp
  simp only [Act.put, List.setIfInBounds_toArray, List.set_cons_succ, List.set_cons_zero]
  refine wpAnyH_take (i := 1) (oi := Oper.mk (some 20) _ _ _ _ _) (v := .pointer (some ⟨g, off, none⟩)) rfl (by kernel_rfl) (by kernel_rfl) (by kernel_rfl) (fun _ _ _ h => h) (Or.inl ⟨by rfl, ?_⟩) (by assumption) ?_
  · intro wX hSw
    (try dsimp only at hSw)
    go_simp
  simp only [Act.put, List.setIfInBounds_toArray, List.set_cons_succ, List.set_cons_zero]
  refine wpAnyH_take (i := 2) (oi := Oper.mk (some 21) _ _ _ _ _) (v := .string (mkB a)) rfl (by kernel_rfl) (by kernel_rfl) (by kernel_rfl) (fun _ _ _ h => h) (Or.inl ⟨by rfl, ?_⟩) (by assumption) ?_
  · intro wX hSw
    (try dsimp only at hSw)
    go_simp
  simp only [Act.put, List.setIfInBounds_toArray, List.set_cons_succ, List.set_cons_zero]
  refine wpAnyH_take (i := 4) (oi := Oper.mk (some 23) _ _ _ _ _) (v := .slice (some ⟨g, off, none⟩) 5 cap) rfl (by kernel_rfl) (by kernel_rfl) (by kernel_rfl) (fun _ _ _ h => h) (Or.inl ⟨by rfl, ?_⟩) (by assumption) ?_
  · intro wX hSw
    (try dsimp only at hSw)
    go_simp
  simp only [Act.put, List.setIfInBounds_toArray, List.set_cons_succ, List.set_cons_zero]
  refine wpAnyH_take (i := 5) (oi := Oper.mk (some 24) _ _ _ _ _) (v := .pointer (some ⟨g, off + 2, none⟩)) rfl (by kernel_rfl) (by kernel_rfl) (by kernel_rfl) (fun _ _ _ h => h) (Or.inl ⟨by rfl, ?_⟩) (by assumption) ?_
  · intro wX hSw
    (try dsimp only at hSw)
    go_simp
  simp only [Act.put, List.setIfInBounds_toArray, List.set_cons_succ, List.set_cons_zero]
  refine wpAnyH_take (i := 6) (oi := Oper.mk (some 25) _ _ _ _ _) (v := .string (mkB b)) rfl (by kernel_rfl) (by kernel_rfl) (by kernel_rfl) (fun _ _ _ h => h) (Or.inl ⟨by rfl, ?_⟩) (by assumption) ?_
  · intro wX hSw
    (try dsimp only at hSw)
    go_simp
  simp only [Act.put, List.setIfInBounds_toArray, List.set_cons_succ, List.set_cons_zero]
  refine wpAnyH_take (i := 8) (oi := Oper.mk (some 27) _ _ _ _ _) (v := .slice (some ⟨g, off, none⟩) 5 cap) rfl (by kernel_rfl) (by kernel_rfl) (by kernel_rfl) (fun _ _ _ h => h) (Or.inl ⟨by rfl, ?_⟩) (by assumption) ?_
  · intro wX hSw
    (try dsimp only at hSw)
    go_simp
  simp only [Act.put, List.setIfInBounds_toArray, List.set_cons_succ, List.set_cons_zero]
  refine wpAnyH_take (i := 9) (oi := Oper.mk (some 28) _ _ _ _ _) (v := .pointer (some ⟨g, off + 4, none⟩)) rfl (by kernel_rfl) (by kernel_rfl) (by kernel_rfl) (fun _ _ _ h => h) (Or.inl ⟨by rfl, ?_⟩) (by assumption) ?_
  · intro wX hSw
    (try dsimp only at hSw)
    go_simp
  simp only [Act.put, List.setIfInBounds_toArray, List.set_cons_succ, List.set_cons_zero]
  refine wpAnyH_take (i := 10) (oi := Oper.mk (some 29) _ _ _ _ _) (v := .string (mkB d)) rfl (by kernel_rfl) (by kernel_rfl) (by kernel_rfl) (fun _ _ _ h => h) (Or.inl ⟨by rfl, ?_⟩) (by assumption) ?_
  · intro wX hSw
    (try dsimp only at hSw)
    go_simp
  simp only [Act.put, List.setIfInBounds_toArray, List.set_cons_succ, List.set_cons_zero]
  refine wpAnyH_ready (rs := [3]) (by kernel_rfl) (by simp) ?_
  refine AllReadyH.cons (o := Oper.mk (some 22) _ _ _ _ _) rfl (fun K hK => ?_) AllReadyH.nil
  go_simp
  refine (C0.out _ b0).mono ?_
  rintro e v1 ⟨rfl, b1⟩
  exact ⟨rfl, Ans.panic rfl (HB.out.trans (b1.out.mono HB.out.size))⟩

theorem readEntry_any (g off cap : Nat) (ts : List Tok) (v : Value) (w : World) (hv : TokV w g off cap ts v) : Calls Tryz.prog 110 #[v] w (Ans (entryT ts) IsEntry w) := by
  obtain rfl : v = .slice (some ⟨g, off, none⟩) ts.length cap := hv.1
  match ts, hv with
  | [], hv => exact ent_x _ 0 cap w (by omega)
  | [_], hv => exact ent_x _ 1 cap w (by omega)
  | [_, _], hv => exact ent_x _ 2 cap w (by omega)
  | [_, _, _], hv => exact ent_x _ 3 cap w (by omega)
  | [_, _, _, _], hv => exact ent_x _ 4 cap w (by omega)
  | [a, p, b, c, d], hv =>
    by_cases hp : p = [43]
    · subst hp
      by_cases hc : c = [58]
      · subst hc
        cases h0 : catT a with
        | none => rw [show entryT [a, [43], b, [58], d] = none by simp [entryT, h0]]; exact ent_0 g off cap a b d h0 w hv
        | some x =>
          cases h1 : catT b with
          | none => rw [show entryT [a, [43], b, [58], d] = none by simp [entryT, h0, h1]]; exact ent_1 g off cap a b d x h0 h1 w hv
          | some y =>
            cases h2 : catT d with
            | none => rw [show entryT [a, [43], b, [58], d] = none by simp [entryT, h0, h1, h2]]; exact ent_2 g off cap a b d x y h0 h1 h2 w hv
            | some z => rw [show entryT [a, [43], b, [58], d] = some ((x, y), z) by simp [entryT, h0, h1, h2]]; exact ent_y g off cap a b d x y z h0 h1 h2 w hv
      · rw [show entryT [a, [43], b, c, d] = none by simp [entryT, hc]]; exact ent_c g off cap a b c d hc w hv
    · rw [show entryT [a, p, b, c, d] = none by simp [entryT, hp]]; exact ent_p g off cap a p b c d hp w hv
  | _ :: _ :: _ :: _ :: _ :: _ :: r, hv => exact ent_x _ _ cap w (by simp)

end Go.Proofs.YtijccekejfcheaaGreatDoor
