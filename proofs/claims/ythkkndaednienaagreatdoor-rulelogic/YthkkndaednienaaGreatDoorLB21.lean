/-
  The parts of texts that are joined; rows of parts that are joined.
  A rule more at the end, in plain words.
  Blanks ahead of signs change no part of a text.
  Conditions that are joined, and the other relation, in plain words.
  What rule's readEntry does.
-/
import Derived.Test.YthkkndaednienaaGreatDoorLB20
namespace Go.Proofs.YthkkndaednienaaGreatDoor
open Go.RowKit

theorem btrim_nil {A : List UInt8} (X : List UInt8) (h : trimB A = []) : trimB (A ++ X) = trimB X := by
  unfold trimB at *
  induction A with
  | nil => rfl
  | cons a r ih =>
    simp only [List.dropWhile] at h
    split at h
    · rename_i ha
      rw [List.cons_append, List.dropWhile, ha]
      exact ih h
    · cases h

theorem btrim_cons {A : List UInt8} (X : List UInt8) {a : UInt8} {r : List UInt8} (h : trimB A = a :: r) : trimB (A ++ X) = a :: (r ++ X) := by
  unfold trimB at *
  induction A with
  | nil => cases h
  | cons b q ih =>
    simp only [List.dropWhile] at h
    split at h
    · rename_i hb
      rw [List.cons_append, List.dropWhile, hb]
      exact ih h
    · rename_i hb
      rw [List.cons_append, List.dropWhile, hb]
      cases h
      rfl

theorem takeW_stop (p : UInt8 → Bool) (l R : List UInt8) (c : UInt8) (hc : p c = false) : ((l ++ c :: R).takeWhile p).length = (l.takeWhile p).length := by
  induction l with
  | nil => simp [List.takeWhile, hc]
  | cons a l ih =>
    by_cases ha : p a = true
    · simp [List.takeWhile, ha, ih]
    · simp [List.takeWhile, ha]

def Brk (c : UInt8) : Prop := isLt c = false ∧ isNm c = false ∧ c ≠ 61 ∧ c ≠ 46

theorem partN_app (a : UInt8) (r R : List UInt8) (c : UInt8) (hc : Brk c) : partN (a :: (r ++ c :: R)) = partN (a :: r) := by
  obtain ⟨h1, h2, h3, h4⟩ := hc
  have e1 := takeW_stop isLt (a :: r) R c h1
  have e2 := takeW_stop isNm (a :: r) R c h2
  rw [List.cons_append] at e1 e2
  simp only [partN]
  rw [e1, e2]
  have e3 : ((a.toNat = 33 ∧ (r ++ c :: R).head? = some 61) ∨ (a.toNat = 46 ∧ (r ++ c :: R).head? = some 46)) ↔ ((a.toNat = 33 ∧ r.head? = some 61) ∨ (a.toNat = 46 ∧ r.head? = some 46)) := by
    cases r with
    | nil => simp [h3, h4]
    | cons b r => simp
  simp only [e3]

theorem toks_app (A : List UInt8) (c : UInt8) (R : List UInt8) (hc : Brk c) : toks (A ++ c :: R) = if (toks A).2 then ((toks A).1, true) else ((toks A).1 ++ (toks (c :: R)).1, (toks (c :: R)).2) := by
  obtain ⟨n, hn⟩ : ∃ n, A.length ≤ n := ⟨_, Nat.le_refl _⟩
  induction n generalizing A with
  | zero =>
    obtain rfl := List.eq_nil_of_length_eq_zero (by omega : A.length = 0)
    rw [List.nil_append, show toks [] = ([], false) from rfl]
    simp
  | succ n ih =>
    have hl := trimB_len A
    cases ht : trimB A with
    | nil =>
      have hA : toks A = ([], false) := by rw [toks_step, ht]
      have hB : toks (A ++ c :: R) = toks (c :: R) := by rw [toks_step, btrim_nil _ ht, ← toks_step]
      rw [hA, hB]; rfl
    | cons a r =>
      cases hp : partN (a :: r) with
      | none =>
        have hA : toks A = ([], true) := by rw [toks_step, ht]; dsimp only; rw [hp]
        have hB : toks (A ++ c :: R) = ([], true) := by rw [toks_step, btrim_cons _ ht]; dsimp only; rw [partN_app a r R c hc, hp]
        rw [hA, hB]; rfl
      | some k =>
        have hk := partN_le hp
        have e1 : (a :: (r ++ c :: R)).take k = (a :: r).take k := by
          rw [← List.cons_append, List.take_append_of_le_length hk.2]
        have e2 : (a :: (r ++ c :: R)).drop k = (a :: r).drop k ++ c :: R := by
          rw [← List.cons_append, List.drop_append_of_le_length hk.2]
        have hA : toks A = ((a :: r).take k :: (toks ((a :: r).drop k)).1, (toks ((a :: r).drop k)).2) := by rw [toks_step, ht]; dsimp only; rw [hp]
        have hB : toks (A ++ c :: R) = ((a :: r).take k :: (toks ((a :: r).drop k ++ c :: R)).1, (toks ((a :: r).drop k ++ c :: R)).2) := by
          rw [toks_step, btrim_cons _ ht]
          dsimp only
          rw [partN_app a r R c hc, hp]
          dsimp only
          rw [e1, e2]
        rw [hA, hB, ih ((a :: r).drop k) (by rw [List.length_drop, ← ht]; rw [← ht] at hk; omega)]
        dsimp only
        split
        · rfl
        · rfl

theorem toks_sign (c : UInt8) (R : List UInt8) (h1 : isLt c = false) (h2 : isNm c = false) (h3 : isSg c = true) (h4 : c ≠ 32) (h5 : c ≠ 33) (h6 : c ≠ 46) : toks (c :: R) = ([c] :: (toks R).1, (toks R).2) := by
  rw [toks_step]
  have e : trimB (c :: R) = c :: R := by
    unfold trimB
    have : (c == 32) = false := beq_eq_false_iff_ne.2 h4
    simp [List.dropWhile, this]
  rw [e]
  have n33 : ¬ c.toNat = 33 := fun h => h5 (UInt8.toNat_inj.1 h)
  have n46 : ¬ c.toNat = 46 := fun h => h6 (UInt8.toNat_inj.1 h)
  have hp : partN (c :: R) = some 1 := by
    unfold partN
    simp [h1, h2, h3, n33, n46]
  dsimp only
  rw [hp]
  rfl

theorem toks_blank (R : List UInt8) : toks (32 :: R) = toks R := by
  rw [toks_step, toks_step R]
  rfl

theorem splitT_app (sep : Tok) (a b : List Tok) : splitT sep (a ++ sep :: b) = splitT sep a ++ splitT sep b := by
  induction a with
  | nil => simp [splitT]
  | cons t a ih =>
    rw [List.cons_append, splitT, splitT, ih]
    split
    · rfl
    · cases h : splitT sep a with
      | nil => exact absurd h (splitT_ne sep a)
      | cons q qs => rfl

theorem splitT_none (sep : Tok) (a : List Tok) (h : sep ∉ a) : splitT sep a = [a] := by
  induction a with
  | nil => rfl
  | cons t a ih =>
    rw [splitT, if_neg (fun e => h (by simp [e])), ih (fun hm => h (by simp [hm]))]

theorem mapM_app {α β : Type} {f : α → Option β} {a b : List α} {x y : List β} (ha : a.mapM f = some x) (hb : b.mapM f = some y) : (a ++ b).mapM f = some (x ++ y) := by
  rw [List.mapM_append, ha, hb]; rfl

theorem mapM_one {α β : Type} (f : α → Option β) (a : α) : [a].mapM f = (f a).map fun x => [x] := by
  simp [List.mapM_cons]
  cases f a <;> rfl

theorem toksF_sub (n : Nat) (s : List UInt8) : ∀ t, t ∈ (toksF n s).1 → ∀ c, c ∈ t → c ∈ s := by
  induction n generalizing s with
  | zero => simp [toksF]
  | succ n ih =>
    rw [toksF]
    have hsub : ∀ c, c ∈ trimB s → c ∈ s := fun c hc => (List.dropWhile_sublist _).subset hc
    cases ht : trimB s with
    | nil => simp
    | cons a r =>
      rw [ht] at hsub
      dsimp only
      cases hp : partN (a :: r) with
      | none => simp
      | some k =>
        dsimp only
        intro t hm c hc
        rcases List.mem_cons.1 hm with rfl | hm
        · exact hsub c (List.mem_of_mem_take hc)
        · exact hsub c (List.mem_of_mem_drop (ih _ t hm c hc))

theorem toks_sub (s : List UInt8) : ∀ t, t ∈ (toks s).1 → ∀ c, c ∈ t → c ∈ s := toksF_sub _ _

theorem rulesT_rows {s : List UInt8} {l : List (Nat × List (List RelT))} (h : rulesT s = some l) : (toks s).2 = false ∧ (((toks s).1 = [] ∧ l = []) ∨ ((toks s).1 ≠ [] ∧ (splitT [59] (toks s).1).mapM ruleT = some l ∧ unlike l = true)) := by
  unfold rulesT at h
  split at h
  · cases h
  · rename_i h2
    refine ⟨by simpa using h2, ?_⟩
    split at h
    · rename_i h1
      simp only [Option.some.injEq] at h
      exact .inl ⟨h1, h.symm⟩
    · rename_i h1
      unfold onlyU at h
      cases hm : (splitT [59] (toks s).1).mapM ruleT with
      | none => simp [hm] at h
      | some l' =>
        simp only [hm] at h
        split at h
        · rename_i hu
          simp only [Option.some.injEq] at h
          subst h
          exact .inr ⟨h1, rfl, hu⟩
        · cases h

end Go.Proofs.YthkkndaednienaaGreatDoor

namespace Go.Proofs.YthkkndaednienaaGreatDoor
open Go.RowKit

theorem brk58 : Brk 58 := ⟨by decide, by decide, by decide, by decide⟩
theorem brk32 : Brk 32 := ⟨by decide, by decide, by decide, by decide⟩

def oneC : List UInt8 := [111, 110, 101, 58, 32]
theorem toks_one (C : List UInt8) : toks (oneC ++ C) = ([111, 110, 101] :: [58] :: (toks C).1, (toks C).2) := by
  have e : oneC ++ C = [111, 110, 101] ++ 58 :: (32 :: C) := rfl
  rw [e, toks_app _ _ _ brk58, show toks [111, 110, 101] = ([[111, 110, 101]], false) by kernel_rfl, toks_sign 58 _ (by decide) (by decide) (by decide) (by decide) (by decide) (by decide), toks_blank]
  rfl

theorem no_semi {C : List UInt8} (h : (59 : UInt8) ∉ C) : ([59] : Tok) ∉ (toks C).1 := fun hm => h (toks_sub C [59] hm 59 (by simp))

theorem one_rule {C : List UInt8} {l1 : List (Nat × List (List RelT))} (h : rulesT (oneC ++ C) = some l1) (hC : (59 : UInt8) ∉ C) : (toks C).2 = false ∧ ∃ cd, condT (toks C).1 = some cd ∧ l1 = [(1, cd)] := by
  obtain ⟨h2, hh⟩ := rulesT_rows h
  rw [toks_one] at h2 hh
  refine ⟨h2, ?_⟩
  rcases hh with ⟨he, _⟩ | ⟨_, hm, _⟩
  · cases he
  · rw [splitT_none [59] _ (by
      intro hm
      simp only [List.mem_cons] at hm
      rcases hm with hm | hm | hm
      · exact absurd hm (by decide)
      · exact absurd hm (by decide)
      · exact no_semi hC hm), mapM_one] at hm
    simp only [Option.map_eq_some_iff] at hm
    obtain ⟨y, hy, rfl⟩ := hm
    simp only [ruleT, if_true, show catT [111, 110, 101] = some 1 by decide] at hy
    cases hc : condT (toks C).1 with
    | none => simp [hc] at hy
    | some cd =>
      simp [hc] at hy
      exact ⟨cd, rfl, by rw [← hy]⟩

end Go.Proofs.YthkkndaednienaaGreatDoor

namespace Go.Proofs.YthkkndaednienaaGreatDoor
open Go.RowKit

theorem toks_head (c : UInt8) (l : List UInt8) (h : c ≠ 32) : toks (c :: l) = match partN (c :: l) with
    | none => ([], true)
    | some k => ((c :: l).take k :: (toks ((c :: l).drop k)).1, (toks ((c :: l).drop k)).2) := by
  rw [toks_step]
  have e : trimB (c :: l) = c :: l := by
    unfold trimB
    have : (c == 32) = false := beq_eq_false_iff_ne.2 h
    simp [List.dropWhile, this]
  rw [e]
  rfl

theorem toks_two (c d : UInt8) (l : List UInt8) (h : (c = 33 ∧ d = 61) ∨ (c = 46 ∧ d = 46)) : toks (c :: d :: l) = ([c, d] :: (toks l).1, (toks l).2) := by
  rw [toks_head c _ (by rcases h with ⟨rfl, _⟩ | ⟨rfl, _⟩ <;> decide)]
  have hp : partN (c :: d :: l) = some 2 := by
    rcases h with ⟨rfl, rfl⟩ | ⟨rfl, rfl⟩ <;> rfl
  rw [hp]
  rfl

theorem toks_bad (c : UInt8) (l : List UInt8) (h : c ≠ 32) (h1 : isLt c = false) (h2 : isNm c = false) (h3 : isSg c = false) (h4 : c = 33 → l.head? ≠ some 61) (h5 : c = 46 → l.head? ≠ some 46) : toks (c :: l) = ([], true) := by
  rw [toks_head c l h]
  have hp : partN (c :: l) = none := by
    simp only [partN]
    rw [if_neg (by rw [h1]; simp), if_neg (by rw [h2]; simp), if_neg, if_neg (by rw [h3]; simp)]
    rintro (⟨q, q'⟩ | ⟨q, q'⟩)
    · exact h4 (UInt8.toNat_inj.1 q) q'
    · exact h5 (UInt8.toNat_inj.1 q) q'
  rw [hp]

end Go.Proofs.YthkkndaednienaaGreatDoor

namespace Go.Proofs.YthkkndaednienaaGreatDoor
open Go.RowKit

theorem no_tok {C : List UInt8} {t : Tok} {c : UInt8} (hc : c ∈ t) (h : c ∉ C) : t ∉ (toks C).1 := fun hm => h (toks_sub C t hm c hc)

theorem pick_ok {s : List UInt8} {x : OperT} (h : (pickT s x).2 = 0) : MayO x ∧ ∃ l, rulesT s = some l ∧ (pickT s x).1 = (firstH x l : Int) := by
  unfold pickT at h ⊢
  split at h
  · exact absurd h (by decide)
  · rename_i hs
    rw [if_neg hs]
    cases hr : rulesT s with
    | none => rw [hr] at h; exact absurd (show (90 : Int) = 0 from h) (by decide)
    | some l =>
      rw [hr] at h
      dsimp only at h ⊢
      by_cases hm : MayO x
      · rw [if_pos hm]; exact ⟨hm, l, rfl, rfl⟩
      · rw [if_neg hm] at h; exact absurd (show (92 : Int) = 0 from h) (by decide)

theorem allT_one {X : List Tok} {r : RelT} (h : ([97, 110, 100] : Tok) ∉ X) (hr : relT X = some r) : allT X = some [r] := by
  unfold allT
  rw [splitT_none _ _ h, mapM_one, hr]; rfl

theorem allT_app {X Y : List Tok} {x y : List RelT} (hx : allT X = some x) (hy : allT Y = some y) : allT (X ++ [97, 110, 100] :: Y) = some (x ++ y) := by
  unfold allT at *
  rw [splitT_app]
  exact mapM_app hx hy

theorem condT_one {X : List Tok} {x : List RelT} (h : ([111, 114] : Tok) ∉ X) (hx : allT X = some x) : condT X = some [x] := by
  unfold condT
  rw [splitT_none _ _ h, mapM_one, hx]; rfl

theorem condT_app {X Y : List Tok} {x y : List (List RelT)} (hx : condT X = some x) (hy : condT Y = some y) : condT (X ++ [111, 114] :: Y) = some (x ++ y) := by
  unfold condT at *
  rw [splitT_app]
  exact mapM_app hx hy

structure IsOne (C : List UInt8) (r : RelT) : Prop where
  ends : (toks C).2 = false
  rel : relT (toks C).1 = some r
  semi : (59 : UInt8) ∉ C
  ho : (111 : UInt8) ∉ C
  ha : (97 : UInt8) ∉ C

theorem IsOne.noOr {C : List UInt8} {r : RelT} (h : IsOne C r) : ([111, 114] : Tok) ∉ (toks C).1 := no_tok (c := 111) (by simp) h.ho
theorem IsOne.noAnd {C : List UInt8} {r : RelT} (h : IsOne C r) : ([97, 110, 100] : Tok) ∉ (toks C).1 := no_tok (c := 97) (by simp) h.ha
theorem IsOne.noSemi {C : List UInt8} {r : RelT} (h : IsOne C r) : ([59] : Tok) ∉ (toks C).1 := no_tok (c := 59) (by simp) h.semi
theorem IsOne.all {C : List UInt8} {r : RelT} (h : IsOne C r) : allT (toks C).1 = some [r] := allT_one h.noAnd h.rel
theorem IsOne.cond {C : List UInt8} {r : RelT} (h : IsOne C r) : condT (toks C).1 = some [[r]] := condT_one h.noOr h.all

theorem one_first (x : OperT) (cd : List (List RelT)) : (((firstH x [(1, cd)] : Nat) : Int) == 1) = condH x cd := by
  rw [firstH]
  cases h : condH x cd
  · rfl
  · rfl

theorem isOne_of {C : List UInt8} {x : OperT} (h59 : (59 : UInt8) ∉ C) (h111 : (111 : UInt8) ∉ C) (h97 : (97 : UInt8) ∉ C) (e : (pickT (oneC ++ C) x).2 = 0) : MayO x ∧ ∃ r, IsOne C r ∧ ((pickT (oneC ++ C) x).1 == 1) = relH x r := by
  obtain ⟨hm, l, hl, hp⟩ := pick_ok e
  refine ⟨hm, ?_⟩
  obtain ⟨h2, cd, hcd, rfl⟩ := one_rule hl h59
  have n1 : ([111, 114] : Tok) ∉ (toks C).1 := no_tok (c := 111) (by simp) h111
  have n2 : ([97, 110, 100] : Tok) ∉ (toks C).1 := no_tok (c := 97) (by simp) h97
  have hcd' := hcd
  unfold condT at hcd'
  rw [splitT_none _ _ n1, mapM_one] at hcd'
  simp only [Option.map_eq_some_iff] at hcd'
  obtain ⟨al, hal, rfl⟩ := hcd'
  have hal' := hal
  unfold allT at hal'
  rw [splitT_none _ _ n2, mapM_one] at hal'
  simp only [Option.map_eq_some_iff] at hal'
  obtain ⟨r, hr, rfl⟩ := hal'
  refine ⟨r, ⟨h2, hr, h59, h111, h97⟩, ?_⟩
  rw [hp, one_first]
  simp [condH, allH]

theorem pick_cond {C : List UInt8} {cd : List (List RelT)} {x : OperT} (hm : MayO x) (h2 : (toks C).2 = false) (h59 : ([59] : Tok) ∉ (toks C).1) (hc : condT (toks C).1 = some cd) (hl : C.length ≤ 1019) :
    ((pickT (oneC ++ C) x).1 == 1) = condH x cd ∧ (pickT (oneC ++ C) x).2 = 0 := by
  have hr : rulesT (oneC ++ C) = some [(1, cd)] := by
    unfold rulesT
    rw [toks_one]
    dsimp only
    rw [h2, if_neg (by simp), if_neg (by simp), splitT_none [59] _ (by
      intro hm
      simp only [List.mem_cons] at hm
      rcases hm with hm | hm | hm
      · exact absurd hm (by decide)
      · exact absurd hm (by decide)
      · exact h59 hm), mapM_one]
    have : ruleT ([111, 110, 101] :: [58] :: (toks C).1) = some (1, cd) := by
      simp only [ruleT, if_true, show catT [111, 110, 101] = some 1 by decide, hc]
      simp
    rw [this]
    rfl
  have hlen : ¬ 1024 < (oneC ++ C).length := by
    rw [List.length_append, show oneC.length = 5 from rfl]; omega
  have hp : pickT (oneC ++ C) x = ((firstH x [(1, cd)] : Int), 0) := by
    unfold pickT
    rw [if_neg hlen, hr]
    dsimp only
    rw [if_pos hm]
  rw [hp]
  exact ⟨one_first x cd, rfl⟩

def andC : List UInt8 := [32, 97, 110, 100, 32]
def orC : List UInt8 := [32, 111, 114, 32]

theorem toks_and (A B : List UInt8) (h : (toks A).2 = false) : toks (A ++ andC ++ B) = ((toks A).1 ++ [97, 110, 100] :: (toks B).1, (toks B).2) := by
  have e : A ++ andC ++ B = A ++ 32 :: ([97, 110, 100] ++ 32 :: B) := by rw [List.append_assoc]; rfl
  rw [e, toks_app _ _ _ brk32, if_neg (by rw [h]; simp), toks_blank, toks_app _ _ _ brk32, show toks [97, 110, 100] = ([[97, 110, 100]], false) by kernel_rfl, toks_blank]
  rfl

theorem toks_or (A B : List UInt8) (h : (toks A).2 = false) : toks (A ++ orC ++ B) = ((toks A).1 ++ [111, 114] :: (toks B).1, (toks B).2) := by
  have e : A ++ orC ++ B = A ++ 32 :: ([111, 114] ++ 32 :: B) := by rw [List.append_assoc]; rfl
  rw [e, toks_app _ _ _ brk32, if_neg (by rw [h]; simp), toks_blank, toks_app _ _ _ brk32, show toks [111, 114] = ([[111, 114]], false) by kernel_rfl, toks_blank]
  rfl

theorem semi_app {X Y : List Tok} {t : Tok} (hx : ([59] : Tok) ∉ X) (hy : ([59] : Tok) ∉ Y) (ht : t ≠ [59]) : ([59] : Tok) ∉ X ++ t :: Y := by
  intro h
  rcases List.mem_append.1 h with h | h
  · exact hx h
  · rcases List.mem_cons.1 h with h | h
    · exact ht h.symm
    · exact hy h

theorem or_app {X Y : List Tok} {t : Tok} (hx : ([111, 114] : Tok) ∉ X) (hy : ([111, 114] : Tok) ∉ Y) (ht : t ≠ [111, 114]) : ([111, 114] : Tok) ∉ X ++ t :: Y := by
  intro h
  rcases List.mem_append.1 h with h | h
  · exact hx h
  · rcases List.mem_cons.1 h with h | h
    · exact ht h.symm
    · exact hy h

theorem logic_both {A B : List UInt8} {a b : RelT} {x : OperT} (hm : MayO x) (hA : IsOne A a) (hB : IsOne B b) (hl : A.length + B.length ≤ 900) : ((pickT (oneC ++ (A ++ andC ++ B)) x).1 == 1) = (relH x a && relH x b) ∧ (pickT (oneC ++ (A ++ andC ++ B)) x).2 = 0 := by
  have ht := toks_and A B hA.ends
  have := pick_cond (C := A ++ andC ++ B) (cd := [[a, b]]) hm (by rw [ht]; exact hB.ends) (by rw [ht]; exact semi_app hA.noSemi hB.noSemi (by decide)) (by
    rw [ht]; exact condT_one (or_app hA.noOr hB.noOr (by decide)) (allT_app hA.all hB.all)) (by simp [andC]; omega)
  simpa [condH, allH] using this

theorem logic_one {A B : List UInt8} {a b : RelT} {x : OperT} (hm : MayO x) (hA : IsOne A a) (hB : IsOne B b) (hl : A.length + B.length ≤ 900) : ((pickT (oneC ++ (A ++ orC ++ B)) x).1 == 1) = (relH x a || relH x b) ∧ (pickT (oneC ++ (A ++ orC ++ B)) x).2 = 0 := by
  have ht := toks_or A B hA.ends
  have := pick_cond (C := A ++ orC ++ B) (cd := [[a], [b]]) hm (by rw [ht]; exact hB.ends) (by rw [ht]; exact semi_app hA.noSemi hB.noSemi (by decide)) (by
    rw [ht]; exact condT_app hA.cond hB.cond) (by simp [orC]; omega)
  simpa [condH, allH] using this

theorem logic_mixed {A B C : List UInt8} {a b c : RelT} {x : OperT} (hm : MayO x) (hA : IsOne A a) (hB : IsOne B b) (hC : IsOne C c) (hl : A.length + B.length + C.length ≤ 900) : ((pickT (oneC ++ (A ++ orC ++ B ++ andC ++ C)) x).1 == 1) = (relH x a || relH x b && relH x c) ∧ (pickT (oneC ++ (A ++ orC ++ B ++ andC ++ C)) x).2 = 0 := by
  have h1 := toks_or A B hA.ends
  have ht := toks_and (A ++ orC ++ B) C (by rw [h1]; exact hB.ends)
  rw [h1] at ht
  dsimp only at ht
  rw [show (toks A).1 ++ [111, 114] :: (toks B).1 ++ [97, 110, 100] :: (toks C).1 = (toks A).1 ++ [111, 114] :: ((toks B).1 ++ [97, 110, 100] :: (toks C).1) by simp] at ht
  have := pick_cond (C := A ++ orC ++ B ++ andC ++ C) (cd := [[a], [b, c]]) hm (by rw [ht]; exact hC.ends) (by rw [ht]; exact semi_app hA.noSemi (semi_app hB.noSemi hC.noSemi (by decide)) (by decide)) (by
    rw [ht]; exact condT_app hA.cond (condT_one (or_app hB.noOr hC.noOr (by decide)) (allT_app hB.all hC.all))) (by simp [orC, andC]; omega)
  simpa [condH, allH] using this

theorem logic_turned {A B C : List UInt8} {a b c : RelT} {x : OperT} (hm : MayO x) (hA : IsOne A a) (hB : IsOne B b) (hC : IsOne C c) (hl : A.length + B.length + C.length ≤ 900) : ((pickT (oneC ++ (A ++ andC ++ B ++ orC ++ C)) x).1 == 1) = (relH x a && relH x b || relH x c) ∧ (pickT (oneC ++ (A ++ andC ++ B ++ orC ++ C)) x).2 = 0 := by
  have h1 := toks_and A B hA.ends
  have ht := toks_or (A ++ andC ++ B) C (by rw [h1]; exact hB.ends)
  rw [h1] at ht
  dsimp only at ht
  have := pick_cond (C := A ++ andC ++ B ++ orC ++ C) (cd := [[a, b], [c]]) hm (by rw [ht]; exact hC.ends) (by rw [ht]; exact semi_app (semi_app hA.noSemi hB.noSemi (by decide)) hC.noSemi (by decide)) (by
    rw [ht]; exact condT_app (condT_one (or_app hA.noOr hB.noOr (by decide)) (allT_app hA.all hB.all)) hC.cond) (by simp [orC, andC]; omega)
  simpa [condH, allH] using this

def oth : List UInt8 → List UInt8
  | [] => []
  | c :: r => if c = 33 then r else if c = 61 then 33 :: 61 :: r else c :: oth r

theorem oth_pre (U V : List UInt8) (h : ∀ c, c ∈ U → c ≠ 33 ∧ c ≠ 61) : oth (U ++ V) = U ++ oth V := by
  induction U with
  | nil => rfl
  | cons a U ih =>
    have ha := h a (by simp)
    rw [List.cons_append, oth, if_neg ha.1, if_neg ha.2, ih (fun c hc => h c (by simp [hc]))]
    rfl

theorem oth_cut (C : List UInt8) : ∃ U V, C = U ++ V ∧ (∀ c, c ∈ U → c ≠ 33 ∧ c ≠ 61) ∧ (V = [] ∨ (∃ r, V = 33 :: r) ∨ ∃ r, V = 61 :: r) := by
  induction C with
  | nil => exact ⟨[], [], rfl, by simp, .inl rfl⟩
  | cons a C ih =>
    by_cases h1 : a = 33
    · exact ⟨[], a :: C, rfl, by simp, .inr (.inl ⟨C, by rw [h1]⟩)⟩
    · by_cases h2 : a = 61
      · exact ⟨[], a :: C, rfl, by simp, .inr (.inr ⟨C, by rw [h2]⟩)⟩
      · obtain ⟨U, V, rfl, hU, hV⟩ := ih
        refine ⟨a :: U, V, rfl, ?_, hV⟩
        intro c hc
        rcases List.mem_cons.1 hc with rfl | hc
        · exact ⟨h1, h2⟩
        · exact hU c hc

theorem partN_eq (a : UInt8) (r R : List UInt8) (h : (33 : UInt8) ∉ a :: r) : partN (a :: (r ++ 61 :: R)) = partN (a :: r) := by
  have e1 := takeW_stop isLt (a :: r) R 61 (by decide)
  have e2 := takeW_stop isNm (a :: r) R 61 (by decide)
  rw [List.cons_append] at e1 e2
  simp only [partN]
  rw [e1, e2]
  have na : ¬ a.toNat = 33 := fun e => h (by rw [show a = 33 from UInt8.toNat_inj.1 e]; simp)
  have e3 : ((a.toNat = 33 ∧ (r ++ 61 :: R).head? = some 61) ∨ (a.toNat = 46 ∧ (r ++ 61 :: R).head? = some 46)) ↔ ((a.toNat = 33 ∧ r.head? = some 61) ∨ (a.toNat = 46 ∧ r.head? = some 46)) := by
    cases r with
    | nil => simp [na]
    | cons b r => simp
  simp only [e3]

theorem toks_appE (A R : List UInt8) (h33 : (33 : UInt8) ∉ A) : toks (A ++ 61 :: R) = if (toks A).2 then ((toks A).1, true) else ((toks A).1 ++ (toks (61 :: R)).1, (toks (61 :: R)).2) := by
  obtain ⟨n, hn⟩ : ∃ n, A.length ≤ n := ⟨_, Nat.le_refl _⟩
  induction n generalizing A with
  | zero =>
    obtain rfl := List.eq_nil_of_length_eq_zero (by omega : A.length = 0)
    rw [List.nil_append, show toks [] = ([], false) from rfl]
    simp
  | succ n ih =>
    have hl := trimB_len A
    have hsub : ∀ c, c ∈ trimB A → c ∈ A := fun c hc => (List.dropWhile_sublist _).subset hc
    cases ht : trimB A with
    | nil =>
      have hA : toks A = ([], false) := by rw [toks_step, ht]
      have hB : toks (A ++ 61 :: R) = toks (61 :: R) := by rw [toks_step, btrim_nil _ ht, ← toks_step]
      rw [hA, hB]; rfl
    | cons a r =>
      rw [ht] at hsub
      have h33' : (33 : UInt8) ∉ a :: r := fun hm => h33 (hsub _ hm)
      cases hp : partN (a :: r) with
      | none =>
        have hA : toks A = ([], true) := by rw [toks_step, ht]; dsimp only; rw [hp]
        have hB : toks (A ++ 61 :: R) = ([], true) := by rw [toks_step, btrim_cons _ ht]; dsimp only; rw [partN_eq a r R h33', hp]
        rw [hA, hB]; rfl
      | some k =>
        have hk := partN_le hp
        have e1 : (a :: (r ++ 61 :: R)).take k = (a :: r).take k := by
          rw [← List.cons_append, List.take_append_of_le_length hk.2]
        have e2 : (a :: (r ++ 61 :: R)).drop k = (a :: r).drop k ++ 61 :: R := by
          rw [← List.cons_append, List.drop_append_of_le_length hk.2]
        have hA : toks A = ((a :: r).take k :: (toks ((a :: r).drop k)).1, (toks ((a :: r).drop k)).2) := by rw [toks_step, ht]; dsimp only; rw [hp]
        have hB : toks (A ++ 61 :: R) = ((a :: r).take k :: (toks ((a :: r).drop k ++ 61 :: R)).1, (toks ((a :: r).drop k ++ 61 :: R)).2) := by
          rw [toks_step, btrim_cons _ ht]
          dsimp only
          rw [partN_eq a r R h33', hp]
          dsimp only
          rw [e1, e2]
        rw [hA, hB, ih ((a :: r).drop k) (fun hm => h33' (List.mem_of_mem_drop hm)) (by rw [List.length_drop, ← ht]; rw [← ht] at hk; omega)]
        dsimp only
        split
        · rfl
        · rfl

theorem brk33 : Brk 33 := ⟨by decide, by decide, by decide, by decide⟩

theorem takeW_all {l : List Tok} (X : List Tok) (e : Tok) (h : ∀ t, t ∈ l → isEq t = false) (he : isEq e = true) : (l ++ e :: X).takeWhile (fun t => !isEq t) = l ∧ (l ++ e :: X).dropWhile (fun t => !isEq t) = e :: X := by
  induction l with
  | nil => simp [he]
  | cons a l ih =>
    have ha := h a (by simp)
    obtain ⟨h1, h2⟩ := ih (fun t ht => h t (by simp [ht]))
    simp only [List.cons_append, List.takeWhile, List.dropWhile, ha, Bool.not_false]
    exact ⟨by rw [h1], h2⟩

theorem relT_swap {TU TV : List Tok} {r : RelT} (e e' : Tok) (h : ∀ t, t ∈ TU → isEq t = false) (he : isEq e = true) (he' : isEq e' = true) (hx : (e' == [33, 61]) = !(e == [33, 61])) (hr : relT (TU ++ e :: TV) = some r) : relT (TU ++ e' :: TV) = some ⟨r.op, r.div, !r.neq, r.rs⟩ := by
  obtain ⟨a1, a2⟩ := takeW_all TV e h he
  obtain ⟨b1, b2⟩ := takeW_all TV e' h he'
  unfold relT at hr ⊢
  rw [a1, a2] at hr
  rw [b1, b2]
  dsimp only at hr ⊢
  cases h1 : exprT TU with
  | none => simp [h1] at hr
  | some q =>
    cases h2 : (splitT [44] TV).mapM rangeT with
    | none => simp [h1, h2] at hr
    | some rs =>
      simp only [h1, h2, Option.some.injEq] at hr ⊢
      subst hr
      rw [hx]

theorem noEq {U : List UInt8} (h : (61 : UInt8) ∉ U) : ∀ t, t ∈ (toks U).1 → isEq t = false := by
  intro t ht
  cases he : isEq t with
  | false => rfl
  | true =>
    exfalso
    unfold isEq at he
    have h61 : (61 : UInt8) ∈ t := by
      simp only [Bool.or_eq_true, beq_iff_eq] at he
      rcases he with rfl | rfl <;> simp
    exact h (toks_sub U t ht 61 h61)

theorem dropW_none {l : List Tok} (h : ∀ t, t ∈ l → isEq t = false) : l.dropWhile (fun t => !isEq t) = [] := by
  induction l with
  | nil => rfl
  | cons a l ih =>
    simp only [List.dropWhile, h a (by simp), Bool.not_false]
    exact ih (fun t ht => h t (by simp [ht]))

theorem oth_one {C : List UInt8} {r : RelT} (h : IsOne C r) : IsOne (oth C) ⟨r.op, r.div, !r.neq, r.rs⟩ ∧ (oth C).length ≤ C.length + 1 := by
  obtain ⟨U, V, rfl, hU, hV⟩ := oth_cut C
  have u33 : (33 : UInt8) ∉ U := fun hm => (hU _ hm).1 rfl
  have u61 : (61 : UInt8) ∉ U := fun hm => (hU _ hm).2 rfl
  have hne := noEq u61
  rw [oth_pre U V hU]
  rcases hV with rfl | ⟨V', rfl⟩ | ⟨V', rfl⟩
  · exfalso
    have hr := h.rel
    rw [List.append_nil] at hr
    unfold relT at hr
    rw [dropW_none hne] at hr
    cases hr
  · have he := h.ends
    have hr := h.rel
    have hs := h.semi
    have ho := h.ho
    have ha := h.ha
    rw [toks_app _ _ _ brk33] at he hr
    by_cases hf : (toks U).2 = true
    · rw [if_pos hf] at he; cases he
    · rw [if_neg hf] at he hr
      dsimp only at he hr
      cases V' with
      | nil => rw [toks_bad 33 [] (by decide) (by decide) (by decide) (by decide) (by simp) (by simp)] at he; cases he
      | cons d V' =>
        by_cases hd : d = 61
        · subst hd
          rw [toks_two 33 61 V' (.inl ⟨rfl, rfl⟩)] at he hr
          dsimp only at he hr
          have e1 : oth (33 :: 61 :: V') = 61 :: V' := rfl
          have e2 : toks (U ++ 61 :: V') = ((toks U).1 ++ [61] :: (toks V').1, (toks V').2) := by
            rw [toks_appE _ _ u33, if_neg hf, toks_sign 61 V' (by decide) (by decide) (by decide) (by decide) (by decide) (by decide)]
          rw [e1]
          refine ⟨⟨by rw [e2]; exact he, by rw [e2]; exact relT_swap [33, 61] [61] hne (by decide) (by decide) (by decide) hr, ?_, ?_, ?_⟩, by simp; omega⟩
          · intro hm; exact hs (by simp at hm ⊢; exact hm)
          · intro hm; exact ho (by simp at hm ⊢; exact hm)
          · intro hm; exact ha (by simp at hm ⊢; exact hm)
        · rw [toks_bad 33 _ (by decide) (by decide) (by decide) (by decide) (by simp [hd]) (by simp)] at he; cases he
  · have he := h.ends
    have hr := h.rel
    have hs := h.semi
    have ho := h.ho
    have ha := h.ha
    rw [toks_appE _ _ u33] at he hr
    by_cases hf : (toks U).2 = true
    · rw [if_pos hf] at he; cases he
    · rw [if_neg hf, toks_sign 61 V' (by decide) (by decide) (by decide) (by decide) (by decide) (by decide)] at he hr
      dsimp only at he hr
      have e1 : oth (61 :: V') = 33 :: 61 :: V' := rfl
      have e2 : toks (U ++ 33 :: 61 :: V') = ((toks U).1 ++ [33, 61] :: (toks V').1, (toks V').2) := by
        rw [toks_app _ _ _ brk33, if_neg hf, toks_two 33 61 V' (.inl ⟨rfl, rfl⟩)]
      rw [e1]
      refine ⟨⟨by rw [e2]; exact he, by rw [e2]; exact relT_swap [61] [33, 61] hne (by decide) (by decide) (by decide) hr, ?_, ?_, ?_⟩, by simp; omega⟩
      · intro hm; exact hs (by simp at hm ⊢; exact hm)
      · intro hm; exact ho (by simp at hm ⊢; exact hm)
      · intro hm; exact ha (by simp at hm ⊢; exact hm)

theorem logic_not {A : List UInt8} {a : RelT} {x : OperT} (hm : MayO x) (hA : IsOne A a) (hl : A.length ≤ 900) : ((pickT (oneC ++ oth A) x).1 == 1) = (!relH x a) ∧ (pickT (oneC ++ oth A) x).2 = 0 := by
  obtain ⟨h1, h2⟩ := oth_one hA
  have := pick_cond (C := oth A) hm h1.ends h1.noSemi h1.cond (by omega)
  refine ⟨?_, this.2⟩
  rw [this.1]
  show ([[_]] : List (List RelT)).any (allH x) = _
  simp only [List.any_cons, List.any_nil, Bool.or_false, allH, List.all_cons, List.all_nil, Bool.and_true]
  unfold relH
  rw [show foundT ⟨a.op, a.div, !a.neq, a.rs⟩ x = foundT a x from rfl]
  cases foundT a x <;> cases a.neq <;> rfl

end Go.Proofs.YthkkndaednienaaGreatDoor

namespace Go.Proofs.YthkkndaednienaaGreatDoor
open Go.RowKit

theorem readCategory_is (t : Tok) (w : World) {o : Option Nat} (h : catT t = o) : Calls Tryz.prog 157 #[.string (mkB t)] w (Ans o IsNum w) := h ▸ readCategory_any t w

def IsEntry (y : (Nat × Nat) × Nat) (v : Value) (_ : World) : Prop := v = .agg #[.int .i64 (y.1.1 : Int), .int .i64 (y.1.2 : Int), .int .i64 (y.2 : Int)]

theorem Blk.put3 {w : World} {b : Nat} {t : TypeId} {x0 x1 x2 : Value} (h : Blk w b #[x0, x1, x2] t) (y0 y1 y2 : Value) : Blk (((w.setCell ⟨b, 0, none⟩ y0).setCell ⟨b, 1, none⟩ y1).setCell ⟨b, 2, none⟩ y2) b #[y0, y1, y2] t := by
  unfold Blk at *
  simp only [World.setCell, Array.getElem?_modify, if_true, h, Option.map_some]
  rfl

set_option maxHeartbeats 1000000 in
theorem ent_p (g off cap : Nat) (a p b c d : Tok) (hp : p ≠ [43]) (w : World) (hv : TokV w g off cap [a, p, b, c, d] (.slice (some ⟨g, off, none⟩) 5 cap)) :
    Calls Tryz.prog 116 #[.slice (some ⟨g, off, none⟩) 5 cap] w (Ans (none : Option ((Nat × Nat) × Nat)) IsEntry w) := by
  have BR := hide (Blk.newAt w w.heap.size rfl #[.int .i64 0, .int .i64 0, .int .i64 0] 144)
  have HB : Hid (Below w.heap.size w (w.alloc (.cells #[.int .i64 0, .int .i64 0, .int .i64 0] 144))) := (Below.refl w.heap.size w).alloc (Nat.le_refl _) _
  have HT := hide (hv.below HB.out)
  have hcap : 5 ≤ cap := hv.2.1
  have hcm : cap ≤ 9223372036854775807 := hv.2.2.1
  have hgn : ¬ g = w.heap.size := by have := hv.2.2.2.1; omega
  have hgm : ¬ w.heap.size = g := by have := hv.2.2.2.1; omega
  have r0 := HT.out.cell 0 _ rfl
  have r1 := HT.out.cell 1 _ rfl
  have r2 := HT.out.cell 2 _ rfl
  have r3 := HT.out.cell 3 _ rfl
  have r4 := HT.out.cell 4 _ rfl
  rw [Nat.add_zero] at r0
  have hq := ne_lit hp
  clear hp hv HT r0 r2 r3 r4 BR
  go_enter Tryz.func116, Tryz.ntmps116
  go_wp2
  exact ⟨rfl, Ans.panic rfl HB.out⟩

set_option maxHeartbeats 1000000 in
theorem ent_c (g off cap : Nat) (a b c d : Tok) (hc : c ≠ [58]) (w : World) (hv : TokV w g off cap [a, [43], b, c, d] (.slice (some ⟨g, off, none⟩) 5 cap)) :
    Calls Tryz.prog 116 #[.slice (some ⟨g, off, none⟩) 5 cap] w (Ans (none : Option ((Nat × Nat) × Nat)) IsEntry w) := by
  have BR := hide (Blk.newAt w w.heap.size rfl #[.int .i64 0, .int .i64 0, .int .i64 0] 144)
  have HB : Hid (Below w.heap.size w (w.alloc (.cells #[.int .i64 0, .int .i64 0, .int .i64 0] 144))) := (Below.refl w.heap.size w).alloc (Nat.le_refl _) _
  have HT := hide (hv.below HB.out)
  have hcap : 5 ≤ cap := hv.2.1
  have hcm : cap ≤ 9223372036854775807 := hv.2.2.1
  have hgn : ¬ g = w.heap.size := by have := hv.2.2.2.1; omega
  have hgm : ¬ w.heap.size = g := by have := hv.2.2.2.1; omega
  have r0 := HT.out.cell 0 _ rfl
  have r1 := HT.out.cell 1 _ rfl
  have r2 := HT.out.cell 2 _ rfl
  have r3 := HT.out.cell 3 _ rfl
  have r4 := HT.out.cell 4 _ rfl
  rw [Nat.add_zero] at r0
  rw [show mkB [43] = ⟨#[43]⟩ from rfl] at r1
  have hq := ne_lit hc
  clear hc hv HT r0 r2 r4 BR
  go_enter Tryz.func116, Tryz.ntmps116
  go_wp2
  exact ⟨rfl, Ans.panic rfl HB.out⟩

theorem ent_x (a : Option Addr) (n cap : Nat) (w : World) (h : n ≠ 5) : Calls Tryz.prog 116 #[.slice a n cap] w (Ans (none : Option ((Nat × Nat) × Nat)) IsEntry w) := by
  have HB : Hid (Below w.heap.size w (w.alloc (.cells #[.int .i64 0, .int .i64 0, .int .i64 0] 144))) := (Below.refl w.heap.size w).alloc (Nat.le_refl _) _
  have q1 : ((n : Int) != 5) = true := by rw [bne_iff_ne]; omega
  clear h
  go_enter Tryz.func116, Tryz.ntmps116
  go_wp2
  exact ⟨rfl, Ans.panic rfl HB.out⟩

set_option maxHeartbeats 1000000 in
theorem ent_y (g off cap : Nat) (a b d : Tok) (x y z : Nat) (h0 : catT a = some x) (h1 : catT b = some y) (h2 : catT d = some z) (w : World) (hv : TokV w g off cap [a, [43], b, [58], d] (.slice (some ⟨g, off, none⟩) 5 cap)) :
    Calls Tryz.prog 116 #[.slice (some ⟨g, off, none⟩) 5 cap] w (Ans (some ((x, y), z)) IsEntry w) := by
  have BR := hide (Blk.newAt w w.heap.size rfl #[.int .i64 0, .int .i64 0, .int .i64 0] 144)
  have HB : Hid (Below w.heap.size w (w.alloc (.cells #[.int .i64 0, .int .i64 0, .int .i64 0] 144))) := (Below.refl w.heap.size w).alloc (Nat.le_refl _) _
  have HT := hide (hv.below HB.out)
  have hcap : 5 ≤ cap := hv.2.1
  have hcm : cap ≤ 9223372036854775807 := hv.2.2.1
  have hgn : ¬ g = w.heap.size := by have := hv.2.2.2.1; omega
  have hgm : ¬ w.heap.size = g := by have := hv.2.2.2.1; omega
  have r0 := HT.out.cell 0 _ rfl
  have r1 := HT.out.cell 1 _ rfl
  have r2 := HT.out.cell 2 _ rfl
  have r3 := HT.out.cell 3 _ rfl
  have r4 := HT.out.cell 4 _ rfl
  rw [Nat.add_zero] at r0
  rw [show mkB [43] = ⟨#[43]⟩ from rfl] at r1
  rw [show mkB [58] = ⟨#[58]⟩ from rfl] at r3
  have HLT := hide (HT.out.2.2.2.1)
  have HC : Hid (∀ w', Below (w.alloc (.cells #[.int .i64 0, .int .i64 0, .int .i64 0] 144)).heap.size (w.alloc (.cells #[.int .i64 0, .int .i64 0, .int .i64 0] 144)) w' → w'.cell? ⟨g, off, none⟩ = some (.string (mkB a)) ∧ w'.cell? ⟨g, off + 2, none⟩ = some (.string (mkB b)) ∧ w'.cell? ⟨g, off + 4, none⟩ = some (.string (mkB d))) := fun w' hb => ⟨(hb.cell (p := ⟨g, off, none⟩) HLT.out).trans r0, (hb.cell (p := ⟨g, off + 2, none⟩) HLT.out).trans r2, (hb.cell (p := ⟨g, off + 4, none⟩) HLT.out).trans r4⟩
  have b0 : Hid (Below (w.alloc (.cells #[.int .i64 0, .int .i64 0, .int .i64 0] 144)).heap.size (w.alloc (.cells #[.int .i64 0, .int .i64 0, .int .i64 0] 144)) (w.alloc (.cells #[.int .i64 0, .int .i64 0, .int .i64 0] 144)).drew) := bdrewD (w.alloc (.cells #[.int .i64 0, .int .i64 0, .int .i64 0] 144))
  have C0 : Hid (∀ X, Hid (Below (w.alloc (.cells #[.int .i64 0, .int .i64 0, .int .i64 0] 144)).heap.size (w.alloc (.cells #[.int .i64 0, .int .i64 0, .int .i64 0] 144)) X) → Calls Tryz.prog 157 #[.string (mkB a)] X fun e w' => e = .returned (.int .i64 (x : Int)) ∧ Hid (Below (w.alloc (.cells #[.int .i64 0, .int .i64 0, .int .i64 0] 144)).heap.size (w.alloc (.cells #[.int .i64 0, .int .i64 0, .int .i64 0] 144)) w') ∧ w'.cell? ⟨g, off, none⟩ = some (.string (mkB a)) ∧ w'.cell? ⟨g, off + 2, none⟩ = some (.string (mkB b)) ∧ w'.cell? ⟨g, off + 4, none⟩ = some (.string (mkB d))) := by
    intro X bX
    refine (readCategory_is a X h0).mono ?_
    rintro e w' ⟨hb, v, rfl, rfl⟩
    have bb := bX.out.trans (hb.mono bX.out.size)
    exact ⟨rfl, bb, HC.out _ bb⟩
  have C1 : Hid (∀ X, Hid (Below (w.alloc (.cells #[.int .i64 0, .int .i64 0, .int .i64 0] 144)).heap.size (w.alloc (.cells #[.int .i64 0, .int .i64 0, .int .i64 0] 144)) X) → Calls Tryz.prog 157 #[.string (mkB b)] X fun e w' => e = .returned (.int .i64 (y : Int)) ∧ Hid (Below (w.alloc (.cells #[.int .i64 0, .int .i64 0, .int .i64 0] 144)).heap.size (w.alloc (.cells #[.int .i64 0, .int .i64 0, .int .i64 0] 144)) w') ∧ w'.cell? ⟨g, off, none⟩ = some (.string (mkB a)) ∧ w'.cell? ⟨g, off + 2, none⟩ = some (.string (mkB b)) ∧ w'.cell? ⟨g, off + 4, none⟩ = some (.string (mkB d))) := by
    intro X bX
    refine (readCategory_is b X h1).mono ?_
    rintro e w' ⟨hb, v, rfl, rfl⟩
    have bb := bX.out.trans (hb.mono bX.out.size)
    exact ⟨rfl, bb, HC.out _ bb⟩
  have C2 : Hid (∀ X, Hid (Below (w.alloc (.cells #[.int .i64 0, .int .i64 0, .int .i64 0] 144)).heap.size (w.alloc (.cells #[.int .i64 0, .int .i64 0, .int .i64 0] 144)) X) → Calls Tryz.prog 157 #[.string (mkB d)] X fun e w' => e = .returned (.int .i64 (z : Int)) ∧ Hid (Below (w.alloc (.cells #[.int .i64 0, .int .i64 0, .int .i64 0] 144)).heap.size (w.alloc (.cells #[.int .i64 0, .int .i64 0, .int .i64 0] 144)) w') ∧ w'.cell? ⟨g, off, none⟩ = some (.string (mkB a)) ∧ w'.cell? ⟨g, off + 2, none⟩ = some (.string (mkB b)) ∧ w'.cell? ⟨g, off + 4, none⟩ = some (.string (mkB d))) := by
    intro X bX
    refine (readCategory_is d X h2).mono ?_
    rintro e w' ⟨hb, v, rfl, rfl⟩
    have bb := bX.out.trans (hb.mono bX.out.size)
    exact ⟨rfl, bb, HC.out _ bb⟩
  clear hv HT HC HLT h0 h1 h2
  go_enter Tryz.func116, Tryz.ntmps116
  go_wp2_with fail
  refine wp_region_held_drew (S := (fun w' => w'.cell? ⟨g, off, none⟩ = some (.string (mkB a)) ∧ w'.cell? ⟨g, off + 2, none⟩ = some (.string (mkB b)) ∧ w'.cell? ⟨g, off + 4, none⟩ = some (.string (mkB d)))) (by kernel_rfl) ?_ (fun hHeld => ?_)
  · (try dsimp only)
    go_keep
  refine wpAnyH_take (i := 0) (oi := Oper.mk (some 19) _ _ _ _ _) (v := .slice (some ⟨g, off, none⟩) 5 cap) rfl (by kernel_rfl) (by kernel_rfl) (by kernel_rfl) (fun _ _ _ h => h) (Or.inl ⟨by rfl, ?_⟩) (by assumption) ?_
  · intro wX hSw
    (try dsimp only at hSw)
    go_simp
  simp only [Act.put, List.setIfInBounds_toArray, List.set_cons_succ, List.set_cons_zero]
  refine wpAnyH_take (i := 1) (oi := Oper.mk (some 20) _ _ _ _ _) (v := .pointer (some ⟨g, off, none⟩)) rfl (by kernel_rfl) (by kernel_rfl) (by kernel_rfl) (fun _ _ _ h => h) (Or.inl ⟨by rfl, ?_⟩) (by assumption) ?_
  · intro wX hSw
    (try dsimp only at hSw)
    go_simp
  simp only [Act.put, List.setIfInBounds_toArray, List.set_cons_succ, List.set_cons_zero]
  refine wpAnyH_take (i := 2) (oi := Oper.mk (some 21) _ _ _ _ _) (v := .string (mkB a)) rfl (by kernel_rfl) (by kernel_rfl) (by kernel_rfl) (fun _ _ _ h => h) (Or.inl ⟨by rfl, ?_⟩) (by assumption) ?_
  · intro wX hSw
    (try dsimp only at hSw)
    go_simp
  simp only [Act.put, List.setIfInBounds_toArray, List.set_cons_succ, List.set_cons_zero]
  refine wpAnyH_take (i := 4) (oi := Oper.mk (some 23) _ _ _ _ _) (v := .slice (some ⟨g, off, none⟩) 5 cap) rfl (by kernel_rfl) (by kernel_rfl) (by kernel_rfl) (fun _ _ _ h => h) (Or.inl ⟨by rfl, ?_⟩) (by assumption) ?_
  · intro wX hSw
    (try dsimp only at hSw)
    go_simp
  simp only [Act.put, List.setIfInBounds_toArray, List.set_cons_succ, List.set_cons_zero]
  refine wpAnyH_take (i := 5) (oi := Oper.mk (some 24) _ _ _ _ _) (v := .pointer (some ⟨g, off + 2, none⟩)) rfl (by kernel_rfl) (by kernel_rfl) (by kernel_rfl) (fun _ _ _ h => h) (Or.inl ⟨by rfl, ?_⟩) (by assumption) ?_
  · intro wX hSw
    (try dsimp only at hSw)
    go_simp
  simp only [Act.put, List.setIfInBounds_toArray, List.set_cons_succ, List.set_cons_zero]
  refine wpAnyH_take (i := 6) (oi := Oper.mk (some 25) _ _ _ _ _) (v := .string (mkB b)) rfl (by kernel_rfl) (by kernel_rfl) (by kernel_rfl) (fun _ _ _ h => h) (Or.inl ⟨by rfl, ?_⟩) (by assumption) ?_
  · intro wX hSw
    (try dsimp only at hSw)
    go_simp
  simp only [Act.put, List.setIfInBounds_toArray, List.set_cons_succ, List.set_cons_zero]
  refine wpAnyH_take (i := 8) (oi := Oper.mk (some 27) _ _ _ _ _) (v := .slice (some ⟨g, off, none⟩) 5 cap) rfl (by kernel_rfl) (by kernel_rfl) (by kernel_rfl) (fun _ _ _ h => h) (Or.inl ⟨by rfl, ?_⟩) (by assumption) ?_
  · intro wX hSw
    (try dsimp only at hSw)
    go_simp
  simp only [Act.put, List.setIfInBounds_toArray, List.set_cons_succ, List.set_cons_zero]
  refine wpAnyH_take (i := 9) (oi := Oper.mk (some 28) _ _ _ _ _) (v := .pointer (some ⟨g, off + 4, none⟩)) rfl (by kernel_rfl) (by kernel_rfl) (by kernel_rfl) (fun _ _ _ h => h) (Or.inl ⟨by rfl, ?_⟩) (by assumption) ?_
  · intro wX hSw
    (try dsimp only at hSw)
    go_simp
  simp only [Act.put, List.setIfInBounds_toArray, List.set_cons_succ, List.set_cons_zero]
  refine wpAnyH_take (i := 10) (oi := Oper.mk (some 29) _ _ _ _ _) (v := .string (mkB d)) rfl (by kernel_rfl) (by kernel_rfl) (by kernel_rfl) (fun _ _ _ h => h) (Or.inl ⟨by rfl, ?_⟩) (by assumption) ?_
  · intro wX hSw
    (try dsimp only at hSw)
    go_simp
  simp only [Act.put, List.setIfInBounds_toArray, List.set_cons_succ, List.set_cons_zero]
  refine wpAnyH_ready (rs := [3]) (by kernel_rfl) (by simp) ?_
  refine AllReadyH.cons (o := Oper.mk (some 22) _ _ _ _ _) rfl (fun K hK => ?_) AllReadyH.nil
  go_simp
  refine (C0.out _ b0).mono ?_
  rintro e v1 ⟨rfl, b1, q00, q01, q02⟩
  refine hK.out _ _ ?_ (fun hHeld => ?_)
  · (try dsimp only)
    go_keep
  clear hK K
  refine wpAnyH_ready (rs := [7]) (by kernel_rfl) (by simp) ?_
  refine AllReadyH.cons (o := Oper.mk (some 26) _ _ _ _ _) rfl (fun K hK => ?_) AllReadyH.nil
  go_simp
  refine (C1.out _ b1).mono ?_
  rintro e v2 ⟨rfl, b2, q10, q11, q12⟩
  refine hK.out _ _ ?_ (fun hHeld => ?_)
  · (try dsimp only)
    go_keep
  clear hK K
  refine wpAnyH_ready (rs := [11]) (by kernel_rfl) (by simp) ?_
  refine AllReadyH.cons (o := Oper.mk (some 30) _ _ _ _ _) rfl (fun K hK => ?_) AllReadyH.nil
  go_simp
  refine (C2.out _ b2).mono ?_
  rintro e v3 ⟨rfl, b3, q20, q21, q22⟩
  have HB1 := hide (HB.out.trans (b3.out.mono HB.out.size))
  have BR1 := Blk.on BR b3.out
  obtain ⟨f0, f1, f2⟩ : v3.frozen? ⟨w.heap.size, 0, none⟩ = false ∧ v3.frozen? ⟨w.heap.size, 1, none⟩ = false ∧ v3.frozen? ⟨w.heap.size, 2, none⟩ = false := ⟨BR1.out.free 0, BR1.out.free 1, BR1.out.free 2⟩
  have c0 := BR1.out.cell 0
  have c1 := BR1.out.cell 1
  have c2 := BR1.out.cell 2
  simp at c0 c1 c2
  refine hK.out _ _ ?_ (fun hHeld => ?_)
  · (try dsimp only)
    go_keep
  clear hK K
  refine wpAnyH_take (i := 12) (oi := Oper.mk (some 31) _ _ _ _ _) (v := .agg #[.int .i64 (x : Int), .int .i64 (y : Int), .int .i64 (z : Int)]) rfl (by kernel_rfl) (by kernel_rfl) (by kernel_rfl) (fun _ _ _ h => h) (Or.inl ⟨by rfl, ?_⟩) (by assumption) ?_
  · intro wX hSw
    (try dsimp only at hSw)
    go_simp
  simp only [Act.put, List.setIfInBounds_toArray, List.set_cons_succ, List.set_cons_zero]
  refine wpAnyH_ready (rs := [13]) (by kernel_rfl) (by simp) ?_
  refine AllReadyH.cons (o := Oper.mk none _ _ _ _ _) rfl (fun K hK => ?_) AllReadyH.nil
  go_simp
  refine hK.out _ _ ?_ (fun hHeld => ?_)
  · (try dsimp only)
    go_keep
  clear hK K
  refine wpAnyH_done (by kernel_rfl) ?_ _
  go_wp2
  refine bodyPost_ret (results_entry rfl _ _ _ _ _ _ rfl (BR1.out.put3 _ _ _)) rfl ?_
  exact Ans.ret rfl (((HB1.out.setCell (p := ⟨w.heap.size, 0, none⟩) (Nat.le_refl _) _).setCell (p := ⟨w.heap.size, 1, none⟩) (Nat.le_refl _) _).setCell (p := ⟨w.heap.size, 2, none⟩) (Nat.le_refl _) _) rfl

set_option maxHeartbeats 1000000 in
theorem ent_2 (g off cap : Nat) (a b d : Tok) (x y : Nat) (h0 : catT a = some x) (h1 : catT b = some y) (h2 : catT d = none) (w : World) (hv : TokV w g off cap [a, [43], b, [58], d] (.slice (some ⟨g, off, none⟩) 5 cap)) :
    Calls Tryz.prog 116 #[.slice (some ⟨g, off, none⟩) 5 cap] w (Ans (none : Option ((Nat × Nat) × Nat)) IsEntry w) := by
  have BR := hide (Blk.newAt w w.heap.size rfl #[.int .i64 0, .int .i64 0, .int .i64 0] 144)
  have HB : Hid (Below w.heap.size w (w.alloc (.cells #[.int .i64 0, .int .i64 0, .int .i64 0] 144))) := (Below.refl w.heap.size w).alloc (Nat.le_refl _) _
  have HT := hide (hv.below HB.out)
  have hcap : 5 ≤ cap := hv.2.1
  have hcm : cap ≤ 9223372036854775807 := hv.2.2.1
  have hgn : ¬ g = w.heap.size := by have := hv.2.2.2.1; omega
  have hgm : ¬ w.heap.size = g := by have := hv.2.2.2.1; omega
  have r0 := HT.out.cell 0 _ rfl
  have r1 := HT.out.cell 1 _ rfl
  have r2 := HT.out.cell 2 _ rfl
  have r3 := HT.out.cell 3 _ rfl
  have r4 := HT.out.cell 4 _ rfl
  rw [Nat.add_zero] at r0
  rw [show mkB [43] = ⟨#[43]⟩ from rfl] at r1
  rw [show mkB [58] = ⟨#[58]⟩ from rfl] at r3
  have HLT := hide (HT.out.2.2.2.1)
  have HC : Hid (∀ w', Below (w.alloc (.cells #[.int .i64 0, .int .i64 0, .int .i64 0] 144)).heap.size (w.alloc (.cells #[.int .i64 0, .int .i64 0, .int .i64 0] 144)) w' → w'.cell? ⟨g, off, none⟩ = some (.string (mkB a)) ∧ w'.cell? ⟨g, off + 2, none⟩ = some (.string (mkB b)) ∧ w'.cell? ⟨g, off + 4, none⟩ = some (.string (mkB d))) := fun w' hb => ⟨(hb.cell (p := ⟨g, off, none⟩) HLT.out).trans r0, (hb.cell (p := ⟨g, off + 2, none⟩) HLT.out).trans r2, (hb.cell (p := ⟨g, off + 4, none⟩) HLT.out).trans r4⟩
  have b0 : Hid (Below (w.alloc (.cells #[.int .i64 0, .int .i64 0, .int .i64 0] 144)).heap.size (w.alloc (.cells #[.int .i64 0, .int .i64 0, .int .i64 0] 144)) (w.alloc (.cells #[.int .i64 0, .int .i64 0, .int .i64 0] 144)).drew) := bdrewD (w.alloc (.cells #[.int .i64 0, .int .i64 0, .int .i64 0] 144))
  have C0 : Hid (∀ X, Hid (Below (w.alloc (.cells #[.int .i64 0, .int .i64 0, .int .i64 0] 144)).heap.size (w.alloc (.cells #[.int .i64 0, .int .i64 0, .int .i64 0] 144)) X) → Calls Tryz.prog 157 #[.string (mkB a)] X fun e w' => e = .returned (.int .i64 (x : Int)) ∧ Hid (Below (w.alloc (.cells #[.int .i64 0, .int .i64 0, .int .i64 0] 144)).heap.size (w.alloc (.cells #[.int .i64 0, .int .i64 0, .int .i64 0] 144)) w') ∧ w'.cell? ⟨g, off, none⟩ = some (.string (mkB a)) ∧ w'.cell? ⟨g, off + 2, none⟩ = some (.string (mkB b)) ∧ w'.cell? ⟨g, off + 4, none⟩ = some (.string (mkB d))) := by
    intro X bX
    refine (readCategory_is a X h0).mono ?_
    rintro e w' ⟨hb, v, rfl, rfl⟩
    have bb := bX.out.trans (hb.mono bX.out.size)
    exact ⟨rfl, bb, HC.out _ bb⟩
  have C1 : Hid (∀ X, Hid (Below (w.alloc (.cells #[.int .i64 0, .int .i64 0, .int .i64 0] 144)).heap.size (w.alloc (.cells #[.int .i64 0, .int .i64 0, .int .i64 0] 144)) X) → Calls Tryz.prog 157 #[.string (mkB b)] X fun e w' => e = .returned (.int .i64 (y : Int)) ∧ Hid (Below (w.alloc (.cells #[.int .i64 0, .int .i64 0, .int .i64 0] 144)).heap.size (w.alloc (.cells #[.int .i64 0, .int .i64 0, .int .i64 0] 144)) w') ∧ w'.cell? ⟨g, off, none⟩ = some (.string (mkB a)) ∧ w'.cell? ⟨g, off + 2, none⟩ = some (.string (mkB b)) ∧ w'.cell? ⟨g, off + 4, none⟩ = some (.string (mkB d))) := by
    intro X bX
    refine (readCategory_is b X h1).mono ?_
    rintro e w' ⟨hb, v, rfl, rfl⟩
    have bb := bX.out.trans (hb.mono bX.out.size)
    exact ⟨rfl, bb, HC.out _ bb⟩
  have C2 : Hid (∀ X, Hid (Below (w.alloc (.cells #[.int .i64 0, .int .i64 0, .int .i64 0] 144)).heap.size (w.alloc (.cells #[.int .i64 0, .int .i64 0, .int .i64 0] 144)) X) → Calls Tryz.prog 157 #[.string (mkB d)] X fun e w' => e = .panicked PC ∧ Hid (Below (w.alloc (.cells #[.int .i64 0, .int .i64 0, .int .i64 0] 144)).heap.size (w.alloc (.cells #[.int .i64 0, .int .i64 0, .int .i64 0] 144)) w')) := by
    intro X bX
    refine (readCategory_is d X h2).mono ?_
    rintro e w' ⟨hb, rfl⟩
    exact ⟨rfl, bX.out.trans (hb.mono bX.out.size)⟩
  clear hv HT HC HLT h0 h1 h2 hgn hgm
  go_enter Tryz.func116, Tryz.ntmps116
  go_wp2_with fail
  refine wp_region_held_drew (S := (fun w' => w'.cell? ⟨g, off, none⟩ = some (.string (mkB a)) ∧ w'.cell? ⟨g, off + 2, none⟩ = some (.string (mkB b)) ∧ w'.cell? ⟨g, off + 4, none⟩ = some (.string (mkB d)))) (by kernel_rfl) ?_ (fun hHeld => ?_)
  · (try dsimp only)
    go_keep
  refine wpAnyH_take (i := 0) (oi := Oper.mk (some 19) _ _ _ _ _) (v := .slice (some ⟨g, off, none⟩) 5 cap) rfl (by kernel_rfl) (by kernel_rfl) (by kernel_rfl) (fun _ _ _ h => h) (Or.inl ⟨by rfl, ?_⟩) (by assumption) ?_
  · intro wX hSw
    (try dsimp only at hSw)
    go_simp
  simp only [Act.put, List.setIfInBounds_toArray, List.set_cons_succ, List.set_cons_zero]
  refine wpAnyH_take (i := 1) (oi := Oper.mk (some 20) _ _ _ _ _) (v := .pointer (some ⟨g, off, none⟩)) rfl (by kernel_rfl) (by kernel_rfl) (by kernel_rfl) (fun _ _ _ h => h) (Or.inl ⟨by rfl, ?_⟩) (by assumption) ?_
  · intro wX hSw
    (try dsimp only at hSw)
    go_simp
  simp only [Act.put, List.setIfInBounds_toArray, List.set_cons_succ, List.set_cons_zero]
  refine wpAnyH_take (i := 2) (oi := Oper.mk (some 21) _ _ _ _ _) (v := .string (mkB a)) rfl (by kernel_rfl) (by kernel_rfl) (by kernel_rfl) (fun _ _ _ h => h) (Or.inl ⟨by rfl, ?_⟩) (by assumption) ?_
  · intro wX hSw
    (try dsimp only at hSw)
    go_simp
  simp only [Act.put, List.setIfInBounds_toArray, List.set_cons_succ, List.set_cons_zero]
  refine wpAnyH_take (i := 4) (oi := Oper.mk (some 23) _ _ _ _ _) (v := .slice (some ⟨g, off, none⟩) 5 cap) rfl (by kernel_rfl) (by kernel_rfl) (by kernel_rfl) (fun _ _ _ h => h) (Or.inl ⟨by rfl, ?_⟩) (by assumption) ?_
  · intro wX hSw
    (try dsimp only at hSw)
    go_simp
  simp only [Act.put, List.setIfInBounds_toArray, List.set_cons_succ, List.set_cons_zero]
  refine wpAnyH_take (i := 5) (oi := Oper.mk (some 24) _ _ _ _ _) (v := .pointer (some ⟨g, off + 2, none⟩)) rfl (by kernel_rfl) (by kernel_rfl) (by kernel_rfl) (fun _ _ _ h => h) (Or.inl ⟨by rfl, ?_⟩) (by assumption) ?_
  · intro wX hSw
    (try dsimp only at hSw)
    go_simp
  simp only [Act.put, List.setIfInBounds_toArray, List.set_cons_succ, List.set_cons_zero]
  refine wpAnyH_take (i := 6) (oi := Oper.mk (some 25) _ _ _ _ _) (v := .string (mkB b)) rfl (by kernel_rfl) (by kernel_rfl) (by kernel_rfl) (fun _ _ _ h => h) (Or.inl ⟨by rfl, ?_⟩) (by assumption) ?_
  · intro wX hSw
    (try dsimp only at hSw)
    go_simp
  simp only [Act.put, List.setIfInBounds_toArray, List.set_cons_succ, List.set_cons_zero]
  refine wpAnyH_take (i := 8) (oi := Oper.mk (some 27) _ _ _ _ _) (v := .slice (some ⟨g, off, none⟩) 5 cap) rfl (by kernel_rfl) (by kernel_rfl) (by kernel_rfl) (fun _ _ _ h => h) (Or.inl ⟨by rfl, ?_⟩) (by assumption) ?_
  · intro wX hSw
    (try dsimp only at hSw)
    go_simp
  simp only [Act.put, List.setIfInBounds_toArray, List.set_cons_succ, List.set_cons_zero]
  refine wpAnyH_take (i := 9) (oi := Oper.mk (some 28) _ _ _ _ _) (v := .pointer (some ⟨g, off + 4, none⟩)) rfl (by kernel_rfl) (by kernel_rfl) (by kernel_rfl) (fun _ _ _ h => h) (Or.inl ⟨by rfl, ?_⟩) (by assumption) ?_
  · intro wX hSw
    (try dsimp only at hSw)
    go_simp
  simp only [Act.put, List.setIfInBounds_toArray, List.set_cons_succ, List.set_cons_zero]
  refine wpAnyH_take (i := 10) (oi := Oper.mk (some 29) _ _ _ _ _) (v := .string (mkB d)) rfl (by kernel_rfl) (by kernel_rfl) (by kernel_rfl) (fun _ _ _ h => h) (Or.inl ⟨by rfl, ?_⟩) (by assumption) ?_
  · intro wX hSw
    (try dsimp only at hSw)
    go_simp
  simp only [Act.put, List.setIfInBounds_toArray, List.set_cons_succ, List.set_cons_zero]
  refine wpAnyH_ready (rs := [3]) (by kernel_rfl) (by simp) ?_
  refine AllReadyH.cons (o := Oper.mk (some 22) _ _ _ _ _) rfl (fun K hK => ?_) AllReadyH.nil
  go_simp
  refine (C0.out _ b0).mono ?_
  rintro e v1 ⟨rfl, b1, q00, q01, q02⟩
  refine hK.out _ _ ?_ (fun hHeld => ?_)
  · (try dsimp only)
    go_keep
  clear hK K
  refine wpAnyH_ready (rs := [7]) (by kernel_rfl) (by simp) ?_
  refine AllReadyH.cons (o := Oper.mk (some 26) _ _ _ _ _) rfl (fun K hK => ?_) AllReadyH.nil
  go_simp
  refine (C1.out _ b1).mono ?_
  rintro e v2 ⟨rfl, b2, q10, q11, q12⟩
  refine hK.out _ _ ?_ (fun hHeld => ?_)
  · (try dsimp only)
    go_keep
  clear hK K
  refine wpAnyH_ready (rs := [11]) (by kernel_rfl) (by simp) ?_
  refine AllReadyH.cons (o := Oper.mk (some 30) _ _ _ _ _) rfl (fun K hK => ?_) AllReadyH.nil
  go_simp
  refine (C2.out _ b2).mono ?_
  rintro e v3 ⟨rfl, b3⟩
  exact ⟨rfl, Ans.panic rfl (HB.out.trans (b3.out.mono HB.out.size))⟩

set_option maxHeartbeats 1000000 in
theorem ent_1 (g off cap : Nat) (a b d : Tok) (x : Nat) (h0 : catT a = some x) (h1 : catT b = none) (w : World) (hv : TokV w g off cap [a, [43], b, [58], d] (.slice (some ⟨g, off, none⟩) 5 cap)) :
    Calls Tryz.prog 116 #[.slice (some ⟨g, off, none⟩) 5 cap] w (Ans (none : Option ((Nat × Nat) × Nat)) IsEntry w) := by
  have BR := hide (Blk.newAt w w.heap.size rfl #[.int .i64 0, .int .i64 0, .int .i64 0] 144)
  have HB : Hid (Below w.heap.size w (w.alloc (.cells #[.int .i64 0, .int .i64 0, .int .i64 0] 144))) := (Below.refl w.heap.size w).alloc (Nat.le_refl _) _
  have HT := hide (hv.below HB.out)
  have hcap : 5 ≤ cap := hv.2.1
  have hcm : cap ≤ 9223372036854775807 := hv.2.2.1
  have hgn : ¬ g = w.heap.size := by have := hv.2.2.2.1; omega
  have hgm : ¬ w.heap.size = g := by have := hv.2.2.2.1; omega
  have r0 := HT.out.cell 0 _ rfl
  have r1 := HT.out.cell 1 _ rfl
  have r2 := HT.out.cell 2 _ rfl
  have r3 := HT.out.cell 3 _ rfl
  have r4 := HT.out.cell 4 _ rfl
  rw [Nat.add_zero] at r0
  rw [show mkB [43] = ⟨#[43]⟩ from rfl] at r1
  rw [show mkB [58] = ⟨#[58]⟩ from rfl] at r3
  have HLT := hide (HT.out.2.2.2.1)
  have HC : Hid (∀ w', Below (w.alloc (.cells #[.int .i64 0, .int .i64 0, .int .i64 0] 144)).heap.size (w.alloc (.cells #[.int .i64 0, .int .i64 0, .int .i64 0] 144)) w' → w'.cell? ⟨g, off, none⟩ = some (.string (mkB a)) ∧ w'.cell? ⟨g, off + 2, none⟩ = some (.string (mkB b)) ∧ w'.cell? ⟨g, off + 4, none⟩ = some (.string (mkB d))) := fun w' hb => ⟨(hb.cell (p := ⟨g, off, none⟩) HLT.out).trans r0, (hb.cell (p := ⟨g, off + 2, none⟩) HLT.out).trans r2, (hb.cell (p := ⟨g, off + 4, none⟩) HLT.out).trans r4⟩
  have b0 : Hid (Below (w.alloc (.cells #[.int .i64 0, .int .i64 0, .int .i64 0] 144)).heap.size (w.alloc (.cells #[.int .i64 0, .int .i64 0, .int .i64 0] 144)) (w.alloc (.cells #[.int .i64 0, .int .i64 0, .int .i64 0] 144)).drew) := bdrewD (w.alloc (.cells #[.int .i64 0, .int .i64 0, .int .i64 0] 144))
  have C0 : Hid (∀ X, Hid (Below (w.alloc (.cells #[.int .i64 0, .int .i64 0, .int .i64 0] 144)).heap.size (w.alloc (.cells #[.int .i64 0, .int .i64 0, .int .i64 0] 144)) X) → Calls Tryz.prog 157 #[.string (mkB a)] X fun e w' => e = .returned (.int .i64 (x : Int)) ∧ Hid (Below (w.alloc (.cells #[.int .i64 0, .int .i64 0, .int .i64 0] 144)).heap.size (w.alloc (.cells #[.int .i64 0, .int .i64 0, .int .i64 0] 144)) w') ∧ w'.cell? ⟨g, off, none⟩ = some (.string (mkB a)) ∧ w'.cell? ⟨g, off + 2, none⟩ = some (.string (mkB b)) ∧ w'.cell? ⟨g, off + 4, none⟩ = some (.string (mkB d))) := by
    intro X bX
    refine (readCategory_is a X h0).mono ?_
    rintro e w' ⟨hb, v, rfl, rfl⟩
    have bb := bX.out.trans (hb.mono bX.out.size)
    exact ⟨rfl, bb, HC.out _ bb⟩
  have C1 : Hid (∀ X, Hid (Below (w.alloc (.cells #[.int .i64 0, .int .i64 0, .int .i64 0] 144)).heap.size (w.alloc (.cells #[.int .i64 0, .int .i64 0, .int .i64 0] 144)) X) → Calls Tryz.prog 157 #[.string (mkB b)] X fun e w' => e = .panicked PC ∧ Hid (Below (w.alloc (.cells #[.int .i64 0, .int .i64 0, .int .i64 0] 144)).heap.size (w.alloc (.cells #[.int .i64 0, .int .i64 0, .int .i64 0] 144)) w')) := by
    intro X bX
    refine (readCategory_is b X h1).mono ?_
    rintro e w' ⟨hb, rfl⟩
    exact ⟨rfl, bX.out.trans (hb.mono bX.out.size)⟩
  clear hv HT HC HLT h0 h1 hgn hgm
  go_enter Tryz.func116, Tryz.ntmps116
  go_wp2_with fail
  refine wp_region_held_drew (S := (fun w' => w'.cell? ⟨g, off, none⟩ = some (.string (mkB a)) ∧ w'.cell? ⟨g, off + 2, none⟩ = some (.string (mkB b)) ∧ w'.cell? ⟨g, off + 4, none⟩ = some (.string (mkB d)))) (by kernel_rfl) ?_ (fun hHeld => ?_)
  · (try dsimp only)
    go_keep
  refine wpAnyH_take (i := 0) (oi := Oper.mk (some 19) _ _ _ _ _) (v := .slice (some ⟨g, off, none⟩) 5 cap) rfl (by kernel_rfl) (by kernel_rfl) (by kernel_rfl) (fun _ _ _ h => h) (Or.inl ⟨by rfl, ?_⟩) (by assumption) ?_
  · intro wX hSw
    (try dsimp only at hSw)
    go_simp
  simp only [Act.put, List.setIfInBounds_toArray, List.set_cons_succ, List.set_cons_zero]
  refine wpAnyH_take (i := 1) (oi := Oper.mk (some 20) _ _ _ _ _) (v := .pointer (some ⟨g, off, none⟩)) rfl (by kernel_rfl) (by kernel_rfl) (by kernel_rfl) (fun _ _ _ h => h) (Or.inl ⟨by rfl, ?_⟩) (by assumption) ?_
  · intro wX hSw
    (try dsimp only at hSw)
    go_simp
  simp only [Act.put, List.setIfInBounds_toArray, List.set_cons_succ, List.set_cons_zero]
  refine wpAnyH_take (i := 2) (oi := Oper.mk (some 21) _ _ _ _ _) (v := .string (mkB a)) rfl (by kernel_rfl) (by kernel_rfl) (by kernel_rfl) (fun _ _ _ h => h) (Or.inl ⟨by rfl, ?_⟩) (by assumption) ?_
  · intro wX hSw
    (try dsimp only at hSw)
    go_simp
  simp only [Act.put, List.setIfInBounds_toArray, List.set_cons_succ, List.set_cons_zero]
  refine wpAnyH_take (i := 4) (oi := Oper.mk (some 23) _ _ _ _ _) (v := .slice (some ⟨g, off, none⟩) 5 cap) rfl (by kernel_rfl) (by kernel_rfl) (by kernel_rfl) (fun _ _ _ h => h) (Or.inl ⟨by rfl, ?_⟩) (by assumption) ?_
  · intro wX hSw
    (try dsimp only at hSw)
    go_simp
  simp only [Act.put, List.setIfInBounds_toArray, List.set_cons_succ, List.set_cons_zero]
  refine wpAnyH_take (i := 5) (oi := Oper.mk (some 24) _ _ _ _ _) (v := .pointer (some ⟨g, off + 2, none⟩)) rfl (by kernel_rfl) (by kernel_rfl) (by kernel_rfl) (fun _ _ _ h => h) (Or.inl ⟨by rfl, ?_⟩) (by assumption) ?_
  · intro wX hSw
    (try dsimp only at hSw)
    go_simp
  simp only [Act.put, List.setIfInBounds_toArray, List.set_cons_succ, List.set_cons_zero]
  refine wpAnyH_take (i := 6) (oi := Oper.mk (some 25) _ _ _ _ _) (v := .string (mkB b)) rfl (by kernel_rfl) (by kernel_rfl) (by kernel_rfl) (fun _ _ _ h => h) (Or.inl ⟨by rfl, ?_⟩) (by assumption) ?_
  · intro wX hSw
    (try dsimp only at hSw)
    go_simp
  simp only [Act.put, List.setIfInBounds_toArray, List.set_cons_succ, List.set_cons_zero]
  refine wpAnyH_take (i := 8) (oi := Oper.mk (some 27) _ _ _ _ _) (v := .slice (some ⟨g, off, none⟩) 5 cap) rfl (by kernel_rfl) (by kernel_rfl) (by kernel_rfl) (fun _ _ _ h => h) (Or.inl ⟨by rfl, ?_⟩) (by assumption) ?_
  · intro wX hSw
    (try dsimp only at hSw)
    go_simp
  simp only [Act.put, List.setIfInBounds_toArray, List.set_cons_succ, List.set_cons_zero]
  refine wpAnyH_take (i := 9) (oi := Oper.mk (some 28) _ _ _ _ _) (v := .pointer (some ⟨g, off + 4, none⟩)) rfl (by kernel_rfl) (by kernel_rfl) (by kernel_rfl) (fun _ _ _ h => h) (Or.inl ⟨by rfl, ?_⟩) (by assumption) ?_
  · intro wX hSw
    (try dsimp only at hSw)
    go_simp
  simp only [Act.put, List.setIfInBounds_toArray, List.set_cons_succ, List.set_cons_zero]
  refine wpAnyH_take (i := 10) (oi := Oper.mk (some 29) _ _ _ _ _) (v := .string (mkB d)) rfl (by kernel_rfl) (by kernel_rfl) (by kernel_rfl) (fun _ _ _ h => h) (Or.inl ⟨by rfl, ?_⟩) (by assumption) ?_
  · intro wX hSw
    (try dsimp only at hSw)
    go_simp
  simp only [Act.put, List.setIfInBounds_toArray, List.set_cons_succ, List.set_cons_zero]
  refine wpAnyH_ready (rs := [3]) (by kernel_rfl) (by simp) ?_
  refine AllReadyH.cons (o := Oper.mk (some 22) _ _ _ _ _) rfl (fun K hK => ?_) AllReadyH.nil
  go_simp
  refine (C0.out _ b0).mono ?_
  rintro e v1 ⟨rfl, b1, q00, q01, q02⟩
  refine hK.out _ _ ?_ (fun hHeld => ?_)
  · (try dsimp only)
    go_keep
  clear hK K
  refine wpAnyH_ready (rs := [7]) (by kernel_rfl) (by simp) ?_
  refine AllReadyH.cons (o := Oper.mk (some 26) _ _ _ _ _) rfl (fun K hK => ?_) AllReadyH.nil
  go_simp
  refine (C1.out _ b1).mono ?_
  rintro e v2 ⟨rfl, b2⟩
  exact ⟨rfl, Ans.panic rfl (HB.out.trans (b2.out.mono HB.out.size))⟩

set_option maxHeartbeats 1000000 in
theorem ent_0 (g off cap : Nat) (a b d : Tok) (h0 : catT a = none) (w : World) (hv : TokV w g off cap [a, [43], b, [58], d] (.slice (some ⟨g, off, none⟩) 5 cap)) :
    Calls Tryz.prog 116 #[.slice (some ⟨g, off, none⟩) 5 cap] w (Ans (none : Option ((Nat × Nat) × Nat)) IsEntry w) := by
  have BR := hide (Blk.newAt w w.heap.size rfl #[.int .i64 0, .int .i64 0, .int .i64 0] 144)
  have HB : Hid (Below w.heap.size w (w.alloc (.cells #[.int .i64 0, .int .i64 0, .int .i64 0] 144))) := (Below.refl w.heap.size w).alloc (Nat.le_refl _) _
  have HT := hide (hv.below HB.out)
  have hcap : 5 ≤ cap := hv.2.1
  have hcm : cap ≤ 9223372036854775807 := hv.2.2.1
  have hgn : ¬ g = w.heap.size := by have := hv.2.2.2.1; omega
  have hgm : ¬ w.heap.size = g := by have := hv.2.2.2.1; omega
  have r0 := HT.out.cell 0 _ rfl
  have r1 := HT.out.cell 1 _ rfl
  have r2 := HT.out.cell 2 _ rfl
  have r3 := HT.out.cell 3 _ rfl
  have r4 := HT.out.cell 4 _ rfl
  rw [Nat.add_zero] at r0
  rw [show mkB [43] = ⟨#[43]⟩ from rfl] at r1
  rw [show mkB [58] = ⟨#[58]⟩ from rfl] at r3
  have HLT := hide (HT.out.2.2.2.1)
  have HC : Hid (∀ w', Below (w.alloc (.cells #[.int .i64 0, .int .i64 0, .int .i64 0] 144)).heap.size (w.alloc (.cells #[.int .i64 0, .int .i64 0, .int .i64 0] 144)) w' → w'.cell? ⟨g, off, none⟩ = some (.string (mkB a)) ∧ w'.cell? ⟨g, off + 2, none⟩ = some (.string (mkB b)) ∧ w'.cell? ⟨g, off + 4, none⟩ = some (.string (mkB d))) := fun w' hb => ⟨(hb.cell (p := ⟨g, off, none⟩) HLT.out).trans r0, (hb.cell (p := ⟨g, off + 2, none⟩) HLT.out).trans r2, (hb.cell (p := ⟨g, off + 4, none⟩) HLT.out).trans r4⟩
  have b0 : Hid (Below (w.alloc (.cells #[.int .i64 0, .int .i64 0, .int .i64 0] 144)).heap.size (w.alloc (.cells #[.int .i64 0, .int .i64 0, .int .i64 0] 144)) (w.alloc (.cells #[.int .i64 0, .int .i64 0, .int .i64 0] 144)).drew) := bdrewD (w.alloc (.cells #[.int .i64 0, .int .i64 0, .int .i64 0] 144))
  have C0 : Hid (∀ X, Hid (Below (w.alloc (.cells #[.int .i64 0, .int .i64 0, .int .i64 0] 144)).heap.size (w.alloc (.cells #[.int .i64 0, .int .i64 0, .int .i64 0] 144)) X) → Calls Tryz.prog 157 #[.string (mkB a)] X fun e w' => e = .panicked PC ∧ Hid (Below (w.alloc (.cells #[.int .i64 0, .int .i64 0, .int .i64 0] 144)).heap.size (w.alloc (.cells #[.int .i64 0, .int .i64 0, .int .i64 0] 144)) w')) := by
    intro X bX
    refine (readCategory_is a X h0).mono ?_
    rintro e w' ⟨hb, rfl⟩
    exact ⟨rfl, bX.out.trans (hb.mono bX.out.size)⟩
  clear hv HT HC HLT h0 hgn hgm
  go_enter Tryz.func116, Tryz.ntmps116
  go_wp2_with fail
  refine wp_region_held_drew (S := (fun w' => w'.cell? ⟨g, off, none⟩ = some (.string (mkB a)) ∧ w'.cell? ⟨g, off + 2, none⟩ = some (.string (mkB b)) ∧ w'.cell? ⟨g, off + 4, none⟩ = some (.string (mkB d)))) (by kernel_rfl) ?_ (fun hHeld => ?_)
  · (try dsimp only)
    go_keep
  refine wpAnyH_take (i := 0) (oi := Oper.mk (some 19) _ _ _ _ _) (v := .slice (some ⟨g, off, none⟩) 5 cap) rfl (by kernel_rfl) (by kernel_rfl) (by kernel_rfl) (fun _ _ _ h => h) (Or.inl ⟨by rfl, ?_⟩) (by assumption) ?_
  · intro wX hSw
    (try dsimp only at hSw)
    go_simp
  simp only [Act.put, List.setIfInBounds_toArray, List.set_cons_succ, List.set_cons_zero]
  refine wpAnyH_take (i := 1) (oi := Oper.mk (some 20) _ _ _ _ _) (v := .pointer (some ⟨g, off, none⟩)) rfl (by kernel_rfl) (by kernel_rfl) (by kernel_rfl) (fun _ _ _ h => h) (Or.inl ⟨by rfl, ?_⟩) (by assumption) ?_
  · intro wX hSw
    (try dsimp only at hSw)
    go_simp
  simp only [Act.put, List.setIfInBounds_toArray, List.set_cons_succ, List.set_cons_zero]
  refine wpAnyH_take (i := 2) (oi := Oper.mk (some 21) _ _ _ _ _) (v := .string (mkB a)) rfl (by kernel_rfl) (by kernel_rfl) (by kernel_rfl) (fun _ _ _ h => h) (Or.inl ⟨by rfl, ?_⟩) (by assumption) ?_
  · intro wX hSw
    (try dsimp only at hSw)
    go_simp
  simp only [Act.put, List.setIfInBounds_toArray, List.set_cons_succ, List.set_cons_zero]
  refine wpAnyH_take (i := 4) (oi := Oper.mk (some 23) _ _ _ _ _) (v := .slice (some ⟨g, off, none⟩) 5 cap) rfl (by kernel_rfl) (by kernel_rfl) (by kernel_rfl) (fun _ _ _ h => h) (Or.inl ⟨by rfl, ?_⟩) (by assumption) ?_
  · intro wX hSw
    (try dsimp only at hSw)
    go_simp
  simp only [Act.put, List.setIfInBounds_toArray, List.set_cons_succ, List.set_cons_zero]
  refine wpAnyH_take (i := 5) (oi := Oper.mk (some 24) _ _ _ _ _) (v := .pointer (some ⟨g, off + 2, none⟩)) rfl (by kernel_rfl) (by kernel_rfl) (by kernel_rfl) (fun _ _ _ h => h) (Or.inl ⟨by rfl, ?_⟩) (by assumption) ?_
  · intro wX hSw
    (try dsimp only at hSw)
    go_simp
  simp only [Act.put, List.setIfInBounds_toArray, List.set_cons_succ, List.set_cons_zero]
  refine wpAnyH_take (i := 6) (oi := Oper.mk (some 25) _ _ _ _ _) (v := .string (mkB b)) rfl (by kernel_rfl) (by kernel_rfl) (by kernel_rfl) (fun _ _ _ h => h) (Or.inl ⟨by rfl, ?_⟩) (by assumption) ?_
  · intro wX hSw
    (try dsimp only at hSw)
    go_simp
  simp only [Act.put, List.setIfInBounds_toArray, List.set_cons_succ, List.set_cons_zero]
  refine wpAnyH_take (i := 8) (oi := Oper.mk (some 27) _ _ _ _ _) (v := .slice (some ⟨g, off, none⟩) 5 cap) rfl (by kernel_rfl) (by kernel_rfl) (by kernel_rfl) (fun _ _ _ h => h) (Or.inl ⟨by rfl, ?_⟩) (by assumption) ?_
  · intro wX hSw
    (try dsimp only at hSw)
    go_simp
  simp only [Act.put, List.setIfInBounds_toArray, List.set_cons_succ, List.set_cons_zero]
  refine wpAnyH_take (i := 9) (oi := Oper.mk (some 28) _ _ _ _ _) (v := .pointer (some ⟨g, off + 4, none⟩)) rfl (by kernel_rfl) (by kernel_rfl) (by kernel_rfl) (fun _ _ _ h => h) (Or.inl ⟨by rfl, ?_⟩) (by assumption) ?_
  · intro wX hSw
    (try dsimp only at hSw)
    go_simp
  simp only [Act.put, List.setIfInBounds_toArray, List.set_cons_succ, List.set_cons_zero]
  refine wpAnyH_take (i := 10) (oi := Oper.mk (some 29) _ _ _ _ _) (v := .string (mkB d)) rfl (by kernel_rfl) (by kernel_rfl) (by kernel_rfl) (fun _ _ _ h => h) (Or.inl ⟨by rfl, ?_⟩) (by assumption) ?_
  · intro wX hSw
    (try dsimp only at hSw)
    go_simp
  simp only [Act.put, List.setIfInBounds_toArray, List.set_cons_succ, List.set_cons_zero]
  refine wpAnyH_ready (rs := [3]) (by kernel_rfl) (by simp) ?_
  refine AllReadyH.cons (o := Oper.mk (some 22) _ _ _ _ _) rfl (fun K hK => ?_) AllReadyH.nil
  go_simp
  refine (C0.out _ b0).mono ?_
  rintro e v1 ⟨rfl, b1⟩
  exact ⟨rfl, Ans.panic rfl (HB.out.trans (b1.out.mono HB.out.size))⟩

theorem readEntry_any (g off cap : Nat) (ts : List Tok) (v : Value) (w : World) (hv : TokV w g off cap ts v) : Calls Tryz.prog 116 #[v] w (Ans (entryT ts) IsEntry w) := by
  obtain rfl : v = .slice (some ⟨g, off, none⟩) ts.length cap := hv.1
  match ts, hv with
  | [], hv => exact ent_x _ 0 cap w (by omega)
  | [_], hv => exact ent_x _ 1 cap w (by omega)
  | [_, _], hv => exact ent_x _ 2 cap w (by omega)
  | [_, _, _], hv => exact ent_x _ 3 cap w (by omega)
  | [_, _, _, _], hv => exact ent_x _ 4 cap w (by omega)
  | [a, p, b, c, d], hv =>
    by_cases hp : p = [43]
    · subst hp
      by_cases hc : c = [58]
      · subst hc
        cases h0 : catT a with
        | none => rw [show entryT [a, [43], b, [58], d] = none by simp [entryT, h0]]; exact ent_0 g off cap a b d h0 w hv
        | some x =>
          cases h1 : catT b with
          | none => rw [show entryT [a, [43], b, [58], d] = none by simp [entryT, h0, h1]]; exact ent_1 g off cap a b d x h0 h1 w hv
          | some y =>
            cases h2 : catT d with
            | none => rw [show entryT [a, [43], b, [58], d] = none by simp [entryT, h0, h1, h2]]; exact ent_2 g off cap a b d x y h0 h1 h2 w hv
            | some z => rw [show entryT [a, [43], b, [58], d] = some ((x, y), z) by simp [entryT, h0, h1, h2]]; exact ent_y g off cap a b d x y z h0 h1 h2 w hv
      · rw [show entryT [a, [43], b, c, d] = none by simp [entryT, hc]]; exact ent_c g off cap a b c d hc w hv
    · rw [show entryT [a, p, b, c, d] = none by simp [entryT, hp]]; exact ent_p g off cap a p b c d hp w hv
  | _ :: _ :: _ :: _ :: _ :: _ :: r, hv => exact ent_x _ _ cap w (by simp)

end Go.Proofs.YthkkndaednienaaGreatDoor
