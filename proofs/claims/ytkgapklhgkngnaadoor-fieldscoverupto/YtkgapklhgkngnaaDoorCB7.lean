/-
  What Build tells of the spans, in whatever order they are put in.
  The fields of the bytes of what was built.
  What Leaves answers.
  The leaves of what was built, byte by byte.
  Texts that are UTF-8: put together; where their runes begin.
  What was built may be.
  The leaves lie one behind the other; spans begin and end between them.
-/
import Derived.Test.YtkgapklhgkngnaaDoorCB6
import Derived.Test.YtkgapklhgkngnaaDoorCB5
import Derived.Test.YtkgapklhgkngnaaDoorCB3
namespace Go.Proofs.YtkgapklhgkngnaaDoor

def InS (n : Int) (s : Sp) : Prop := 0 ≤ s.a ∧ s.a < s.b ∧ s.b ≤ n
def KeyD (l : List Sp) : Prop := l.Pairwise fun s t => ¬ (s.a = t.a ∧ s.b = t.b)
structure BlI (N : Nat) (sp : List Sp) (dg : Sp) : Prop where
  ins : ∀ s ∈ sp, InS N s
  key : KeyD sp
  dgn : dg.b ≤ 0 → dg = spN
  dgi : 0 < dg.b → InS N dg ∧ dg.f = 2 ∧ ∀ s ∈ sp, s.b ≤ dg.a ∨ (dg.a < s.a ∧ (s.b ≤ dg.b ∨ dg.b ≤ s.a))
  nox : ∀ s ∈ sp, ∀ u ∈ sp, ¬ (s.a < u.a ∧ u.a < s.b ∧ s.b < u.b)
theorem BlI.nil : BlI 0 [] spN := ⟨fun _ h => by simp at h, List.Pairwise.nil, fun _ => rfl, fun h => absurd h (by decide), fun _ h => by simp at h⟩
theorem KeyD.snoc {l : List Sp} {x : Sp} (h : KeyD l) (hx : ∀ s ∈ l, ¬ (s.a = x.a ∧ s.b = x.b)) : KeyD (l ++ [x]) :=
  List.pairwise_append.2 ⟨h, List.pairwise_singleton _ _, fun s hs t ht => by obtain rfl := List.mem_singleton.1 ht; exact hx s hs⟩
theorem BlI.mono {N M : Nat} {sp : List Sp} {dg : Sp} (h : BlI N sp dg) (hm : N ≤ M) : BlI M sp dg :=
  ⟨fun s hs => by have := h.ins s hs; unfold InS at *; omega, h.key, h.dgn, fun h0 => by have := h.dgi h0; unfold InS at *; exact ⟨by omega, this.2⟩, h.nox⟩
theorem mem_snoc {α : Type} {l : List α} {x y : α} : y ∈ l ++ [x] ↔ y ∈ l ∨ y = x := by simp
theorem BlI.fin {N : Nat} {sp : List Sp} {dg : Sp} (h : BlI N sp dg) : BlI N (endS sp dg) spN := by
  unfold endS
  by_cases h0 : 0 < dg.b
  · rw [if_pos h0]
    obtain ⟨d1, d2, d3⟩ := h.dgi h0
    refine ⟨fun s hs => ?_, h.key.snoc fun s hs => ?_, fun _ => rfl, fun q => absurd q (by decide), fun s hs u hu => ?_⟩
    · rcases mem_snoc.1 hs with e | e
      · exact h.ins s e
      · subst e; exact d1
    · have := d3 s hs; have := h.ins s hs; unfold InS at *; omega
    · rcases mem_snoc.1 hs with e | e
      · rcases mem_snoc.1 hu with e2 | e2
        · exact h.nox s e u e2
        · subst e2; have := d3 s e; have := h.ins s e; unfold InS at *; omega
      · subst e
        rcases mem_snoc.1 hu with e2 | e2
        · have := d3 u e2; have := h.ins u e2; unfold InS at *; omega
        · subst e2; omega
  · rw [if_neg h0]
    have e := h.dgn (by omega)
    subst e
    exact h
theorem BlI.own {N M : Nat} {sp : List Sp} {dg x : Sp} (h : BlI N sp dg) (hx : x.a = N) (hb : x.b = M) (hm : N < M) : BlI M (sp ++ [x]) dg := by
  have h2 := h.mono (Nat.le_of_lt hm)
  refine ⟨fun s hs => ?_, h.key.snoc fun s hs => ?_, h.dgn, fun h0 => ?_, fun s hs u hu => ?_⟩
  · rcases mem_snoc.1 hs with e | e
    · exact h2.ins s e
    · subst e; unfold InS; omega
  · have := h.ins s hs; unfold InS at *; omega
  · obtain ⟨d1, d2, d3⟩ := h.dgi h0
    refine ⟨(h2.dgi h0).1, d2, fun s hs => ?_⟩
    rcases mem_snoc.1 hs with e | e
    · exact d3 s e
    · subst e; unfold InS at *; omega
  · rcases mem_snoc.1 hs with e | e
    · rcases mem_snoc.1 hu with e2 | e2
      · exact h.nox s e u e2
      · subst e2; have := h.ins s e; unfold InS at *; omega
    · subst e
      rcases mem_snoc.1 hu with e2 | e2
      · have := h.ins u e2; unfold InS at *; omega
      · subst e2; omega
theorem BlI.dig {N M : Nat} {sp : List Sp} {dg : Sp} (h : BlI N sp dg) (hm : N < M) : BlI M sp (digS dg ⟨2, (N : Int), (M : Int)⟩) := by
  have h2 := h.mono (Nat.le_of_lt hm)
  unfold digS
  by_cases h0 : dg.b = 0
  · rw [if_pos h0]
    refine ⟨h2.ins, h.key, fun q => absurd q (by simp only []; omega), fun _ => ⟨by unfold InS; simp only []; omega, rfl, fun s hs => ?_⟩, h.nox⟩
    have := h.ins s hs; unfold InS at *; simp only []; omega
  · rw [if_neg h0]
    have hp : 0 < dg.b := by
      by_cases q : dg.b ≤ 0
      · have := h.dgn q; subst this; exact absurd rfl h0
      · omega
    obtain ⟨d1, d2, d3⟩ := h.dgi hp
    refine ⟨h2.ins, h.key, fun q => absurd q (by simp only []; omega), fun _ => ⟨by unfold InS at *; simp only []; omega, d2, fun s hs => ?_⟩, h.nox⟩
    have := d3 s hs; have := h.ins s hs; unfold InS at *; simp only []; omega
theorem BlI.pie {N : Nat} {sp : List Sp} {dg : Sp} (h : BlI N sp dg) (f : Int) (k : Nat) (hk : 0 < k) : BlI (N + k) (pieS f ⟨f, (N : Int), (N : Int) + (k : Int)⟩ sp dg) (pieG f ⟨f, (N : Int), (N : Int) + (k : Int)⟩ dg) := by
  have e : (N : Int) + (k : Int) = ((N + k : Nat) : Int) := by omega
  unfold pieS pieG
  by_cases h2 : f = 2
  · subst h2; rw [if_pos rfl, if_pos rfl, e]; exact h.dig (by omega)
  · rw [if_neg h2, if_neg h2]
    by_cases h3 : f = 3
    · rw [if_pos h3, if_pos h3]; exact h.own rfl e (by omega)
    · rw [if_neg h3, if_neg h3]
      by_cases h1 : f = 0
      · rw [if_pos h1]; exact h.fin.mono (by omega)
      · rw [if_neg h1]; exact h.fin.own rfl e (by omega)
theorem bldF_inv : ∀ (l : List Pe) (bs : List UInt8) (sp : List Sp) (dg : Sp), BlI bs.length sp dg → BlI (bldF l bs sp dg).1.length (bldF l bs sp dg).2 spN
  | [], _, _, _, h => h.fin
  | p :: l, bs, sp, dg, h => by
    unfold bldF
    by_cases h0 : p.t.size = 0
    · rw [if_pos h0]; exact bldF_inv l bs sp dg h
    · rw [if_neg h0]
      refine bldF_inv l _ _ _ ?_
      rw [List.length_append, bys_len]
      exact h.pie p.f p.t.size (by omega)
theorem bldP_inv (l : List Pe) : BlI (bldP l).1.length (bldP l).2 spN := bldF_inv l [] [] spN BlI.nil
end Go.Proofs.YtkgapklhgkngnaaDoor

namespace Go.Proofs.YtkgapklhgkngnaaDoor

def HasB (s : Sp) (k : Nat) : Prop := s.a ≤ k ∧ (k : Int) < s.b
def xpd : List Pe → List Int
  | [] => []
  | p :: l => List.replicate p.t.size p.f ++ xpd l
theorem xpd_len : ∀ l : List Pe, (xpd l).length = sumP l
  | [] => rfl
  | p :: l => by rw [xpd, List.length_append, List.length_replicate, xpd_len l]; rfl
def PF (L : List Sp) (k : Nat) (f : Int) : Prop := (f = 0 ∧ ∀ s ∈ L, ¬ HasB s k) ∨ ∃ s ∈ L, HasB s k ∧ s.f = f ∧ ∀ u ∈ L, HasB u k → u = s ∨ LtS u s
theorem PF.of_mem {L M : List Sp} {k : Nat} {f : Int} (h : PF L k f) (hm : ∀ s, s ∈ L ↔ s ∈ M) : PF M k f := by
  rcases h with ⟨h1, h2⟩ | ⟨s, h1, h2, h3, h4⟩
  · exact .inl ⟨h1, fun s hs => h2 s ((hm s).2 hs)⟩
  · exact .inr ⟨s, (hm s).1 h1, h2, h3, fun u hu => h4 u ((hm u).2 hu)⟩
theorem PF.add {L : List Sp} {x : Sp} {k : Nat} {f : Int} (h : PF L k f) (hx : ¬ HasB x k) : PF (L ++ [x]) k f := by
  rcases h with ⟨h1, h2⟩ | ⟨s, h1, h2, h3, h4⟩
  · refine .inl ⟨h1, fun s hs => ?_⟩
    rcases mem_snoc.1 hs with e | e
    · exact h2 s e
    · subst e; exact hx
  · refine .inr ⟨s, mem_snoc.2 (.inl h1), h2, h3, fun u hu hk => ?_⟩
    rcases mem_snoc.1 hu with e | e
    · exact h4 u e hk
    · subst e; exact absurd hk hx
theorem PF.one {L : List Sp} {x : Sp} {k : Nat} (h : ∀ s ∈ L, ¬ HasB s k) (hx : HasB x k) : PF (L ++ [x]) k x.f :=
  .inr ⟨x, mem_snoc.2 (.inr rfl), hx, rfl, fun u hu hk => by
    rcases mem_snoc.1 hu with e | e
    · exact absurd hk (h u e)
    · exact .inl e⟩
structure BlW (W : List Int) (sp : List Sp) (dg : Sp) : Prop where
  inv : BlI W.length sp dg
  pf : ∀ k, k < W.length → PF (endS sp dg) k (W[k]?.getD 0)
  gap : 0 < dg.b → ∀ k : Nat, dg.b ≤ k → k < W.length → ∃ s ∈ sp, HasB s k
theorem endS_mem {sp : List Sp} {dg s : Sp} : s ∈ endS sp dg ↔ s ∈ sp ∨ (0 < dg.b ∧ s = dg) := by
  unfold endS
  by_cases h : 0 < dg.b
  · rw [if_pos h, mem_snoc]; simp [h]
  · rw [if_neg h]; simp [h]
theorem BlI.endIn {N : Nat} {sp : List Sp} {dg : Sp} (h : BlI N sp dg) : ∀ s ∈ endS sp dg, InS N s := h.fin.ins
theorem get_app {W : List Int} {f : Int} {n k : Nat} (hk : k < W.length + n) : (W ++ List.replicate n f)[k]?.getD 0 = if k < W.length then W[k]?.getD 0 else f := by
  by_cases h : k < W.length
  · rw [if_pos h, List.getElem?_append_left h]
  · rw [if_neg h, List.getElem?_append_right (by omega), List.getElem?_replicate, if_pos (by omega)]; rfl
theorem BlW.nil : BlW [] [] spN := ⟨BlI.nil, fun _ h => by simp at h, fun h => absurd h (by decide)⟩
theorem BlW.pie {W : List Int} {sp : List Sp} {dg : Sp} (h : BlW W sp dg) (f : Int) (n : Nat) (hn : 0 < n) :
    BlW (W ++ List.replicate n f) (pieS f ⟨f, (W.length : Int), (W.length : Int) + (n : Int)⟩ sp dg) (pieG f ⟨f, (W.length : Int), (W.length : Int) + (n : Int)⟩ dg) := by
  have hl : (W ++ List.replicate n f).length = W.length + n := by rw [List.length_append, List.length_replicate]
  obtain ⟨own, ho⟩ : ∃ own : Sp, own = ⟨f, (W.length : Int), (W.length : Int) + (n : Int)⟩ := ⟨_, rfl⟩
  have hi := h.inv.pie f n hn
  have oa : own.a = (W.length : Int) := by rw [ho]
  have ob : own.b = (W.length : Int) + (n : Int) := by rw [ho]
  have of : own.f = f := by rw [ho]
  rw [← ho] at hi ⊢
  have hE := h.inv.endIn
  have beh : ∀ k : Nat, ¬ k < W.length → ∀ s ∈ endS sp dg, ¬ HasB s k := fun k hk s hs hb => by have := hE s hs; unfold InS at this; unfold HasB at hb; omega
  have ahd : ∀ k : Nat, k < W.length → ¬ HasB own k := fun k hk hb => by unfold HasB at hb; omega
  have onk : ∀ k : Nat, ¬ k < W.length → k < W.length + n → HasB own k := fun k h1 h2 => by unfold HasB; omega
  refine ⟨by rw [hl]; exact hi, fun k hk => ?_, ?_⟩
  · rw [hl] at hk
    rw [get_app hk]
    unfold pieS pieG
    by_cases h2 : f = 2
    · rw [if_pos h2, if_pos h2]
      unfold digS
      by_cases h0 : dg.b = 0
      · rw [if_pos h0]
        have e1 : endS sp dg = sp := by unfold endS; rw [if_neg (by omega)]
        have e2 : endS sp own = sp ++ [own] := by unfold endS; rw [if_pos (by omega)]
        rw [e2]
        by_cases hkw : k < W.length
        · rw [if_pos hkw]; have := h.pf k hkw; rw [e1] at this; exact this.add (ahd k hkw)
        · rw [if_neg hkw, ← of]; refine PF.one (fun s hs => beh k hkw s ?_) (onk k hkw hk); rw [e1]; exact hs
      · rw [if_neg h0]
        have hp : 0 < dg.b := by
          by_cases q : dg.b ≤ 0
          · have := h.inv.dgn q; subst this; exact absurd rfl h0
          · omega
        obtain ⟨d1, d2, d3⟩ := h.inv.dgi hp
        obtain ⟨dn, hdn⟩ : ∃ dn : Sp, dn = ⟨dg.f, dg.a, own.b⟩ := ⟨_, rfl⟩
        have na : dn.a = dg.a := by rw [hdn]
        have nb : dn.b = own.b := by rw [hdn]
        have nf : dn.f = dg.f := by rw [hdn]
        rw [← hdn]
        have e1 : endS sp dg = sp ++ [dg] := by unfold endS; rw [if_pos hp]
        have e2 : endS sp dn = sp ++ [dn] := by unfold endS; rw [if_pos (by omega)]
        rw [e2]
        unfold InS at d1
        by_cases hkw : k < W.length
        · rw [if_pos hkw]
          have q := h.pf k hkw
          rw [e1] at q
          by_cases ka : (k : Int) < dg.a
          · -- ahead of the run
            have n1 : ¬ HasB dg k := fun hb => by unfold HasB at hb; omega
            have n2 : ¬ HasB dn k := fun hb => by unfold HasB at hb; omega
            rcases q with ⟨h1, h2⟩ | ⟨s, h1, h2, h3, h4⟩
            · exact .inl ⟨h1, fun s hs => by
                rcases mem_snoc.1 hs with e | e
                · exact h2 s (mem_snoc.2 (.inl e))
                · subst e; exact n2⟩
            · have hs : s ∈ sp := by
                rcases mem_snoc.1 h1 with e | e
                · exact e
                · subst e; exact absurd h2 n1
              exact .inr ⟨s, mem_snoc.2 (.inl hs), h2, h3, fun u hu hk2 => by
                rcases mem_snoc.1 hu with e | e
                · exact h4 u (mem_snoc.2 (.inl e)) hk2
                · subst e; exact absurd hk2 n2⟩
          · have n2 : HasB dn k := by unfold HasB; omega
            have inn : ∀ u ∈ sp, HasB u k → dg.a < u.a := fun u hu hb => by
              have := d3 u hu; unfold HasB at hb; omega
            have split : (∃ s ∈ sp, HasB s k) ∨ ∀ s ∈ sp, ¬ HasB s k := by
              by_cases c : ∃ s ∈ sp, HasB s k
              · exact .inl c
              · exact .inr fun s hs hb => c ⟨s, hs, hb⟩
            rcases split with ⟨x, hx, hxb⟩ | hno
            · rcases q with ⟨h1, h2⟩ | ⟨s, h1, h2, h3, h4⟩
              · exact absurd hxb (h2 x (mem_snoc.2 (.inl hx)))
              · have hs : s ∈ sp := by
                  rcases mem_snoc.1 h1 with e | e
                  · exact e
                  · rcases h4 x (mem_snoc.2 (.inl hx)) hxb with e2 | e2
                    · rw [← e2]; exact hx
                    · have := inn x hx hxb; unfold LtS at e2; subst e; omega
                exact .inr ⟨s, mem_snoc.2 (.inl hs), h2, h3, fun u hu hk2 => by
                  rcases mem_snoc.1 hu with e | e
                  · exact h4 u (mem_snoc.2 (.inl e)) hk2
                  · subst e; refine .inr (.inl ?_); have := inn s hs h2; omega⟩
            · have kb : (k : Int) < dg.b := by
                by_cases c : dg.b ≤ (k : Int)
                · obtain ⟨x, hx, hxb⟩ := h.gap hp k c hkw
                  exact absurd hxb (hno x hx)
                · omega
              have hdk : HasB dg k := by unfold HasB; omega
              have ef : W[k]?.getD 0 = dg.f := by
                rcases q with ⟨h1, h2⟩ | ⟨s, h1, h2, h3, h4⟩
                · exact absurd hdk (h2 dg (mem_snoc.2 (.inr rfl)))
                · rcases mem_snoc.1 h1 with e | e
                  · exact absurd h2 (hno s e)
                  · rw [← h3, e]
              rw [ef, ← nf]
              exact PF.one hno n2
        · rw [if_neg hkw]
          have ef : f = dn.f := by rw [nf, d2, h2]
          rw [ef]
          refine PF.one (fun s hs => beh k hkw s ?_) (by unfold HasB; omega)
          rw [e1]; exact mem_snoc.2 (.inl hs)
    · rw [if_neg h2, if_neg h2]
      by_cases h3 : f = 3
      · rw [if_pos h3, if_pos h3]
        have em : ∀ s, s ∈ endS sp dg ++ [own] ↔ s ∈ endS (sp ++ [own]) dg := fun s => by
          rw [mem_snoc, endS_mem, endS_mem, mem_snoc]
          constructor
          · rintro ((h | h) | h)
            · exact .inl (.inl h)
            · exact .inr h
            · exact .inl (.inr h)
          · rintro ((h | h) | h)
            · exact .inl (.inl h)
            · exact .inr h
            · exact .inl (.inr h)
        refine PF.of_mem ?_ em
        by_cases hkw : k < W.length
        · rw [if_pos hkw]; exact (h.pf k hkw).add (ahd k hkw)
        · rw [if_neg hkw]
          have q : PF (endS sp dg ++ [own]) k own.f := PF.one (beh k hkw) (onk k hkw hk)
          rw [of] at q
          exact q
      · rw [if_neg h3, if_neg h3]
        have es : ∀ L : List Sp, endS L spN = L := fun L => by unfold endS; rw [if_neg (by decide)]
        by_cases h1 : f = 0
        · rw [if_pos h1, es]
          by_cases hkw : k < W.length
          · rw [if_pos hkw]; exact h.pf k hkw
          · rw [if_neg hkw]; exact .inl ⟨h1, beh k hkw⟩
        · rw [if_neg h1, es]
          by_cases hkw : k < W.length
          · rw [if_pos hkw]; exact (h.pf k hkw).add (ahd k hkw)
          · rw [if_neg hkw]
            have q : PF (endS sp dg ++ [own]) k own.f := PF.one (beh k hkw) (onk k hkw hk)
            rw [of] at q
            exact q
  · rw [hl]
    unfold pieS pieG
    by_cases h2 : f = 2
    · rw [if_pos h2, if_pos h2]
      unfold digS
      by_cases h0 : dg.b = 0
      · rw [if_pos h0]; intro _ k k1 k2; omega
      · rw [if_neg h0]; intro _ k k1 k2; simp only [] at k1; omega
    · rw [if_neg h2, if_neg h2]
      by_cases h3 : f = 3
      · rw [if_pos h3, if_pos h3]
        intro hp k k1 k2
        by_cases hkw : k < W.length
        · obtain ⟨s, hs, hb⟩ := h.gap hp k k1 hkw
          exact ⟨s, mem_snoc.2 (.inl hs), hb⟩
        · exact ⟨own, mem_snoc.2 (.inr rfl), onk k hkw k2⟩
      · rw [if_neg h3]; intro hp; exact absurd hp (by decide)
theorem bldF_want : ∀ (l : List Pe) (bs : List UInt8) (sp : List Sp) (dg : Sp) (W : List Int), W.length = bs.length → BlW W sp dg → BlW (W ++ xpd l) (bldF l bs sp dg).2 spN ∧ (W ++ xpd l).length = (bldF l bs sp dg).1.length
  | [], bs, sp, dg, W, hl, h => by
    unfold bldF xpd
    rw [List.append_nil]
    exact ⟨⟨h.inv.fin, fun k hk => by
      have e : endS (endS sp dg) spN = endS sp dg := by unfold endS; rw [if_neg (c := 0 < spN.b) (by decide)]
      rw [e]; exact h.pf k hk, fun q => absurd q (by decide)⟩, hl⟩
  | p :: l, bs, sp, dg, W, hl, h => by
    unfold bldF xpd
    by_cases h0 : p.t.size = 0
    · rw [if_pos h0, h0, List.replicate_zero, List.nil_append]; exact bldF_want l bs sp dg W hl h
    · rw [if_neg h0, ← List.append_assoc, ← hl]
      refine bldF_want l _ _ _ _ ?_ (h.pie p.f p.t.size (by omega))
      rw [List.length_append, List.length_append, List.length_replicate, bys_len, hl]
theorem bldP_want (l : List Pe) : (∀ k, k < (bldP l).1.length → PF (bldP l).2 k ((xpd l)[k]?.getD 0)) ∧ (xpd l).length = (bldP l).1.length := by
  obtain ⟨h1, h2⟩ := bldF_want l [] [] spN [] rfl BlW.nil
  rw [List.nil_append] at h1 h2
  refine ⟨fun k hk => ?_, h2⟩
  have := h1.pf k (by rw [h2]; exact hk)
  unfold endS at this
  rw [if_neg (by decide)] at this
  exact this
end Go.Proofs.YtkgapklhgkngnaaDoor

namespace Go.Proofs.YtkgapklhgkngnaaDoor
open Go.RowKit

def lvs (t : ByteArray) : List Sp → List Sp → Nat → List Pe → List Pe
  | [], st, a, lv => goL t t.size st a lv
  | s :: l, st, a, lv => lvs t l (s :: goS s.a.toNat st) s.a.toNat (goL t s.a.toNat st a lv)
def leavesP (t : ByteArray) (l : List Sp) : List Pe := lvs t l [] 0 []

structure RunOk (t : ByteArray) (a : Nat) (st l : List Sp) : Prop where
  pl : ∀ s ∈ l, (a : Int) ≤ s.a ∧ s.a < s.b ∧ s.b ≤ t.size
  srt : SrtS l
  ends : EndsOk t a st
  crs : crsP (st.map Sp.b) l = false

theorem goS_map (p : Nat) : ∀ st : List Sp, (goS p st).map Sp.b = (st.map Sp.b).dropWhile fun u => decide (u ≤ (p : Int))
  | [] => rfl
  | s :: st => by
    unfold goS
    rw [List.dropWhile_cons, List.map_cons, List.dropWhile_cons]
    by_cases h : s.b ≤ (p : Int)
    · rw [if_pos (by simpa using h), if_pos (by simpa using h)]; exact goS_map p st
    · rw [if_neg (by simpa using h), if_neg (by simpa using h), List.map_cons]
theorem goS_mem {p : Nat} {s : Sp} : ∀ {st : List Sp}, s ∈ goS p st → s ∈ st
  | [], h => h
  | u :: st, h => by
    unfold goS at h
    rw [List.dropWhile_cons] at h
    split at h
    · exact List.mem_cons_of_mem _ (goS_mem h)
    · exact h
theorem goS_pair {R : Sp → Sp → Prop} {p : Nat} : ∀ {st : List Sp}, st.Pairwise R → (goS p st).Pairwise R
  | [], h => h
  | u :: st, h => by
    unfold goS
    rw [List.dropWhile_cons]
    split
    · exact goS_pair (List.pairwise_cons.1 h).2
    · exact h
theorem goS_beh {p : Nat} {st : List Sp} (h : st.Pairwise fun s u => s.b ≤ u.b) : ∀ s ∈ goS p st, (p : Int) < s.b := by
  induction st with
  | nil => intro s hs; simp [goS] at hs
  | cons u st ih =>
    intro s hs
    have hp := List.pairwise_cons.1 h
    unfold goS at hs
    rw [List.dropWhile_cons] at hs
    split at hs
    · exact ih hp.2 s hs
    next hu =>
      have hu2 : (p : Int) < u.b := by simpa using hu
      rcases List.mem_cons.1 hs with e | e
      · subst e; exact hu2
      · have := hp.1 s e; omega
theorem goL_len (t : ByteArray) (p : Nat) : ∀ (st : List Sp) (a : Nat) (lv : List Pe), (goL t p st a lv).length + (goS p st).length ≤ lv.length + st.length + 1
  | [], a, lv => by have := cutP_len t a p 0 lv; simp [goL, goS]; omega
  | s :: st, a, lv => by
    unfold goL goS
    rw [List.dropWhile_cons]
    by_cases h : s.b ≤ (p : Int)
    · rw [if_pos h, if_pos (by simpa using h)]
      have := goL_len t p st s.b.toNat (cutP t a s.b.toNat s.f lv)
      have := cutP_len t a s.b.toNat s.f lv
      unfold goS at *
      simp only [List.length_cons]
      omega
    · rw [if_neg h, if_neg (by simpa using h)]
      have := cutP_len t a p s.f lv
      omega
theorem RunOk.step {t : ByteArray} {a : Nat} {s : Sp} {st l : List Sp} (h : RunOk t a st (s :: l)) : (a : Int) ≤ s.a ∧ s.a < s.b ∧ s.b ≤ t.size ∧ RunOk t s.a.toNat (s :: goS s.a.toNat st) l := by
  obtain ⟨h1, h2, h3⟩ := h.pl s (List.mem_cons_self ..)
  have hs := List.pairwise_cons.1 h.srt
  have hc := h.crs
  rw [crsP_cons, Bool.or_eq_false_iff] at hc
  have ea : ((s.a.toNat : Nat) : Int) = s.a := by omega
  have em : (goS s.a.toNat st).map Sp.b = (st.map Sp.b).dropWhile fun u => decide (u ≤ s.a) := by rw [goS_map, ea]
  refine ⟨h1, h2, h3, ⟨fun u hu => ?_, hs.2, ⟨fun u hu => ?_, List.pairwise_cons.2 ⟨fun u hu => ?_, goS_pair h.ends.2⟩⟩, ?_⟩⟩
  · have q := h.pl u (List.mem_cons_of_mem _ hu)
    have q2 := hs.1 u hu
    unfold LtS at q2
    omega
  · rcases List.mem_cons.1 hu with e | e
    · subst e; omega
    · have q := goS_beh h.ends.2 u e
      have q2 := (h.ends.1 u (goS_mem e)).2
      omega
  · have ht := hc.1
    rw [← em] at ht
    have hp := goS_pair (p := s.a.toNat) h.ends.2
    cases hg : goS s.a.toNat st with
    | nil => rw [hg] at hu; cases hu
    | cons x r =>
      rw [hg] at hu ht hp
      have hx : ¬ x.b < s.b := by simpa [topLt] using ht
      rcases List.mem_cons.1 hu with e | e
      · subst e; omega
      · have := (List.pairwise_cons.1 hp).1 u e; omega
  · rw [List.map_cons, em]; exact hc.2
theorem mayB_run {t : ByteArray} {l : List Sp} (h : mayB t l = true) : RunOk t 0 [] l := by
  unfold mayB at h
  simp only [Bool.and_eq_true, Bool.not_eq_true'] at h
  obtain ⟨⟨⟨_, h2⟩, h3⟩, h4⟩ := h
  refine ⟨fun s hs => ?_, of_decide_eq_true h3, ⟨fun s hs => by simp at hs, List.Pairwise.nil⟩, h4⟩
  have q := List.any_eq_false.1 h2 s hs
  unfold misB at q
  simp only [Bool.or_eq_true, decide_eq_true_eq, Bool.not_eq_true', not_or, Bool.not_eq_false] at q
  obtain ⟨⟨⟨_, qa⟩, qb⟩, qc⟩ := q
  unfold plB at qa qb
  simp only [Bool.or_eq_true, Bool.and_eq_true, decide_eq_true_eq] at qa qb
  omega
end Go.Proofs.YtkgapklhgkngnaaDoor

namespace Go.Proofs.YtkgapklhgkngnaaDoor

theorem ext_size (t : ByteArray) (a p : Nat) (h1 : a ≤ p) (h2 : p ≤ t.size) : (t.extract a p).size = p - a := by rw [ByteArray.size_extract]; omega
theorem EndsOk.tail {t : ByteArray} {a : Nat} {s : Sp} {st : List Sp} (h : EndsOk t a (s :: st)) : EndsOk t s.b.toNat st ∧ a ≤ s.b.toNat ∧ s.b.toNat ≤ t.size ∧ ((s.b.toNat : Nat) : Int) = s.b := by
  have h0 := h.1 s (List.mem_cons_self ..)
  have hp := List.pairwise_cons.1 h.2
  refine ⟨⟨fun u hu => ?_, hp.2⟩, by omega, by omega, by omega⟩
  have := hp.1 u hu
  have := h.1 u (List.mem_cons_of_mem _ hu)
  omega
theorem goS_out {p : Nat} {s : Sp} : ∀ {st : List Sp}, s ∈ st → s ∈ goS p st ∨ s.b ≤ (p : Int)
  | [], h => by simp at h
  | u :: st, h => by
    unfold goS
    rw [List.dropWhile_cons]
    by_cases hu : u.b ≤ (p : Int)
    · rw [if_pos (by simpa using hu)]
      rcases List.mem_cons.1 h with e | e
      · subst e; exact .inr hu
      · have := goS_out (p := p) e
        unfold goS at this
        exact this
    · rw [if_neg (by simpa using hu)]
      exact .inl h
end Go.Proofs.YtkgapklhgkngnaaDoor

namespace Go.Proofs.YtkgapklhgkngnaaDoor
open Go.Lib

theorem vNil : Lib.validD [] = true := rfl
theorem first_cont : ∀ b : Fin 256, 128 ≤ b.val → b.val < 192 → firstT b.val % 8 = 1 := by decide +kernel
theorem runeN_start (n b0 b1 b2 b3 : Nat) (h0 : b0 < 256) (h : runeN n b0 b1 b2 b3 ≠ 0) : Lib.runeStart (b0 : Int) = true := by
  by_cases c : 128 ≤ b0 ∧ b0 < 192
  · exfalso
    apply h
    unfold runeN
    have q := first_cont ⟨b0, h0⟩ c.1 c.2
    simp only [] at q
    rw [q]
    by_cases c0 : n = 0
    · rw [if_pos c0]
    · rw [if_neg c0, if_neg (by omega)]
      unfold checkN
      rw [if_neg (by decide), if_neg (by decide), if_neg (by decide)]
      rfl
  · unfold Lib.runeStart
    rw [bne_iff_ne]
    omega
theorem valid_step (l : List UInt8) (h : l ≠ []) : Lib.validD l = (decide (runeL l ≠ 0) && Lib.validD (l.drop (runeL l))) := by
  rw [valid_runes, runesL_step l h, valid_runes]
  by_cases hr : runeL l = 0
  · rw [if_pos hr, decide_eq_false (by omega)]; rfl
  · rw [if_neg hr, decide_eq_true hr, Bool.true_and, Option.isSome_map]
theorem vAppN : ∀ (n : Nat) (a b : List UInt8), a.length ≤ n → Lib.validD a = true → Lib.validD (a ++ b) = Lib.validD b
  | n, [], b, _, _ => rfl
  | 0, x :: a, b, h, _ => by simp at h
  | n + 1, x :: a, b, h, hv => by
    have hne : x :: a ≠ [] := by simp
    have hs := valid_step (x :: a) hne
    rw [hv] at hs
    have hs2 := Bool.and_eq_true_iff.1 hs.symm
    have h0 : runeL (x :: a) ≠ 0 := of_decide_eq_true hs2.1
    have hl := (runeL_le (x :: a)).1
    rw [valid_step (x :: a ++ b) (by simp), runeL_app (x :: a) b h0, decide_eq_true h0, Bool.true_and, List.drop_append_of_le_length hl]
    exact vAppN n _ b (by rw [List.length_drop]; omega) hs2.2
theorem vApp {a b : List UInt8} (h : Lib.validD a = true) (g : Lib.validD b = true) : Lib.validD (a ++ b) = true := by rw [vAppN a.length a b (Nat.le_refl _) h]; exact g
theorem vStart {l : List UInt8} (h : Lib.validD l = true) (hl : l ≠ []) : Lib.runeStart ((byB l 0 : Nat) : Int) = true := by
  have hs := valid_step l hl
  rw [h] at hs
  exact runeN_start _ _ _ _ _ (byB_lt _ _) (of_decide_eq_true (Bool.and_eq_true_iff.1 hs.symm).1)
end Go.Proofs.YtkgapklhgkngnaaDoor

namespace Go.Proofs.YtkgapklhgkngnaaDoor

def PlL (bs : List UInt8) (x : Int) : Prop := x = bs.length ∨ (0 ≤ x ∧ x < bs.length ∧ Lib.runeStart ((byB bs x.toNat : Nat) : Int) = true)
theorem PlL.app {bs p : List UInt8} {x : Int} (h : PlL bs x) (hv : Lib.validD p = true) (hp : p ≠ []) : PlL (bs ++ p) x := by
  have hl := List.length_pos_iff.2 hp
  refine .inr ?_
  rw [List.length_append]
  rcases h with e | ⟨h1, h2, h3⟩
  · refine ⟨by omega, by omega, ?_⟩
    have e1 : byB (bs ++ p) x.toNat = byB p 0 := by
      unfold byB
      rw [List.getD_eq_getElem?_getD, List.getD_eq_getElem?_getD, List.getElem?_append_right (by omega), show x.toNat - bs.length = 0 by omega]
    rw [e1]
    exact vStart hv hp
  · refine ⟨h1, by omega, ?_⟩
    rw [byB_app bs p x.toNat (by omega)]
    exact h3
structure BlF (bs : List UInt8) (sp : List Sp) (dg : Sp) : Prop where
  val : Lib.validD bs = true
  sps : ∀ s ∈ endS sp dg, s.f ≠ 0 ∧ knB s.f = true ∧ PlL bs s.a ∧ PlL bs s.b
theorem BlF.nil : BlF [] [] spN := ⟨vNil, fun s hs => by unfold endS at hs; rw [if_neg (by decide)] at hs; simp at hs⟩
theorem endS_snoc {sp : List Sp} {dg x s : Sp} : s ∈ endS (sp ++ [x]) dg ↔ s ∈ endS sp dg ∨ s = x := by
  rw [endS_mem, endS_mem, mem_snoc]
  constructor
  · rintro ((h | h) | h)
    · exact .inl (.inl h)
    · exact .inr h
    · exact .inl (.inr h)
  · rintro ((h | h) | h)
    · exact .inl (.inl h)
    · exact .inr h
    · exact .inl (.inr h)
theorem endS_spN (L : List Sp) : endS L spN = L := by unfold endS; rw [if_neg (by decide)]
theorem BlF.pie {bs : List UInt8} {sp : List Sp} {dg : Sp} (h : BlF bs sp dg) (hi : BlI bs.length sp dg) (p : Pe) (h0 : p.t.size ≠ 0) (hu : unfB p = false) :
    BlF (bs ++ bys p.t) (pieS p.f ⟨p.f, (bs.length : Int), (bs.length : Int) + p.t.size⟩ sp dg) (pieG p.f ⟨p.f, (bs.length : Int), (bs.length : Int) + p.t.size⟩ dg) := by
  unfold unfB at hu
  rw [Bool.or_eq_false_iff, Bool.not_eq_false', Bool.not_eq_false'] at hu
  obtain ⟨hk, hv⟩ := hu
  have hne : bys p.t ≠ [] := fun e => h0 (by rw [← bys_len, e]; rfl)
  obtain ⟨own, ho⟩ : ∃ own : Sp, own = ⟨p.f, (bs.length : Int), (bs.length : Int) + p.t.size⟩ := ⟨_, rfl⟩
  have oa : PlL (bs ++ bys p.t) own.a := by rw [ho]; exact PlL.app (.inl rfl) hv hne
  have ob : PlL (bs ++ bys p.t) own.b := by rw [ho]; refine .inl ?_; rw [List.length_append, bys_len]; simp only []; omega
  have of : own.f = p.f := by rw [ho]
  have old : ∀ s ∈ endS sp dg, s.f ≠ 0 ∧ knB s.f = true ∧ PlL (bs ++ bys p.t) s.a ∧ PlL (bs ++ bys p.t) s.b := fun s hs => by
    obtain ⟨q1, q2, q3, q4⟩ := h.sps s hs
    exact ⟨q1, q2, q3.app hv hne, q4.app hv hne⟩
  refine ⟨vApp h.val hv, fun s hs => ?_⟩
  rw [← ho] at hs
  unfold pieS pieG at hs
  by_cases h2 : p.f = 2
  · rw [if_pos h2, if_pos h2] at hs
    unfold digS at hs
    by_cases hd : dg.b = 0
    · rw [if_pos hd] at hs
      rcases endS_mem.1 hs with e | ⟨_, e⟩
      · exact old s (endS_mem.2 (.inl e))
      · subst e; exact ⟨by rw [of, h2]; decide, by rw [of]; exact hk, oa, ob⟩
    · rw [if_neg hd] at hs
      have hp : 0 < dg.b := by
        by_cases q : dg.b ≤ 0
        · have := hi.dgn q; subst this; exact absurd rfl hd
        · omega
      obtain ⟨q1, q2, q3, q4⟩ := old dg (endS_mem.2 (.inr ⟨hp, rfl⟩))
      rcases endS_mem.1 hs with e | ⟨_, e⟩
      · exact old s (endS_mem.2 (.inl e))
      · subst e; exact ⟨q1, q2, q3, ob⟩
  · rw [if_neg h2, if_neg h2] at hs
    by_cases h3 : p.f = 3
    · rw [if_pos h3, if_pos h3] at hs
      rcases endS_snoc.1 hs with e | e
      · exact old s e
      · subst e; exact ⟨by rw [of, h3]; decide, by rw [of]; exact hk, oa, ob⟩
    · rw [if_neg h3, if_neg h3, endS_spN] at hs
      by_cases h1 : p.f = 0
      · rw [if_pos h1] at hs; exact old s hs
      · rw [if_neg h1] at hs
        rcases mem_snoc.1 hs with e | e
        · exact old s e
        · subst e; exact ⟨by rw [of]; exact h1, by rw [of]; exact hk, oa, ob⟩
theorem bldF_may : ∀ (l : List Pe) (bs : List UInt8) (sp : List Sp) (dg : Sp), BlF bs sp dg → BlI bs.length sp dg → l.any unfB = false → BlF (bldF l bs sp dg).1 (bldF l bs sp dg).2 spN
  | [], bs, sp, dg, h, _, _ => by
    unfold bldF
    exact ⟨h.val, fun s hs => by rw [endS_spN] at hs; exact h.sps s hs⟩
  | p :: l, bs, sp, dg, h, hi, hu => by
    rw [List.any_cons, Bool.or_eq_false_iff] at hu
    unfold bldF
    by_cases h0 : p.t.size = 0
    · rw [if_pos h0]; exact bldF_may l bs sp dg h hi hu.2
    · rw [if_neg h0]
      refine bldF_may l _ _ _ (h.pie hi p h0 hu.1) ?_ hu.2
      rw [List.length_append, bys_len]
      exact hi.pie p.f p.t.size (by omega)
theorem crsP_no : ∀ (l : List Sp) (st : List Int), st.Pairwise (· ≤ ·) → SrtS l → (∀ t ∈ st, ∀ x ∈ l, ¬ (x.a < t ∧ t < x.b)) → (∀ s ∈ l, s.a < s.b) → l.Pairwise (fun y x => ¬ (x.a < y.b ∧ y.b < x.b)) → crsP st l = false
  | [], _, _, _, _, _, _ => rfl
  | s :: l, st, h1, h2, h3, h4, h5 => by
    have p2 := List.pairwise_cons.1 h2
    have p5 := List.pairwise_cons.1 h5
    have hmem : ∀ (L : List Int) (u : Int), u ∈ L.dropWhile (fun t => decide (t ≤ s.a)) → u ∈ L := fun L u hu => (List.dropWhile_sublist _).subset hu
    have hsub : (st.dropWhile (fun t => decide (t ≤ s.a))).Pairwise (· ≤ ·) := h1.sublist (List.dropWhile_sublist _)
    have hbeh : ∀ (L : List Int), L.Pairwise (· ≤ ·) → ∀ u ∈ L.dropWhile (fun t => decide (t ≤ s.a)), s.a < u := fun L => by
      induction L with
      | nil => intro _ u hu; simp at hu
      | cons x L ih =>
        intro hL u hu
        have hx := List.pairwise_cons.1 hL
        rw [List.dropWhile_cons] at hu
        split at hu
        · exact ih hx.2 u hu
        next hn =>
          have hn2 : s.a < x := by simpa using hn
          rcases List.mem_cons.1 hu with e | e
          · subst e; exact hn2
          · have := hx.1 u e; omega
    have hge : ∀ u ∈ st.dropWhile (fun t => decide (t ≤ s.a)), s.b ≤ u := fun u hu => by
      have q1 := hbeh st h1 u hu
      have q2 := h3 u (hmem st u hu) s (List.mem_cons_self ..)
      omega
    rw [crsP_cons, Bool.or_eq_false_iff]
    refine ⟨?_, crsP_no l _ (List.pairwise_cons.2 ⟨hge, hsub⟩) p2.2 (fun t ht x hx => ?_) (fun x hx => h4 x (List.mem_cons_of_mem _ hx)) p5.2⟩
    · generalize st.dropWhile (fun t => decide (t ≤ s.a)) = L at hge
      cases L with
      | nil => rfl
      | cons u L =>
        have := hge u (List.mem_cons_self ..)
        unfold topLt
        simpa using this
    · rcases List.mem_cons.1 ht with e | e
      · subst e; exact p5.1 x hx
      · exact h3 t (hmem st t e) x (List.mem_cons_of_mem _ hx)
theorem built_may (l : List Pe) (t : ByteArray) (ht : bys t = (bldP l).1) (hu : l.any unfB = false) : mayB t (ordS (bldP l).2) = true := by
  have hf := bldF_may l [] [] spN BlF.nil BlI.nil hu
  have hi := bldP_inv l
  have hsz : t.size = (bldP l).1.length := by rw [← ht, bys_len]
  have hp : ∀ x : Int, PlL (bldP l).1 x → plB t x = true := fun x hx => by
    unfold plB
    rcases hx with e | ⟨q1, q2, q3⟩
    · rw [decide_eq_true (by omega : x = t.size)]; rfl
    · rw [decide_eq_true q1, decide_eq_true (by omega : x < t.size), ht, q3, Bool.true_and, Bool.true_and, Bool.or_true]
  unfold mayB
  rw [Bool.and_eq_true, Bool.and_eq_true, Bool.and_eq_true]
  refine ⟨⟨⟨by rw [ht]; exact hf.val, ?_⟩, decide_eq_true (ordS_srt _)⟩, ?_⟩
  · rw [Bool.not_eq_true', List.any_eq_false]
    intro s hs
    have hs2 := (ordS_perm (bldP l).2).mem_iff.1 hs
    obtain ⟨q1, q2, q3, q4⟩ := hf.sps s (by rw [endS_spN]; exact hs2)
    have q5 := hi.ins s hs2
    unfold InS at q5
    unfold misB
    rw [decide_eq_false q1, q2, hp _ q3, hp _ q4, decide_eq_false (by omega : ¬ s.b ≤ s.a)]
    decide
  · rw [Bool.not_eq_true']
    refine crsP_no _ [] List.Pairwise.nil (ordS_srt _) (fun t ht => by simp at ht) (fun s hs => ?_) ?_
    · have := hi.ins s ((ordS_perm (bldP l).2).mem_iff.1 hs); unfold InS at this; omega
    · have hsrt := ordS_srt (bldP l).2
      refine List.Pairwise.imp_of_mem (fun {y x} hy hx hyx => ?_) hsrt
      have n1 := hi.nox y ((ordS_perm (bldP l).2).mem_iff.1 hy) x ((ordS_perm (bldP l).2).mem_iff.1 hx)
      unfold LtS at hyx
      omega
def catP : List Pe → List UInt8
  | [] => []
  | p :: l => bys p.t ++ catP l
theorem bldF_cat : ∀ (l : List Pe) (bs : List UInt8) (sp : List Sp) (dg : Sp), (bldF l bs sp dg).1 = bs ++ catP l
  | [], bs, sp, dg => by unfold bldF catP; rw [List.append_nil]
  | p :: l, bs, sp, dg => by
    unfold bldF catP
    by_cases h0 : p.t.size = 0
    · rw [if_pos h0, bldF_cat l bs sp dg, List.eq_nil_of_length_eq_zero (by rw [bys_len]; exact h0 : (bys p.t).length = 0), List.nil_append]
    · rw [if_neg h0, bldF_cat l _ _ _, List.append_assoc]
theorem bldP_cat (l : List Pe) : (bldP l).1 = catP l := bldF_cat l [] [] spN
end Go.Proofs.YtkgapklhgkngnaaDoor

namespace Go.Proofs.YtkgapklhgkngnaaDoor

def TilD (t : ByteArray) : Nat → List Pe → Nat → Prop
  | a, [], b => a = b
  | a, p :: l, b => 0 < p.t.size ∧ a + p.t.size ≤ t.size ∧ p.t = t.extract a (a + p.t.size) ∧ (0 ≤ p.f ∧ p.f ≤ 17) ∧ TilD t (a + p.t.size) l b
theorem TilD.snoc {t : ByteArray} {b p : Nat} {f : Int} (hp : b < p) (hs : p ≤ t.size) (hf : 0 ≤ f ∧ f ≤ 17) : ∀ {l : List Pe} {a : Nat}, TilD t a l b → TilD t a (l ++ [⟨t.extract b p, f⟩]) p
  | [], a, h => by
    have h' : a = b := h
    subst h'
    have e : (t.extract a p).size = p - a := ext_size t a p (by omega) hs
    refine ⟨by simp only []; omega, by simp only []; omega, ?_, hf, ?_⟩
    · simp only []; rw [e]; congr 1; omega
    · show a + (t.extract a p).size = p; omega
  | q :: l, a, h => ⟨h.1, h.2.1, h.2.2.1, h.2.2.2.1, TilD.snoc hp hs hf h.2.2.2.2⟩
def edg : Nat → List Pe → List Nat
  | a, [] => [a]
  | a, p :: l => a :: edg (a + p.t.size) l
theorem edg_snoc (q : Pe) {x : Nat} : ∀ (l : List Pe) (a : Nat), x ∈ edg a l → x ∈ edg a (l ++ [q])
  | [], a, h => by
    have : x = a := by simpa [edg] using h
    subst this
    exact List.mem_cons_self ..
  | p :: l, a, h => by
    rw [List.cons_append]
    rcases List.mem_cons.1 h with e | e
    · subst e; exact List.mem_cons_self ..
    · exact List.mem_cons_of_mem _ (edg_snoc q l _ e)
theorem edg_last {t : ByteArray} : ∀ (l : List Pe) (a b : Nat), TilD t a l b → b ∈ edg a l
  | [], a, b, h => by have h' : a = b := h; subst h'; exact List.mem_cons_self ..
  | p :: l, a, b, h => List.mem_cons_of_mem _ (edg_last l _ b h.2.2.2.2)
structure CtI (t : ByteArray) (E : Nat → Prop) (a : Nat) (lv : List Pe) : Prop where
  til : TilD t 0 lv a
  edg : ∀ x, E x → x ∈ edg 0 lv
theorem CtI.cut {t : ByteArray} {E : Nat → Prop} {a p : Nat} {lv : List Pe} {f : Int} (h : CtI t E a lv) (h1 : a ≤ p) (h2 : p ≤ t.size) (hf : 0 ≤ f ∧ f ≤ 17) : CtI t (fun x => E x ∨ x = p) p (cutP t a p f lv) := by
  unfold cutP
  by_cases e : a = p
  · rw [if_pos e]
    subst e
    exact ⟨h.til, fun x hx => by
      rcases hx with q | q
      · exact h.edg x q
      · subst q; exact edg_last lv 0 _ h.til⟩
  · rw [if_neg e]
    have ht := TilD.snoc (by omega : a < p) h2 hf h.til
    exact ⟨ht, fun x hx => by
      rcases hx with q | q
      · exact edg_snoc _ lv 0 (h.edg x q)
      · subst q; exact edg_last _ 0 _ ht⟩
theorem CtI.mono {t : ByteArray} {E F : Nat → Prop} {a : Nat} {lv : List Pe} (h : CtI t E a lv) (hf : ∀ x, F x → E x) : CtI t F a lv := ⟨h.til, fun x hx => h.edg x (hf x hx)⟩
def FOk (s : Sp) : Prop := 0 ≤ s.f ∧ s.f ≤ 17
theorem goL_ct (t : ByteArray) (p : Nat) : ∀ (st : List Sp) (a : Nat) (lv : List Pe) (E : Nat → Prop), EndsOk t a st → a ≤ p → p ≤ t.size → (∀ s ∈ st, FOk s) → CtI t E a lv → CtI t (fun x => E x ∨ x = p ∨ ∃ s ∈ st, s.b ≤ (p : Int) ∧ x = s.b.toNat) p (goL t p st a lv)
  | [], a, lv, E, _, h1, h2, _, h => by
    unfold goL
    exact (h.cut (f := 0) h1 h2 (by decide)).mono fun x hx => by
      rcases hx with q | q | ⟨s, q, _⟩
      · exact .inl q
      · exact .inr q
      · simp at q
  | s :: st, a, lv, E, he, h1, h2, hf, h => by
    obtain ⟨q1, q2, q3, q4⟩ := he.tail
    have hp := List.pairwise_cons.1 he.2
    unfold goL
    by_cases hb : s.b ≤ (p : Int)
    · rw [if_pos hb]
      refine (goL_ct t p st _ _ _ q1 (by omega) h2 (fun u hu => hf u (List.mem_cons_of_mem _ hu)) (h.cut q2 q3 (hf s (List.mem_cons_self ..)))).mono fun x hx => ?_
      rcases hx with q | q | ⟨u, q, q5⟩
      · exact .inl (.inl q)
      · exact .inr (.inl q)
      · rcases List.mem_cons.1 q with e | e
        · subst e; exact .inl (.inr q5.2)
        · exact .inr (.inr ⟨u, e, q5⟩)
    · rw [if_neg hb]
      refine (h.cut h1 h2 (hf s (List.mem_cons_self ..))).mono fun x hx => ?_
      rcases hx with q | q | ⟨u, q, q5, q6⟩
      · exact .inl q
      · exact .inr q
      · exfalso
        rcases List.mem_cons.1 q with e | e
        · subst e; omega
        · have := hp.1 u e; omega
theorem lvs_ct (t : ByteArray) : ∀ (l st : List Sp) (a : Nat) (lv : List Pe) (E : Nat → Prop), RunOk t a st l → a ≤ t.size → (∀ s ∈ st, FOk s) → (∀ s ∈ l, FOk s) → CtI t E a lv → CtI t (fun x => E x ∨ (∃ s ∈ st, x = s.b.toNat) ∨ ∃ s ∈ l, x = s.a.toNat ∨ x = s.b.toNat) t.size (lvs t l st a lv)
  | [], st, a, lv, E, h, ha, hf, _, hc => by
    unfold lvs
    refine (goL_ct t t.size st a lv E h.ends ha (Nat.le_refl _) hf hc).mono fun x hx => ?_
    rcases hx with q | ⟨s, q, q2⟩ | ⟨s, q, _⟩
    · exact .inl q
    · exact .inr (.inr ⟨s, q, (h.ends.1 s q).2, q2⟩)
    · simp at q
  | s :: l, st, a, lv, E, h, ha, hf, hg, hc => by
    obtain ⟨h1, h2, h3, h4⟩ := h.step
    have q1 : a ≤ s.a.toNat := by omega
    have q2 : s.a.toNat ≤ t.size := by omega
    unfold lvs
    refine (lvs_ct t l _ _ _ _ h4 q2 (fun u hu => ?_) (fun u hu => hg u (List.mem_cons_of_mem _ hu)) (goL_ct t s.a.toNat st a lv E h.ends q1 q2 hf hc)).mono fun x hx => ?_
    · rcases List.mem_cons.1 hu with e | e
      · subst e; exact hg u (List.mem_cons_self ..)
      · exact hf u (goS_mem e)
    · rcases hx with q | ⟨u, q, q5⟩ | ⟨u, q, q5⟩
      · exact .inl (.inl q)
      · rcases goS_out (p := s.a.toNat) q with e | e
        · exact .inr (.inl ⟨u, List.mem_cons_of_mem _ e, q5⟩)
        · exact .inl (.inr (.inr ⟨u, q, e, q5⟩))
      · rcases List.mem_cons.1 q with e | e
        · subst e
          rcases q5 with e2 | e2
          · exact .inl (.inr (.inl e2))
          · exact .inr (.inl ⟨u, List.mem_cons_self .., e2⟩)
        · exact .inr (.inr ⟨u, e, q5⟩)
theorem mayB_sp {t : ByteArray} {l : List Sp} (h : mayB t l = true) : ∀ s ∈ l, FOk s ∧ 0 ≤ s.a ∧ s.a < s.b ∧ s.b ≤ t.size := by
  have hr := mayB_run h
  unfold mayB at h
  simp only [Bool.and_eq_true, Bool.not_eq_true'] at h
  obtain ⟨⟨⟨_, h2⟩, _⟩, _⟩ := h
  intro s hs
  have q := List.any_eq_false.1 h2 s hs
  have q0 := hr.pl s hs
  refine ⟨?_, by omega, by omega, by omega⟩
  unfold misB at q
  simp only [Bool.or_eq_true, decide_eq_true_eq, Bool.not_eq_true', not_or, Bool.not_eq_false] at q
  obtain ⟨⟨⟨⟨_, qk⟩, _⟩, _⟩, _⟩ := q
  unfold knB at qk
  simp only [Bool.and_eq_true, decide_eq_true_eq] at qk
  unfold FOk
  omega
theorem leaves_ct {t : ByteArray} {l : List Sp} (h : mayB t l = true) : TilD t 0 (leavesP t l) t.size ∧ ∀ s ∈ l, s.a.toNat ∈ edg 0 (leavesP t l) ∧ s.b.toNat ∈ edg 0 (leavesP t l) := by
  have q := lvs_ct t l [] 0 [] (fun _ => False) (mayB_run h) (Nat.zero_le _) (fun s hs => by simp at hs) (fun s hs => (mayB_sp h s hs).1) ⟨rfl, fun _ hx => hx.elim⟩
  exact ⟨q.til, fun s hs => ⟨q.edg _ (.inr (.inr ⟨s, hs, .inl rfl⟩)), q.edg _ (.inr (.inr ⟨s, hs, .inr rfl⟩))⟩⟩
theorem crsP_pair : ∀ (l : List Sp) (st : List Int), st.Pairwise (· ≤ ·) → SrtS l → crsP st l = false → (∀ t ∈ st, ∀ x ∈ l, ¬ (x.a < t ∧ t < x.b)) ∧ l.Pairwise (fun y x => ¬ (x.a < y.b ∧ y.b < x.b))
  | [], _, _, _, _ => ⟨fun _ _ x hx => by simp at hx, List.Pairwise.nil⟩
  | s :: l, st, h1, h2, h => by
    rw [crsP_cons, Bool.or_eq_false_iff] at h
    have p2 := List.pairwise_cons.1 h2
    have hout : ∀ (L : List Int) (u : Int), u ∈ L → u ∈ L.dropWhile (fun t => decide (t ≤ s.a)) ∨ u ≤ s.a := fun L => by
      induction L with
      | nil => intro u hu; simp at hu
      | cons x L ih =>
        intro u hu
        rw [List.dropWhile_cons]
        by_cases hx : x ≤ s.a
        · rw [if_pos (by simpa using hx)]
          rcases List.mem_cons.1 hu with e | e
          · subst e; exact .inr hx
          · exact ih u e
        · rw [if_neg (by simpa using hx)]; exact .inl hu
    have hsub : (st.dropWhile (fun t => decide (t ≤ s.a))).Pairwise (· ≤ ·) := h1.sublist (List.dropWhile_sublist _)
    have hge : ∀ u ∈ st.dropWhile (fun t => decide (t ≤ s.a)), s.b ≤ u := by
      have ht := h.1
      generalize st.dropWhile (fun t => decide (t ≤ s.a)) = L at ht hsub
      cases L with
      | nil => intro u hu; simp at hu
      | cons y L =>
        have hy : s.b ≤ y := by
          unfold topLt at ht
          simpa using ht
        intro u hu
        rcases List.mem_cons.1 hu with e | e
        · subst e; exact hy
        · have := (List.pairwise_cons.1 hsub).1 u e; omega
    obtain ⟨q1, q2⟩ := crsP_pair l _ (List.pairwise_cons.2 ⟨hge, hsub⟩) p2.2 h.2
    refine ⟨fun t ht x hx => ?_, List.pairwise_cons.2 ⟨fun x hx => q1 s.b (List.mem_cons_self ..) x hx, q2⟩⟩
    rcases hout st t ht with e | e
    · rcases List.mem_cons.1 hx with e2 | e2
      · subst e2; have := hge t e; omega
      · exact q1 t (List.mem_cons_of_mem _ e) x e2
    · have hxa : s.a ≤ x.a := by
        rcases List.mem_cons.1 hx with e2 | e2
        · subst e2; exact Int.le_refl _
        · have := p2.1 x e2; unfold LtS at this; omega
      omega
theorem mayB_pair {t : ByteArray} {l : List Sp} (h : mayB t l = true) : SrtS l ∧ l.Pairwise (fun y x => ¬ (x.a < y.b ∧ y.b < x.b)) := by
  have hr := mayB_run h
  exact ⟨hr.srt, (crsP_pair l [] List.Pairwise.nil hr.srt hr.crs).2⟩
end Go.Proofs.YtkgapklhgkngnaaDoor
