/-
  What Build tells of the spans, in whatever order they are put in.
  The fields of the bytes of what was built.
  What Leaves answers.
  The leaves of what was built, byte by byte.
  Texts that are UTF-8: put together; where their runes begin.
  What was built may be.
  The leaves lie one behind the other; spans begin and end between them.
-/
import Derived.Test.YtkgapklhgkngnaaDoorBB6
import Derived.Test.YtkgapklhgkngnaaDoorBB5
import Derived.Test.YtkgapklhgkngnaaDoorBB3
namespace Go.Proofs.YtkgapklhgkngnaaDoor

def InS (n : Int) (s : Sp) : Prop := 0 ≤ s.a ∧ s.a < s.b ∧ s.b ≤ n
def KeyD (l : List Sp) : Prop := l.Pairwise fun s t => ¬ (s.a = t.a ∧ s.b = t.b)
def insG (acc l : List Sp) : List Sp := l.foldl (fun q x => putS x q) acc
def insS (l : List Sp) : List Sp := insG [] l
theorem insG_perm : ∀ (l acc : List Sp), (insG acc l).Perm (acc ++ l)
  | [], acc => by rw [List.append_nil]; exact List.Perm.refl _
  | x :: l, acc => by
    refine (insG_perm l (putS x acc)).trans (((putS_perm x acc).append_right l).trans ?_)
    rw [List.cons_append]
    exact List.perm_middle.symm
theorem insG_srt : ∀ (l acc : List Sp), SrtS acc → SrtS (insG acc l)
  | [], _, h => h
  | _ :: l, _, h => insG_srt l _ (putS_srt h)
theorem insS_perm (l : List Sp) : (insS l).Perm l := insG_perm l []
theorem insS_srt (l : List Sp) : SrtS (insS l) := insG_srt l [] List.Pairwise.nil
theorem insS_snoc (l : List Sp) (x : Sp) : insS (l ++ [x]) = putS x (insS l) := by unfold insS insG; rw [List.foldl_append]; rfl
theorem insS_len (l : List Sp) : (insS l).length = l.length := (insS_perm l).length_eq
theorem KeyD.eq {l : List Sp} (h : KeyD l) {s t : Sp} (hs : s ∈ l) (ht : t ∈ l) (ha : s.a = t.a) (hb : s.b = t.b) : s = t := by
  induction l with
  | nil => cases hs
  | cons x l ih =>
    have hp := List.pairwise_cons.1 h
    rcases List.mem_cons.1 hs with e | e
    · rcases List.mem_cons.1 ht with e2 | e2
      · rw [e, e2]
      · subst e; exact absurd ⟨ha, hb⟩ (hp.1 t e2)
    · rcases List.mem_cons.1 ht with e2 | e2
      · subst e2; exact absurd ⟨ha.symm, hb.symm⟩ (hp.1 s e)
      · exact ih hp.2 e e2
theorem insS_ord {l : List Sp} (h : KeyD l) : insS l = ordS l :=
  perm_uniq ((insS_perm l).trans (ordS_perm l).symm) (insS_srt l) (ordS_srt l) (fun x hx y hy h1 h2 => by
    unfold LtS at h1 h2
    exact h.eq ((insS_perm l).mem_iff.1 hx) ((insS_perm l).mem_iff.1 hy) (by omega) (by omega))

structure BlI (N : Nat) (sp : List Sp) (dg : Sp) : Prop where
  ins : ∀ s ∈ sp, InS N s
  key : KeyD sp
  dgn : dg.b ≤ 0 → dg = spN
  dgi : 0 < dg.b → InS N dg ∧ dg.f = 2 ∧ ∀ s ∈ sp, s.b ≤ dg.a ∨ (dg.a < s.a ∧ (s.b ≤ dg.b ∨ dg.b ≤ s.a))
  nox : ∀ s ∈ sp, ∀ u ∈ sp, ¬ (s.a < u.a ∧ u.a < s.b ∧ s.b < u.b)
theorem BlI.nil : BlI 0 [] spN := ⟨fun _ h => by simp at h, List.Pairwise.nil, fun _ => rfl, fun h => absurd h (by decide), fun _ h => by simp at h⟩
theorem KeyD.snoc {l : List Sp} {x : Sp} (h : KeyD l) (hx : ∀ s ∈ l, ¬ (s.a = x.a ∧ s.b = x.b)) : KeyD (l ++ [x]) :=
  List.pairwise_append.2 ⟨h, List.pairwise_singleton _ _, fun s hs t ht => by obtain rfl := List.mem_singleton.1 ht; exact hx s hs⟩
theorem BlI.mono {N M : Nat} {sp : List Sp} {dg : Sp} (h : BlI N sp dg) (hm : N ≤ M) : BlI M sp dg :=
  ⟨fun s hs => by have := h.ins s hs; unfold InS at *; omega, h.key, h.dgn, fun h0 => by have := h.dgi h0; unfold InS at *; exact ⟨by omega, this.2⟩, h.nox⟩
theorem mem_snoc {α : Type} {l : List α} {x y : α} : y ∈ l ++ [x] ↔ y ∈ l ∨ y = x := by simp
theorem BlI.fin {N : Nat} {sp : List Sp} {dg : Sp} (h : BlI N sp dg) : BlI N (endS sp dg) spN := by
  unfold endS
  by_cases h0 : 0 < dg.b
  · rw [if_pos h0]
    obtain ⟨d1, d2, d3⟩ := h.dgi h0
    refine ⟨fun s hs => ?_, h.key.snoc fun s hs => ?_, fun _ => rfl, fun q => absurd q (by decide), fun s hs u hu => ?_⟩
    · rcases mem_snoc.1 hs with e | e
      · exact h.ins s e
      · subst e; exact d1
    · have := d3 s hs; have := h.ins s hs; unfold InS at *; omega
    · rcases mem_snoc.1 hs with e | e
      · rcases mem_snoc.1 hu with e2 | e2
        · exact h.nox s e u e2
        · subst e2; have := d3 s e; have := h.ins s e; unfold InS at *; omega
      · subst e
        rcases mem_snoc.1 hu with e2 | e2
        · have := d3 u e2; have := h.ins u e2; unfold InS at *; omega
        · subst e2; omega
  · rw [if_neg h0]
    have e := h.dgn (by omega)
    subst e
    exact h
theorem BlI.own {N M : Nat} {sp : List Sp} {dg x : Sp} (h : BlI N sp dg) (hx : x.a = N) (hb : x.b = M) (hm : N < M) : BlI M (sp ++ [x]) dg := by
  have h2 := h.mono (Nat.le_of_lt hm)
  refine ⟨fun s hs => ?_, h.key.snoc fun s hs => ?_, h.dgn, fun h0 => ?_, fun s hs u hu => ?_⟩
  · rcases mem_snoc.1 hs with e | e
    · exact h2.ins s e
    · subst e; unfold InS; omega
  · have := h.ins s hs; unfold InS at *; omega
  · obtain ⟨d1, d2, d3⟩ := h.dgi h0
    refine ⟨(h2.dgi h0).1, d2, fun s hs => ?_⟩
    rcases mem_snoc.1 hs with e | e
    · exact d3 s e
    · subst e; unfold InS at *; omega
  · rcases mem_snoc.1 hs with e | e
    · rcases mem_snoc.1 hu with e2 | e2
      · exact h.nox s e u e2
      · subst e2; have := h.ins s e; unfold InS at *; omega
    · subst e
      rcases mem_snoc.1 hu with e2 | e2
      · have := h.ins u e2; unfold InS at *; omega
      · subst e2; omega
theorem BlI.dig {N M : Nat} {sp : List Sp} {dg : Sp} (h : BlI N sp dg) (hm : N < M) : BlI M sp (digS dg ⟨2, (N : Int), (M : Int)⟩) := by
  have h2 := h.mono (Nat.le_of_lt hm)
  unfold digS
  by_cases h0 : dg.b = 0
  · rw [if_pos h0]
    refine ⟨h2.ins, h.key, fun q => absurd q (by simp only []; omega), fun _ => ⟨by unfold InS; simp only []; omega, rfl, fun s hs => ?_⟩, h.nox⟩
    have := h.ins s hs; unfold InS at *; simp only []; omega
  · rw [if_neg h0]
    have hp : 0 < dg.b := by
      by_cases q : dg.b ≤ 0
      · have := h.dgn q; subst this; exact absurd rfl h0
      · omega
    obtain ⟨d1, d2, d3⟩ := h.dgi hp
    refine ⟨h2.ins, h.key, fun q => absurd q (by simp only []; omega), fun _ => ⟨by unfold InS at *; simp only []; omega, d2, fun s hs => ?_⟩, h.nox⟩
    have := d3 s hs; have := h.ins s hs; unfold InS at *; simp only []; omega
theorem BlI.pie {N : Nat} {sp : List Sp} {dg : Sp} (h : BlI N sp dg) (f : Int) (k : Nat) (hk : 0 < k) : BlI (N + k) (pieS f ⟨f, (N : Int), (N : Int) + (k : Int)⟩ sp dg) (pieG f ⟨f, (N : Int), (N : Int) + (k : Int)⟩ dg) := by
  have e : (N : Int) + (k : Int) = ((N + k : Nat) : Int) := by omega
  unfold pieS pieG
  by_cases h2 : f = 2
  · subst h2; rw [if_pos rfl, if_pos rfl, e]; exact h.dig (by omega)
  · rw [if_neg h2, if_neg h2]
    by_cases h3 : f = 3
    · rw [if_pos h3, if_pos h3]; exact h.own rfl e (by omega)
    · rw [if_neg h3, if_neg h3]
      by_cases h1 : f = 0
      · rw [if_pos h1]; exact h.fin.mono (by omega)
      · rw [if_neg h1]; exact h.fin.own rfl e (by omega)
theorem bldF_inv : ∀ (l : List Pe) (bs : List UInt8) (sp : List Sp) (dg : Sp), BlI bs.length sp dg → BlI (bldF l bs sp dg).1.length (bldF l bs sp dg).2 spN
  | [], _, _, _, h => h.fin
  | p :: l, bs, sp, dg, h => by
    unfold bldF
    by_cases h0 : p.t.size = 0
    · rw [if_pos h0]; exact bldF_inv l bs sp dg h
    · rw [if_neg h0]
      refine bldF_inv l _ _ _ ?_
      rw [List.length_append, bys_len]
      exact h.pie p.f p.t.size (by omega)
theorem bldP_inv (l : List Pe) : BlI (bldP l).1.length (bldP l).2 spN := bldF_inv l [] [] spN BlI.nil
theorem bldP_ord (l : List Pe) : insS (bldP l).2 = ordS (bldP l).2 := insS_ord (bldP_inv l).key
end Go.Proofs.YtkgapklhgkngnaaDoor

namespace Go.Proofs.YtkgapklhgkngnaaDoor

end Go.Proofs.YtkgapklhgkngnaaDoor

namespace Go.Proofs.YtkgapklhgkngnaaDoor
open Go.RowKit

def lvs (t : ByteArray) : List Sp → List Sp → Nat → List Pe → List Pe
  | [], st, a, lv => goL t t.size st a lv
  | s :: l, st, a, lv => lvs t l (s :: goS s.a.toNat st) s.a.toNat (goL t s.a.toNat st a lv)
def leavesP (t : ByteArray) (l : List Sp) : List Pe := lvs t l [] 0 []

structure RunOk (t : ByteArray) (a : Nat) (st l : List Sp) : Prop where
  pl : ∀ s ∈ l, (a : Int) ≤ s.a ∧ s.a < s.b ∧ s.b ≤ t.size
  srt : SrtS l
  ends : EndsOk t a st
  crs : crsP (st.map Sp.b) l = false

theorem goS_map (p : Nat) : ∀ st : List Sp, (goS p st).map Sp.b = (st.map Sp.b).dropWhile fun u => decide (u ≤ (p : Int))
  | [] => rfl
  | s :: st => by
    unfold goS
    rw [List.dropWhile_cons, List.map_cons, List.dropWhile_cons]
    by_cases h : s.b ≤ (p : Int)
    · rw [if_pos (by simpa using h), if_pos (by simpa using h)]; exact goS_map p st
    · rw [if_neg (by simpa using h), if_neg (by simpa using h), List.map_cons]
theorem goS_mem {p : Nat} {s : Sp} : ∀ {st : List Sp}, s ∈ goS p st → s ∈ st
  | [], h => h
  | u :: st, h => by
    unfold goS at h
    rw [List.dropWhile_cons] at h
    split at h
    · exact List.mem_cons_of_mem _ (goS_mem h)
    · exact h
theorem goS_pair {R : Sp → Sp → Prop} {p : Nat} : ∀ {st : List Sp}, st.Pairwise R → (goS p st).Pairwise R
  | [], h => h
  | u :: st, h => by
    unfold goS
    rw [List.dropWhile_cons]
    split
    · exact goS_pair (List.pairwise_cons.1 h).2
    · exact h
theorem goS_beh {p : Nat} {st : List Sp} (h : st.Pairwise fun s u => s.b ≤ u.b) : ∀ s ∈ goS p st, (p : Int) < s.b := by
  induction st with
  | nil => intro s hs; simp [goS] at hs
  | cons u st ih =>
    intro s hs
    have hp := List.pairwise_cons.1 h
    unfold goS at hs
    rw [List.dropWhile_cons] at hs
    split at hs
    · exact ih hp.2 s hs
    next hu =>
      have hu2 : (p : Int) < u.b := by simpa using hu
      rcases List.mem_cons.1 hs with e | e
      · subst e; exact hu2
      · have := hp.1 s e; omega
theorem goL_len (t : ByteArray) (p : Nat) : ∀ (st : List Sp) (a : Nat) (lv : List Pe), (goL t p st a lv).length + (goS p st).length ≤ lv.length + st.length + 1
  | [], a, lv => by have := cutP_len t a p 0 lv; simp [goL, goS]; omega
  | s :: st, a, lv => by
    unfold goL goS
    rw [List.dropWhile_cons]
    by_cases h : s.b ≤ (p : Int)
    · rw [if_pos h, if_pos (by simpa using h)]
      have := goL_len t p st s.b.toNat (cutP t a s.b.toNat s.f lv)
      have := cutP_len t a s.b.toNat s.f lv
      unfold goS at *
      simp only [List.length_cons]
      omega
    · rw [if_neg h, if_neg (by simpa using h)]
      have := cutP_len t a p s.f lv
      omega
theorem RunOk.step {t : ByteArray} {a : Nat} {s : Sp} {st l : List Sp} (h : RunOk t a st (s :: l)) : (a : Int) ≤ s.a ∧ s.a < s.b ∧ s.b ≤ t.size ∧ RunOk t s.a.toNat (s :: goS s.a.toNat st) l := by
  obtain ⟨h1, h2, h3⟩ := h.pl s (List.mem_cons_self ..)
  have hs := List.pairwise_cons.1 h.srt
  have hc := h.crs
  rw [crsP_cons, Bool.or_eq_false_iff] at hc
  have ea : ((s.a.toNat : Nat) : Int) = s.a := by omega
  have em : (goS s.a.toNat st).map Sp.b = (st.map Sp.b).dropWhile fun u => decide (u ≤ s.a) := by rw [goS_map, ea]
  refine ⟨h1, h2, h3, ⟨fun u hu => ?_, hs.2, ⟨fun u hu => ?_, List.pairwise_cons.2 ⟨fun u hu => ?_, goS_pair h.ends.2⟩⟩, ?_⟩⟩
  · have q := h.pl u (List.mem_cons_of_mem _ hu)
    have q2 := hs.1 u hu
    unfold LtS at q2
    omega
  · rcases List.mem_cons.1 hu with e | e
    · subst e; omega
    · have q := goS_beh h.ends.2 u e
      have q2 := (h.ends.1 u (goS_mem e)).2
      omega
  · have ht := hc.1
    rw [← em] at ht
    have hp := goS_pair (p := s.a.toNat) h.ends.2
    cases hg : goS s.a.toNat st with
    | nil => rw [hg] at hu; cases hu
    | cons x r =>
      rw [hg] at hu ht hp
      have hx : ¬ x.b < s.b := by simpa [topLt] using ht
      rcases List.mem_cons.1 hu with e | e
      · subst e; omega
      · have := (List.pairwise_cons.1 hp).1 u e; omega
  · rw [List.map_cons, em]; exact hc.2
theorem mayB_run {t : ByteArray} {l : List Sp} (h : mayB t l = true) : RunOk t 0 [] l := by
  unfold mayB at h
  simp only [Bool.and_eq_true, Bool.not_eq_true'] at h
  obtain ⟨⟨⟨_, h2⟩, h3⟩, h4⟩ := h
  refine ⟨fun s hs => ?_, of_decide_eq_true h3, ⟨fun s hs => by simp at hs, List.Pairwise.nil⟩, h4⟩
  have q := List.any_eq_false.1 h2 s hs
  unfold misB at q
  simp only [Bool.or_eq_true, decide_eq_true_eq, Bool.not_eq_true', not_or, Bool.not_eq_false] at q
  obtain ⟨⟨⟨_, qa⟩, qb⟩, qc⟩ := q
  unfold plB at qa qb
  simp only [Bool.or_eq_true, Bool.and_eq_true, decide_eq_true_eq] at qa qb
  omega
end Go.Proofs.YtkgapklhgkngnaaDoor

namespace Go.Proofs.YtkgapklhgkngnaaDoor

end Go.Proofs.YtkgapklhgkngnaaDoor

namespace Go.Proofs.YtkgapklhgkngnaaDoor
open Go.Lib

end Go.Proofs.YtkgapklhgkngnaaDoor

namespace Go.Proofs.YtkgapklhgkngnaaDoor

end Go.Proofs.YtkgapklhgkngnaaDoor

namespace Go.Proofs.YtkgapklhgkngnaaDoor

end Go.Proofs.YtkgapklhgkngnaaDoor
