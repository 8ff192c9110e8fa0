/-
  What Build tells of the spans, in whatever order they are put in.
  The fields of the bytes of what was built.
  What Leaves answers.
  The leaves of what was built, byte by byte.
  Texts that are UTF-8: put together; where their runes begin.
  What was built may be.
  The leaves lie one behind the other; spans begin and end between them.
-/
import Derived.Test.YtkgapklhgkngnaaDoorDB6
import Derived.Test.YtkgapklhgkngnaaDoorDB5
import Derived.Test.YtkgapklhgkngnaaDoorDB3
namespace Go.Proofs.YtkgapklhgkngnaaDoor

end Go.Proofs.YtkgapklhgkngnaaDoor

namespace Go.Proofs.YtkgapklhgkngnaaDoor

end Go.Proofs.YtkgapklhgkngnaaDoor

namespace Go.Proofs.YtkgapklhgkngnaaDoor
open Go.RowKit

def lvs (t : ByteArray) : List Sp → List Sp → Nat → List Pe → List Pe
  | [], st, a, lv => goL t t.size st a lv
  | s :: l, st, a, lv => lvs t l (s :: goS s.a.toNat st) s.a.toNat (goL t s.a.toNat st a lv)
def leavesP (t : ByteArray) (l : List Sp) : List Pe := lvs t l [] 0 []

structure RunOk (t : ByteArray) (a : Nat) (st l : List Sp) : Prop where
  pl : ∀ s ∈ l, (a : Int) ≤ s.a ∧ s.a < s.b ∧ s.b ≤ t.size
  srt : SrtS l
  ends : EndsOk t a st
  crs : crsP (st.map Sp.b) l = false

theorem goS_map (p : Nat) : ∀ st : List Sp, (goS p st).map Sp.b = (st.map Sp.b).dropWhile fun u => decide (u ≤ (p : Int))
  | [] => rfl
  | s :: st => by
    unfold goS
    rw [List.dropWhile_cons, List.map_cons, List.dropWhile_cons]
    by_cases h : s.b ≤ (p : Int)
    · rw [if_pos (by simpa using h), if_pos (by simpa using h)]; exact goS_map p st
    · rw [if_neg (by simpa using h), if_neg (by simpa using h), List.map_cons]
theorem goS_mem {p : Nat} {s : Sp} : ∀ {st : List Sp}, s ∈ goS p st → s ∈ st
  | [], h => h
  | u :: st, h => by
    unfold goS at h
    rw [List.dropWhile_cons] at h
    split at h
    · exact List.mem_cons_of_mem _ (goS_mem h)
    · exact h
theorem goS_pair {R : Sp → Sp → Prop} {p : Nat} : ∀ {st : List Sp}, st.Pairwise R → (goS p st).Pairwise R
  | [], h => h
  | u :: st, h => by
    unfold goS
    rw [List.dropWhile_cons]
    split
    · exact goS_pair (List.pairwise_cons.1 h).2
    · exact h
theorem goS_beh {p : Nat} {st : List Sp} (h : st.Pairwise fun s u => s.b ≤ u.b) : ∀ s ∈ goS p st, (p : Int) < s.b := by
  induction st with
  | nil => intro s hs; simp [goS] at hs
  | cons u st ih =>
    intro s hs
    have hp := List.pairwise_cons.1 h
    unfold goS at hs
    rw [List.dropWhile_cons] at hs
    split at hs
    · exact ih hp.2 s hs
    next hu =>
      have hu2 : (p : Int) < u.b := by simpa using hu
      rcases List.mem_cons.1 hs with e | e
      · subst e; exact hu2
      · have := hp.1 s e; omega
theorem goL_len (t : ByteArray) (p : Nat) : ∀ (st : List Sp) (a : Nat) (lv : List Pe), (goL t p st a lv).length + (goS p st).length ≤ lv.length + st.length + 1
  | [], a, lv => by have := cutP_len t a p 0 lv; simp [goL, goS]; omega
  | s :: st, a, lv => by
    unfold goL goS
    rw [List.dropWhile_cons]
    by_cases h : s.b ≤ (p : Int)
    · rw [if_pos h, if_pos (by simpa using h)]
      have := goL_len t p st s.b.toNat (cutP t a s.b.toNat s.f lv)
      have := cutP_len t a s.b.toNat s.f lv
      unfold goS at *
      simp only [List.length_cons]
      omega
    · rw [if_neg h, if_neg (by simpa using h)]
      have := cutP_len t a p s.f lv
      omega
theorem RunOk.step {t : ByteArray} {a : Nat} {s : Sp} {st l : List Sp} (h : RunOk t a st (s :: l)) : (a : Int) ≤ s.a ∧ s.a < s.b ∧ s.b ≤ t.size ∧ RunOk t s.a.toNat (s :: goS s.a.toNat st) l := by
  obtain ⟨h1, h2, h3⟩ := h.pl s (List.mem_cons_self ..)
  have hs := List.pairwise_cons.1 h.srt
  have hc := h.crs
  rw [crsP_cons, Bool.or_eq_false_iff] at hc
  have ea : ((s.a.toNat : Nat) : Int) = s.a := by omega
  have em : (goS s.a.toNat st).map Sp.b = (st.map Sp.b).dropWhile fun u => decide (u ≤ s.a) := by rw [goS_map, ea]
  refine ⟨h1, h2, h3, ⟨fun u hu => ?_, hs.2, ⟨fun u hu => ?_, List.pairwise_cons.2 ⟨fun u hu => ?_, goS_pair h.ends.2⟩⟩, ?_⟩⟩
  · have q := h.pl u (List.mem_cons_of_mem _ hu)
    have q2 := hs.1 u hu
    unfold LtS at q2
    omega
  · rcases List.mem_cons.1 hu with e | e
    · subst e; omega
    · have q := goS_beh h.ends.2 u e
      have q2 := (h.ends.1 u (goS_mem e)).2
      omega
  · have ht := hc.1
    rw [← em] at ht
    have hp := goS_pair (p := s.a.toNat) h.ends.2
    cases hg : goS s.a.toNat st with
    | nil => rw [hg] at hu; cases hu
    | cons x r =>
      rw [hg] at hu ht hp
      have hx : ¬ x.b < s.b := by simpa [topLt] using ht
      rcases List.mem_cons.1 hu with e | e
      · subst e; omega
      · have := (List.pairwise_cons.1 hp).1 u e; omega
  · rw [List.map_cons, em]; exact hc.2
theorem mayB_run {t : ByteArray} {l : List Sp} (h : mayB t l = true) : RunOk t 0 [] l := by
  unfold mayB at h
  simp only [Bool.and_eq_true, Bool.not_eq_true'] at h
  obtain ⟨⟨⟨_, h2⟩, h3⟩, h4⟩ := h
  refine ⟨fun s hs => ?_, of_decide_eq_true h3, ⟨fun s hs => by simp at hs, List.Pairwise.nil⟩, h4⟩
  have q := List.any_eq_false.1 h2 s hs
  unfold misB at q
  simp only [Bool.or_eq_true, decide_eq_true_eq, Bool.not_eq_true', not_or, Bool.not_eq_false] at q
  obtain ⟨⟨⟨_, qa⟩, qb⟩, qc⟩ := q
  unfold plB at qa qb
  simp only [Bool.or_eq_true, Bool.and_eq_true, decide_eq_true_eq] at qa qb
  omega
end Go.Proofs.YtkgapklhgkngnaaDoor

namespace Go.Proofs.YtkgapklhgkngnaaDoor

end Go.Proofs.YtkgapklhgkngnaaDoor

namespace Go.Proofs.YtkgapklhgkngnaaDoor
open Go.Lib

theorem acc_lo : ∀ b : Fin 256, 2 ≤ firstT b.val % 8 → firstT b.val % 8 ≤ 4 → 128 ≤ accLo (firstT b.val / 16) ∧ accHi (firstT b.val / 16) ≤ 191 := by decide +kernel
theorem first_cont : ∀ b : Fin 256, 128 ≤ b.val → b.val < 192 → firstT b.val % 8 = 1 := by decide +kernel
theorem runeN_cont (n b0 b1 b2 b3 r : Nat) (h0 : b0 < 256) (h : runeN n b0 b1 b2 b3 = r) : (1 < r → 128 ≤ b1 ∧ b1 ≤ 191) ∧ (2 < r → 128 ≤ b2 ∧ b2 ≤ 191) ∧ (3 < r → 128 ≤ b3 ∧ b3 ≤ 191) := by
  have ha := acc_lo ⟨b0, h0⟩
  simp only [] at ha
  unfold runeN at h
  generalize firstT b0 % 8 = sz at h ha
  generalize accLo (firstT b0 / 16) = lo at h ha
  generalize accHi (firstT b0 / 16) = hi at h ha
  unfold checkN at h
  by_cases c0 : n = 0
  · rw [if_pos c0] at h; omega
  rw [if_neg c0] at h
  by_cases c1 : b0 < 128
  · rw [if_pos c1] at h; omega
  rw [if_neg c1] at h
  by_cases c2 : sz = 2
  · have q := ha (by omega) (by omega)
    rw [if_pos c2] at h
    by_cases c : n < 2 ∨ b1 < lo ∨ hi < b1
    · rw [if_pos c, Option.getD_none] at h; omega
    · rw [if_neg c, Option.getD_some] at h; omega
  rw [if_neg c2] at h
  by_cases c3 : sz = 3
  · have q := ha (by omega) (by omega)
    rw [if_pos c3] at h
    by_cases c : n < 3 ∨ b1 < lo ∨ hi < b1 ∨ b2 < 128 ∨ 191 < b2
    · rw [if_pos c, Option.getD_none] at h; omega
    · rw [if_neg c, Option.getD_some] at h; omega
  rw [if_neg c3] at h
  by_cases c4 : sz = 4
  · have q := ha (by omega) (by omega)
    rw [if_pos c4] at h
    by_cases c : n < 4 ∨ b1 < lo ∨ hi < b1 ∨ b2 < 128 ∨ 191 < b2 ∨ b3 < 128 ∨ 191 < b3
    · rw [if_pos c, Option.getD_none] at h; omega
    · rw [if_neg c, Option.getD_some] at h; omega
  rw [if_neg c4, Option.getD_none] at h
  omega
theorem runeN_start (n b0 b1 b2 b3 : Nat) (h0 : b0 < 256) (h : runeN n b0 b1 b2 b3 ≠ 0) : Lib.runeStart (b0 : Int) = true := by
  by_cases c : 128 ≤ b0 ∧ b0 < 192
  · exfalso
    apply h
    unfold runeN
    have q := first_cont ⟨b0, h0⟩ c.1 c.2
    simp only [] at q
    rw [q]
    by_cases c0 : n = 0
    · rw [if_pos c0]
    · rw [if_neg c0, if_neg (by omega)]
      unfold checkN
      rw [if_neg (by decide), if_neg (by decide), if_neg (by decide)]
      rfl
  · unfold Lib.runeStart
    rw [bne_iff_ne]
    omega
theorem rs_cont (b : Nat) (h1 : 128 ≤ b) (h2 : b ≤ 191) : Lib.runeStart (b : Int) = false := by
  unfold Lib.runeStart
  rw [bne_eq_false_iff_eq]
  omega
theorem valid_step (l : List UInt8) (h : l ≠ []) : Lib.validD l = (decide (runeL l ≠ 0) && Lib.validD (l.drop (runeL l))) := by
  rw [valid_runes, runesL_step l h, valid_runes]
  by_cases hr : runeL l = 0
  · rw [if_pos hr, decide_eq_false (by omega)]; rfl
  · rw [if_neg hr, decide_eq_true hr, Bool.true_and, Option.isSome_map]
theorem vStart {l : List UInt8} (h : Lib.validD l = true) (hl : l ≠ []) : Lib.runeStart ((byB l 0 : Nat) : Int) = true := by
  have hs := valid_step l hl
  rw [h] at hs
  exact runeN_start _ _ _ _ _ (byB_lt _ _) (of_decide_eq_true (Bool.and_eq_true_iff.1 hs.symm).1)
theorem vHead : ∀ (n : Nat) (l : List UInt8) (k : Nat), l.length ≤ n → Lib.validD l = true → k < l.length → Lib.validD (l.take k) = Lib.runeStart ((byB l k : Nat) : Int)
  | 0, l, k, h, _, hk => by omega
  | n + 1, l, k, h, hv, hk => by
    have hne : l ≠ [] := fun e => by subst e; simp at hk
    have hs := valid_step l hne
    rw [hv] at hs
    have hs2 := Bool.and_eq_true_iff.1 hs.symm
    have h0 : runeL l ≠ 0 := of_decide_eq_true hs2.1
    have hl := runeL_le l
    by_cases c0 : k = 0
    · subst c0; rw [List.take_zero, vStart hv hne]; rfl
    have hne2 : l.take k ≠ [] := fun e => by have := congrArg List.length e; rw [List.length_take, List.length_nil] at this; omega
    by_cases c1 : k < runeL l
    · rw [valid_step _ hne2, runeL_short l k (by omega) c1, decide_eq_false (p := (0 : Nat) ≠ 0) (by omega), Bool.false_and]
      obtain ⟨r1, r2, r3⟩ := runeN_cont l.length (byB l 0) (byB l 1) (byB l 2) (byB l 3) (runeL l) (byB_lt _ _) rfl
      have hk3 : k = 1 ∨ k = 2 ∨ k = 3 := by omega
      rcases hk3 with e | e | e
      · subst e; obtain ⟨q1, q2⟩ := r1 (by omega); exact (rs_cont _ q1 q2).symm
      · subst e; obtain ⟨q1, q2⟩ := r2 (by omega); exact (rs_cont _ q1 q2).symm
      · subst e; obtain ⟨q1, q2⟩ := r3 (by omega); exact (rs_cont _ q1 q2).symm
    · rw [valid_step _ hne2, runeL_take l k h0 (by omega), decide_eq_true h0, Bool.true_and, List.drop_take]
      rw [vHead n (l.drop (runeL l)) (k - runeL l) (by rw [List.length_drop]; omega) hs2.2 (by rw [List.length_drop]; omega)]
      unfold byB
      rw [List.getD_eq_getElem?_getD, List.getD_eq_getElem?_getD, List.getElem?_drop, show runeL l + (k - runeL l) = k by omega]
end Go.Proofs.YtkgapklhgkngnaaDoor

namespace Go.Proofs.YtkgapklhgkngnaaDoor

theorem crsP_no : ∀ (l : List Sp) (st : List Int), st.Pairwise (· ≤ ·) → SrtS l → (∀ t ∈ st, ∀ x ∈ l, ¬ (x.a < t ∧ t < x.b)) → (∀ s ∈ l, s.a < s.b) → l.Pairwise (fun y x => ¬ (x.a < y.b ∧ y.b < x.b)) → crsP st l = false
  | [], _, _, _, _, _, _ => rfl
  | s :: l, st, h1, h2, h3, h4, h5 => by
    have p2 := List.pairwise_cons.1 h2
    have p5 := List.pairwise_cons.1 h5
    have hmem : ∀ (L : List Int) (u : Int), u ∈ L.dropWhile (fun t => decide (t ≤ s.a)) → u ∈ L := fun L u hu => (List.dropWhile_sublist _).subset hu
    have hsub : (st.dropWhile (fun t => decide (t ≤ s.a))).Pairwise (· ≤ ·) := h1.sublist (List.dropWhile_sublist _)
    have hbeh : ∀ (L : List Int), L.Pairwise (· ≤ ·) → ∀ u ∈ L.dropWhile (fun t => decide (t ≤ s.a)), s.a < u := fun L => by
      induction L with
      | nil => intro _ u hu; simp at hu
      | cons x L ih =>
        intro hL u hu
        have hx := List.pairwise_cons.1 hL
        rw [List.dropWhile_cons] at hu
        split at hu
        · exact ih hx.2 u hu
        next hn =>
          have hn2 : s.a < x := by simpa using hn
          rcases List.mem_cons.1 hu with e | e
          · subst e; exact hn2
          · have := hx.1 u e; omega
    have hge : ∀ u ∈ st.dropWhile (fun t => decide (t ≤ s.a)), s.b ≤ u := fun u hu => by
      have q1 := hbeh st h1 u hu
      have q2 := h3 u (hmem st u hu) s (List.mem_cons_self ..)
      omega
    rw [crsP_cons, Bool.or_eq_false_iff]
    refine ⟨?_, crsP_no l _ (List.pairwise_cons.2 ⟨hge, hsub⟩) p2.2 (fun t ht x hx => ?_) (fun x hx => h4 x (List.mem_cons_of_mem _ hx)) p5.2⟩
    · generalize st.dropWhile (fun t => decide (t ≤ s.a)) = L at hge
      cases L with
      | nil => rfl
      | cons u L =>
        have := hge u (List.mem_cons_self ..)
        unfold topLt
        simpa using this
    · rcases List.mem_cons.1 ht with e | e
      · subst e; exact p5.1 x hx
      · exact h3 t (hmem st t e) x (List.mem_cons_of_mem _ hx)
end Go.Proofs.YtkgapklhgkngnaaDoor

namespace Go.Proofs.YtkgapklhgkngnaaDoor

theorem crsP_pair : ∀ (l : List Sp) (st : List Int), st.Pairwise (· ≤ ·) → SrtS l → crsP st l = false → (∀ t ∈ st, ∀ x ∈ l, ¬ (x.a < t ∧ t < x.b)) ∧ l.Pairwise (fun y x => ¬ (x.a < y.b ∧ y.b < x.b))
  | [], _, _, _, _ => ⟨fun _ _ x hx => by simp at hx, List.Pairwise.nil⟩
  | s :: l, st, h1, h2, h => by
    rw [crsP_cons, Bool.or_eq_false_iff] at h
    have p2 := List.pairwise_cons.1 h2
    have hout : ∀ (L : List Int) (u : Int), u ∈ L → u ∈ L.dropWhile (fun t => decide (t ≤ s.a)) ∨ u ≤ s.a := fun L => by
      induction L with
      | nil => intro u hu; simp at hu
      | cons x L ih =>
        intro u hu
        rw [List.dropWhile_cons]
        by_cases hx : x ≤ s.a
        · rw [if_pos (by simpa using hx)]
          rcases List.mem_cons.1 hu with e | e
          · subst e; exact .inr hx
          · exact ih u e
        · rw [if_neg (by simpa using hx)]; exact .inl hu
    have hsub : (st.dropWhile (fun t => decide (t ≤ s.a))).Pairwise (· ≤ ·) := h1.sublist (List.dropWhile_sublist _)
    have hge : ∀ u ∈ st.dropWhile (fun t => decide (t ≤ s.a)), s.b ≤ u := by
      have ht := h.1
      generalize st.dropWhile (fun t => decide (t ≤ s.a)) = L at ht hsub
      cases L with
      | nil => intro u hu; simp at hu
      | cons y L =>
        have hy : s.b ≤ y := by
          unfold topLt at ht
          simpa using ht
        intro u hu
        rcases List.mem_cons.1 hu with e | e
        · subst e; exact hy
        · have := (List.pairwise_cons.1 hsub).1 u e; omega
    obtain ⟨q1, q2⟩ := crsP_pair l _ (List.pairwise_cons.2 ⟨hge, hsub⟩) p2.2 h.2
    refine ⟨fun t ht x hx => ?_, List.pairwise_cons.2 ⟨fun x hx => q1 s.b (List.mem_cons_self ..) x hx, q2⟩⟩
    rcases hout st t ht with e | e
    · rcases List.mem_cons.1 hx with e2 | e2
      · subst e2; have := hge t e; omega
      · exact q1 t (List.mem_cons_of_mem _ e) x e2
    · have hxa : s.a ≤ x.a := by
        rcases List.mem_cons.1 hx with e2 | e2
        · subst e2; exact Int.le_refl _
        · have := p2.1 x e2; unfold LtS at this; omega
      omega
theorem mayB_pair {t : ByteArray} {l : List Sp} (h : mayB t l = true) : SrtS l ∧ l.Pairwise (fun y x => ¬ (x.a < y.b ∧ y.b < x.b)) := by
  have hr := mayB_run h
  exact ⟨hr.srt, (crsP_pair l [] List.Pairwise.nil hr.srt hr.crs).2⟩
end Go.Proofs.YtkgapklhgkngnaaDoor
