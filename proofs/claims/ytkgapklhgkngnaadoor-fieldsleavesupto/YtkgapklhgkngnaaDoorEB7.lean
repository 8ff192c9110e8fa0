/-
  What Build tells of the spans, in whatever order they are put in.
  The fields of the bytes of what was built.
  What Leaves answers.
  The leaves of what was built, byte by byte.
  Texts that are UTF-8: put together; where their runes begin.
  What was built may be.
  The leaves lie one behind the other; spans begin and end between them.
-/
import Derived.Test.YtkgapklhgkngnaaDoorEB6
import Derived.Test.YtkgapklhgkngnaaDoorEB5
import Derived.Test.YtkgapklhgkngnaaDoorEB3
namespace Go.Proofs.YtkgapklhgkngnaaDoor

end Go.Proofs.YtkgapklhgkngnaaDoor

namespace Go.Proofs.YtkgapklhgkngnaaDoor

def xpd : List Pe → List Int
  | [] => []
  | p :: l => List.replicate p.t.size p.f ++ xpd l
theorem xpd_snoc (l : List Pe) (p : Pe) : xpd (l ++ [p]) = xpd l ++ List.replicate p.t.size p.f := by
  induction l with
  | nil => simp [xpd]
  | cons q l ih => rw [List.cons_append, xpd, ih, xpd, List.append_assoc]
end Go.Proofs.YtkgapklhgkngnaaDoor

namespace Go.Proofs.YtkgapklhgkngnaaDoor
open Go.RowKit

def lvs (t : ByteArray) : List Sp → List Sp → Nat → List Pe → List Pe
  | [], st, a, lv => goL t t.size st a lv
  | s :: l, st, a, lv => lvs t l (s :: goS s.a.toNat st) s.a.toNat (goL t s.a.toNat st a lv)
def leavesP (t : ByteArray) (l : List Sp) : List Pe := lvs t l [] 0 []

structure RunOk (t : ByteArray) (a : Nat) (st l : List Sp) : Prop where
  pl : ∀ s ∈ l, (a : Int) ≤ s.a ∧ s.a < s.b ∧ s.b ≤ t.size
  srt : SrtS l
  ends : EndsOk t a st
  crs : crsP (st.map Sp.b) l = false

theorem goS_map (p : Nat) : ∀ st : List Sp, (goS p st).map Sp.b = (st.map Sp.b).dropWhile fun u => decide (u ≤ (p : Int))
  | [] => rfl
  | s :: st => by
    unfold goS
    rw [List.dropWhile_cons, List.map_cons, List.dropWhile_cons]
    by_cases h : s.b ≤ (p : Int)
    · rw [if_pos (by simpa using h), if_pos (by simpa using h)]; exact goS_map p st
    · rw [if_neg (by simpa using h), if_neg (by simpa using h), List.map_cons]
theorem goS_mem {p : Nat} {s : Sp} : ∀ {st : List Sp}, s ∈ goS p st → s ∈ st
  | [], h => h
  | u :: st, h => by
    unfold goS at h
    rw [List.dropWhile_cons] at h
    split at h
    · exact List.mem_cons_of_mem _ (goS_mem h)
    · exact h
theorem goS_pair {R : Sp → Sp → Prop} {p : Nat} : ∀ {st : List Sp}, st.Pairwise R → (goS p st).Pairwise R
  | [], h => h
  | u :: st, h => by
    unfold goS
    rw [List.dropWhile_cons]
    split
    · exact goS_pair (List.pairwise_cons.1 h).2
    · exact h
theorem goS_beh {p : Nat} {st : List Sp} (h : st.Pairwise fun s u => s.b ≤ u.b) : ∀ s ∈ goS p st, (p : Int) < s.b := by
  induction st with
  | nil => intro s hs; simp [goS] at hs
  | cons u st ih =>
    intro s hs
    have hp := List.pairwise_cons.1 h
    unfold goS at hs
    rw [List.dropWhile_cons] at hs
    split at hs
    · exact ih hp.2 s hs
    next hu =>
      have hu2 : (p : Int) < u.b := by simpa using hu
      rcases List.mem_cons.1 hs with e | e
      · subst e; exact hu2
      · have := hp.1 s e; omega
theorem goL_len (t : ByteArray) (p : Nat) : ∀ (st : List Sp) (a : Nat) (lv : List Pe), (goL t p st a lv).length + (goS p st).length ≤ lv.length + st.length + 1
  | [], a, lv => by have := cutP_len t a p 0 lv; simp [goL, goS]; omega
  | s :: st, a, lv => by
    unfold goL goS
    rw [List.dropWhile_cons]
    by_cases h : s.b ≤ (p : Int)
    · rw [if_pos h, if_pos (by simpa using h)]
      have := goL_len t p st s.b.toNat (cutP t a s.b.toNat s.f lv)
      have := cutP_len t a s.b.toNat s.f lv
      unfold goS at *
      simp only [List.length_cons]
      omega
    · rw [if_neg h, if_neg (by simpa using h)]
      have := cutP_len t a p s.f lv
      omega
theorem RunOk.step {t : ByteArray} {a : Nat} {s : Sp} {st l : List Sp} (h : RunOk t a st (s :: l)) : (a : Int) ≤ s.a ∧ s.a < s.b ∧ s.b ≤ t.size ∧ RunOk t s.a.toNat (s :: goS s.a.toNat st) l := by
  obtain ⟨h1, h2, h3⟩ := h.pl s (List.mem_cons_self ..)
  have hs := List.pairwise_cons.1 h.srt
  have hc := h.crs
  rw [crsP_cons, Bool.or_eq_false_iff] at hc
  have ea : ((s.a.toNat : Nat) : Int) = s.a := by omega
  have em : (goS s.a.toNat st).map Sp.b = (st.map Sp.b).dropWhile fun u => decide (u ≤ s.a) := by rw [goS_map, ea]
  refine ⟨h1, h2, h3, ⟨fun u hu => ?_, hs.2, ⟨fun u hu => ?_, List.pairwise_cons.2 ⟨fun u hu => ?_, goS_pair h.ends.2⟩⟩, ?_⟩⟩
  · have q := h.pl u (List.mem_cons_of_mem _ hu)
    have q2 := hs.1 u hu
    unfold LtS at q2
    omega
  · rcases List.mem_cons.1 hu with e | e
    · subst e; omega
    · have q := goS_beh h.ends.2 u e
      have q2 := (h.ends.1 u (goS_mem e)).2
      omega
  · have ht := hc.1
    rw [← em] at ht
    have hp := goS_pair (p := s.a.toNat) h.ends.2
    cases hg : goS s.a.toNat st with
    | nil => rw [hg] at hu; cases hu
    | cons x r =>
      rw [hg] at hu ht hp
      have hx : ¬ x.b < s.b := by simpa [topLt] using ht
      rcases List.mem_cons.1 hu with e | e
      · subst e; omega
      · have := (List.pairwise_cons.1 hp).1 u e; omega
  · rw [List.map_cons, em]; exact hc.2
theorem mayB_run {t : ByteArray} {l : List Sp} (h : mayB t l = true) : RunOk t 0 [] l := by
  unfold mayB at h
  simp only [Bool.and_eq_true, Bool.not_eq_true'] at h
  obtain ⟨⟨⟨_, h2⟩, h3⟩, h4⟩ := h
  refine ⟨fun s hs => ?_, of_decide_eq_true h3, ⟨fun s hs => by simp at hs, List.Pairwise.nil⟩, h4⟩
  have q := List.any_eq_false.1 h2 s hs
  unfold misB at q
  simp only [Bool.or_eq_true, decide_eq_true_eq, Bool.not_eq_true', not_or, Bool.not_eq_false] at q
  obtain ⟨⟨⟨_, qa⟩, qb⟩, qc⟩ := q
  unfold plB at qa qb
  simp only [Bool.or_eq_true, Bool.and_eq_true, decide_eq_true_eq] at qa qb
  omega
end Go.Proofs.YtkgapklhgkngnaaDoor

namespace Go.Proofs.YtkgapklhgkngnaaDoor

def innF : List Sp → Nat → Int
  | [], _ => 0
  | s :: st, k => if (k : Int) < s.b then s.f else innF st k
def fldF : List Sp → List Sp → Nat → Int
  | [], st, k => innF st k
  | s :: l, st, k => if (k : Int) < s.a then innF st k else fldF l (s :: goS s.a.toNat st) k
theorem map_const {f : Int} : ∀ (a n : Nat) (F : Nat → Int), (∀ k, a ≤ k → k < a + n → F k = f) → (List.range' a n).map F = List.replicate n f
  | a, 0, F, _ => rfl
  | a, n + 1, F, h => by
    rw [List.range'_succ, List.map_cons, List.replicate_succ, map_const (a + 1) n F (fun k h1 h2 => h k (by omega) (by omega)), h a (Nat.le_refl _) (by omega)]
theorem map_alike : ∀ (a n : Nat) (F G : Nat → Int), (∀ k, a ≤ k → k < a + n → F k = G k) → (List.range' a n).map F = (List.range' a n).map G
  | a, 0, F, G, _ => rfl
  | a, n + 1, F, G, h => by
    rw [List.range'_succ, List.map_cons, List.map_cons, map_alike (a + 1) n F G (fun k h1 h2 => h k (by omega) (by omega)), h a (Nat.le_refl _) (by omega)]
theorem range_cut (a m p : Nat) (h1 : a ≤ m) (h2 : m ≤ p) : List.range' a (p - a) = List.range' a (m - a) ++ List.range' m (p - m) := by
  have e : p - a = (m - a) + (p - m) := by omega
  have e2 : m = a + 1 * (m - a) := by omega
  rw [e, ← List.range'_append]
  congr 2
  omega
theorem ext_size (t : ByteArray) (a p : Nat) (h1 : a ≤ p) (h2 : p ≤ t.size) : (t.extract a p).size = p - a := by rw [ByteArray.size_extract]; omega
theorem cutP_xpd (t : ByteArray) (a p : Nat) (f : Int) (lv : List Pe) (h1 : a ≤ p) (h2 : p ≤ t.size) : xpd (cutP t a p f lv) = xpd lv ++ List.replicate (p - a) f := by
  unfold cutP
  by_cases h : a = p
  · rw [if_pos h, h, Nat.sub_self, List.replicate_zero, List.append_nil]
  · rw [if_neg h, xpd_snoc, ext_size t a p h1 h2]
theorem EndsOk.tail {t : ByteArray} {a : Nat} {s : Sp} {st : List Sp} (h : EndsOk t a (s :: st)) : EndsOk t s.b.toNat st ∧ a ≤ s.b.toNat ∧ s.b.toNat ≤ t.size ∧ ((s.b.toNat : Nat) : Int) = s.b := by
  have h0 := h.1 s (List.mem_cons_self ..)
  have hp := List.pairwise_cons.1 h.2
  refine ⟨⟨fun u hu => ?_, hp.2⟩, by omega, by omega, by omega⟩
  have := hp.1 u hu
  have := h.1 u (List.mem_cons_of_mem _ hu)
  omega
theorem goL_xpd (t : ByteArray) (p : Nat) : ∀ (st : List Sp) (a : Nat) (lv : List Pe), EndsOk t a st → a ≤ p → p ≤ t.size → xpd (goL t p st a lv) = xpd lv ++ (List.range' a (p - a)).map (innF st)
  | [], a, lv, _, h1, h2 => by
    unfold goL
    rw [cutP_xpd t a p 0 lv h1 h2, map_const (f := 0) a (p - a) (innF []) (fun k _ _ => rfl)]
  | s :: st, a, lv, he, h1, h2 => by
    obtain ⟨q1, q2, q3, q4⟩ := he.tail
    unfold goL
    by_cases h : s.b ≤ (p : Int)
    · have hm : s.b.toNat ≤ p := by omega
      rw [if_pos h, goL_xpd t p st s.b.toNat _ q1 hm h2, cutP_xpd t a s.b.toNat s.f lv q2 q3, range_cut a s.b.toNat p q2 hm, List.map_append, List.append_assoc]
      congr 2
      · exact (map_const a (s.b.toNat - a) _ (fun k h3 h4 => by unfold innF; rw [if_pos (by omega)])).symm
      · exact map_alike _ _ _ _ (fun k h3 h4 => by conv => rhs; unfold innF
                                                   rw [if_neg (by omega)])
    · rw [if_neg h, cutP_xpd t a p s.f lv h1 h2]
      congr 1
      exact (map_const a (p - a) _ (fun k h3 h4 => by unfold innF; rw [if_pos (by omega)])).symm
theorem lvs_xpd (t : ByteArray) : ∀ (l st : List Sp) (a : Nat) (lv : List Pe), RunOk t a st l → a ≤ t.size → xpd (lvs t l st a lv) = xpd lv ++ (List.range' a (t.size - a)).map (fldF l st)
  | [], st, a, lv, h, ha => by
    unfold lvs
    rw [goL_xpd t t.size st a lv h.ends ha (Nat.le_refl _)]
    rfl
  | s :: l, st, a, lv, h, ha => by
    obtain ⟨h1, h2, h3, h4⟩ := h.step
    have q1 : a ≤ s.a.toNat := by omega
    have q2 : s.a.toNat ≤ t.size := by omega
    unfold lvs
    rw [lvs_xpd t l _ _ _ h4 q2, goL_xpd t s.a.toNat st a lv h.ends q1 q2, range_cut a s.a.toNat t.size q1 q2, List.map_append, List.append_assoc]
    congr 2
    · exact map_alike _ _ _ _ (fun k h3 h4 => by conv => rhs; unfold fldF
                                                 rw [if_pos (by omega)])
    · exact map_alike _ _ _ _ (fun k h3 h4 => by conv => rhs; unfold fldF
                                                 rw [if_neg (by omega)])
theorem goS_out {p : Nat} {s : Sp} : ∀ {st : List Sp}, s ∈ st → s ∈ goS p st ∨ s.b ≤ (p : Int)
  | [], h => by simp at h
  | u :: st, h => by
    unfold goS
    rw [List.dropWhile_cons]
    by_cases hu : u.b ≤ (p : Int)
    · rw [if_pos (by simpa using hu)]
      rcases List.mem_cons.1 h with e | e
      · subst e; exact .inr hu
      · have := goS_out (p := p) e
        unfold goS at this
        exact this
    · rw [if_neg (by simpa using hu)]
      exact .inl h
end Go.Proofs.YtkgapklhgkngnaaDoor

namespace Go.Proofs.YtkgapklhgkngnaaDoor
open Go.Lib

theorem acc_lo : ∀ b : Fin 256, 2 ≤ firstT b.val % 8 → firstT b.val % 8 ≤ 4 → 128 ≤ accLo (firstT b.val / 16) ∧ accHi (firstT b.val / 16) ≤ 191 := by decide +kernel
theorem first_cont : ∀ b : Fin 256, 128 ≤ b.val → b.val < 192 → firstT b.val % 8 = 1 := by decide +kernel
theorem runeN_cont (n b0 b1 b2 b3 r : Nat) (h0 : b0 < 256) (h : runeN n b0 b1 b2 b3 = r) : (1 < r → 128 ≤ b1 ∧ b1 ≤ 191) ∧ (2 < r → 128 ≤ b2 ∧ b2 ≤ 191) ∧ (3 < r → 128 ≤ b3 ∧ b3 ≤ 191) := by
  have ha := acc_lo ⟨b0, h0⟩
  simp only [] at ha
  unfold runeN at h
  generalize firstT b0 % 8 = sz at h ha
  generalize accLo (firstT b0 / 16) = lo at h ha
  generalize accHi (firstT b0 / 16) = hi at h ha
  unfold checkN at h
  by_cases c0 : n = 0
  · rw [if_pos c0] at h; omega
  rw [if_neg c0] at h
  by_cases c1 : b0 < 128
  · rw [if_pos c1] at h; omega
  rw [if_neg c1] at h
  by_cases c2 : sz = 2
  · have q := ha (by omega) (by omega)
    rw [if_pos c2] at h
    by_cases c : n < 2 ∨ b1 < lo ∨ hi < b1
    · rw [if_pos c, Option.getD_none] at h; omega
    · rw [if_neg c, Option.getD_some] at h; omega
  rw [if_neg c2] at h
  by_cases c3 : sz = 3
  · have q := ha (by omega) (by omega)
    rw [if_pos c3] at h
    by_cases c : n < 3 ∨ b1 < lo ∨ hi < b1 ∨ b2 < 128 ∨ 191 < b2
    · rw [if_pos c, Option.getD_none] at h; omega
    · rw [if_neg c, Option.getD_some] at h; omega
  rw [if_neg c3] at h
  by_cases c4 : sz = 4
  · have q := ha (by omega) (by omega)
    rw [if_pos c4] at h
    by_cases c : n < 4 ∨ b1 < lo ∨ hi < b1 ∨ b2 < 128 ∨ 191 < b2 ∨ b3 < 128 ∨ 191 < b3
    · rw [if_pos c, Option.getD_none] at h; omega
    · rw [if_neg c, Option.getD_some] at h; omega
  rw [if_neg c4, Option.getD_none] at h
  omega
theorem runeN_start (n b0 b1 b2 b3 : Nat) (h0 : b0 < 256) (h : runeN n b0 b1 b2 b3 ≠ 0) : Lib.runeStart (b0 : Int) = true := by
  by_cases c : 128 ≤ b0 ∧ b0 < 192
  · exfalso
    apply h
    unfold runeN
    have q := first_cont ⟨b0, h0⟩ c.1 c.2
    simp only [] at q
    rw [q]
    by_cases c0 : n = 0
    · rw [if_pos c0]
    · rw [if_neg c0, if_neg (by omega)]
      unfold checkN
      rw [if_neg (by decide), if_neg (by decide), if_neg (by decide)]
      rfl
  · unfold Lib.runeStart
    rw [bne_iff_ne]
    omega
theorem rs_cont (b : Nat) (h1 : 128 ≤ b) (h2 : b ≤ 191) : Lib.runeStart (b : Int) = false := by
  unfold Lib.runeStart
  rw [bne_eq_false_iff_eq]
  omega
theorem valid_step (l : List UInt8) (h : l ≠ []) : Lib.validD l = (decide (runeL l ≠ 0) && Lib.validD (l.drop (runeL l))) := by
  rw [valid_runes, runesL_step l h, valid_runes]
  by_cases hr : runeL l = 0
  · rw [if_pos hr, decide_eq_false (by omega)]; rfl
  · rw [if_neg hr, decide_eq_true hr, Bool.true_and, Option.isSome_map]
theorem vStart {l : List UInt8} (h : Lib.validD l = true) (hl : l ≠ []) : Lib.runeStart ((byB l 0 : Nat) : Int) = true := by
  have hs := valid_step l hl
  rw [h] at hs
  exact runeN_start _ _ _ _ _ (byB_lt _ _) (of_decide_eq_true (Bool.and_eq_true_iff.1 hs.symm).1)
theorem vHead : ∀ (n : Nat) (l : List UInt8) (k : Nat), l.length ≤ n → Lib.validD l = true → k < l.length → Lib.validD (l.take k) = Lib.runeStart ((byB l k : Nat) : Int)
  | 0, l, k, h, _, hk => by omega
  | n + 1, l, k, h, hv, hk => by
    have hne : l ≠ [] := fun e => by subst e; simp at hk
    have hs := valid_step l hne
    rw [hv] at hs
    have hs2 := Bool.and_eq_true_iff.1 hs.symm
    have h0 : runeL l ≠ 0 := of_decide_eq_true hs2.1
    have hl := runeL_le l
    by_cases c0 : k = 0
    · subst c0; rw [List.take_zero, vStart hv hne]; rfl
    have hne2 : l.take k ≠ [] := fun e => by have := congrArg List.length e; rw [List.length_take, List.length_nil] at this; omega
    by_cases c1 : k < runeL l
    · rw [valid_step _ hne2, runeL_short l k (by omega) c1, decide_eq_false (p := (0 : Nat) ≠ 0) (by omega), Bool.false_and]
      obtain ⟨r1, r2, r3⟩ := runeN_cont l.length (byB l 0) (byB l 1) (byB l 2) (byB l 3) (runeL l) (byB_lt _ _) rfl
      have hk3 : k = 1 ∨ k = 2 ∨ k = 3 := by omega
      rcases hk3 with e | e | e
      · subst e; obtain ⟨q1, q2⟩ := r1 (by omega); exact (rs_cont _ q1 q2).symm
      · subst e; obtain ⟨q1, q2⟩ := r2 (by omega); exact (rs_cont _ q1 q2).symm
      · subst e; obtain ⟨q1, q2⟩ := r3 (by omega); exact (rs_cont _ q1 q2).symm
    · rw [valid_step _ hne2, runeL_take l k h0 (by omega), decide_eq_true h0, Bool.true_and, List.drop_take]
      rw [vHead n (l.drop (runeL l)) (k - runeL l) (by rw [List.length_drop]; omega) hs2.2 (by rw [List.length_drop]; omega)]
      unfold byB
      rw [List.getD_eq_getElem?_getD, List.getD_eq_getElem?_getD, List.getElem?_drop, show runeL l + (k - runeL l) = k by omega]
end Go.Proofs.YtkgapklhgkngnaaDoor

namespace Go.Proofs.YtkgapklhgkngnaaDoor

theorem crsP_no : ∀ (l : List Sp) (st : List Int), st.Pairwise (· ≤ ·) → SrtS l → (∀ t ∈ st, ∀ x ∈ l, ¬ (x.a < t ∧ t < x.b)) → (∀ s ∈ l, s.a < s.b) → l.Pairwise (fun y x => ¬ (x.a < y.b ∧ y.b < x.b)) → crsP st l = false
  | [], _, _, _, _, _, _ => rfl
  | s :: l, st, h1, h2, h3, h4, h5 => by
    have p2 := List.pairwise_cons.1 h2
    have p5 := List.pairwise_cons.1 h5
    have hmem : ∀ (L : List Int) (u : Int), u ∈ L.dropWhile (fun t => decide (t ≤ s.a)) → u ∈ L := fun L u hu => (List.dropWhile_sublist _).subset hu
    have hsub : (st.dropWhile (fun t => decide (t ≤ s.a))).Pairwise (· ≤ ·) := h1.sublist (List.dropWhile_sublist _)
    have hbeh : ∀ (L : List Int), L.Pairwise (· ≤ ·) → ∀ u ∈ L.dropWhile (fun t => decide (t ≤ s.a)), s.a < u := fun L => by
      induction L with
      | nil => intro _ u hu; simp at hu
      | cons x L ih =>
        intro hL u hu
        have hx := List.pairwise_cons.1 hL
        rw [List.dropWhile_cons] at hu
        split at hu
        · exact ih hx.2 u hu
        next hn =>
          have hn2 : s.a < x := by simpa using hn
          rcases List.mem_cons.1 hu with e | e
          · subst e; exact hn2
          · have := hx.1 u e; omega
    have hge : ∀ u ∈ st.dropWhile (fun t => decide (t ≤ s.a)), s.b ≤ u := fun u hu => by
      have q1 := hbeh st h1 u hu
      have q2 := h3 u (hmem st u hu) s (List.mem_cons_self ..)
      omega
    rw [crsP_cons, Bool.or_eq_false_iff]
    refine ⟨?_, crsP_no l _ (List.pairwise_cons.2 ⟨hge, hsub⟩) p2.2 (fun t ht x hx => ?_) (fun x hx => h4 x (List.mem_cons_of_mem _ hx)) p5.2⟩
    · generalize st.dropWhile (fun t => decide (t ≤ s.a)) = L at hge
      cases L with
      | nil => rfl
      | cons u L =>
        have := hge u (List.mem_cons_self ..)
        unfold topLt
        simpa using this
    · rcases List.mem_cons.1 ht with e | e
      · subst e; exact p5.1 x hx
      · exact h3 t (hmem st t e) x (List.mem_cons_of_mem _ hx)
end Go.Proofs.YtkgapklhgkngnaaDoor

namespace Go.Proofs.YtkgapklhgkngnaaDoor

def TilD (t : ByteArray) : Nat → List Pe → Nat → Prop
  | a, [], b => a = b
  | a, p :: l, b => 0 < p.t.size ∧ a + p.t.size ≤ t.size ∧ p.t = t.extract a (a + p.t.size) ∧ (0 ≤ p.f ∧ p.f ≤ 17) ∧ TilD t (a + p.t.size) l b
theorem TilD.snoc {t : ByteArray} {b p : Nat} {f : Int} (hp : b < p) (hs : p ≤ t.size) (hf : 0 ≤ f ∧ f ≤ 17) : ∀ {l : List Pe} {a : Nat}, TilD t a l b → TilD t a (l ++ [⟨t.extract b p, f⟩]) p
  | [], a, h => by
    have h' : a = b := h
    subst h'
    have e : (t.extract a p).size = p - a := ext_size t a p (by omega) hs
    refine ⟨by simp only []; omega, by simp only []; omega, ?_, hf, ?_⟩
    · simp only []; rw [e]; congr 1; omega
    · show a + (t.extract a p).size = p; omega
  | q :: l, a, h => ⟨h.1, h.2.1, h.2.2.1, h.2.2.2.1, TilD.snoc hp hs hf h.2.2.2.2⟩
def edg : Nat → List Pe → List Nat
  | a, [] => [a]
  | a, p :: l => a :: edg (a + p.t.size) l
theorem edg_fst (a : Nat) : ∀ l : List Pe, a ∈ edg a l
  | [] => by simp [edg]
  | p :: l => List.mem_cons_self ..
theorem edg_snoc (q : Pe) {x : Nat} : ∀ (l : List Pe) (a : Nat), x ∈ edg a l → x ∈ edg a (l ++ [q])
  | [], a, h => by
    have : x = a := by simpa [edg] using h
    subst this
    exact List.mem_cons_self ..
  | p :: l, a, h => by
    rw [List.cons_append]
    rcases List.mem_cons.1 h with e | e
    · subst e; exact List.mem_cons_self ..
    · exact List.mem_cons_of_mem _ (edg_snoc q l _ e)
theorem edg_last {t : ByteArray} : ∀ (l : List Pe) (a b : Nat), TilD t a l b → b ∈ edg a l
  | [], a, b, h => by have h' : a = b := h; subst h'; exact List.mem_cons_self ..
  | p :: l, a, b, h => List.mem_cons_of_mem _ (edg_last l _ b h.2.2.2.2)
structure CtI (t : ByteArray) (E : Nat → Prop) (a : Nat) (lv : List Pe) : Prop where
  til : TilD t 0 lv a
  edg : ∀ x, E x → x ∈ edg 0 lv
theorem CtI.cut {t : ByteArray} {E : Nat → Prop} {a p : Nat} {lv : List Pe} {f : Int} (h : CtI t E a lv) (h1 : a ≤ p) (h2 : p ≤ t.size) (hf : 0 ≤ f ∧ f ≤ 17) : CtI t (fun x => E x ∨ x = p) p (cutP t a p f lv) := by
  unfold cutP
  by_cases e : a = p
  · rw [if_pos e]
    subst e
    exact ⟨h.til, fun x hx => by
      rcases hx with q | q
      · exact h.edg x q
      · subst q; exact edg_last lv 0 _ h.til⟩
  · rw [if_neg e]
    have ht := TilD.snoc (by omega : a < p) h2 hf h.til
    exact ⟨ht, fun x hx => by
      rcases hx with q | q
      · exact edg_snoc _ lv 0 (h.edg x q)
      · subst q; exact edg_last _ 0 _ ht⟩
theorem CtI.mono {t : ByteArray} {E F : Nat → Prop} {a : Nat} {lv : List Pe} (h : CtI t E a lv) (hf : ∀ x, F x → E x) : CtI t F a lv := ⟨h.til, fun x hx => h.edg x (hf x hx)⟩
def FOk (s : Sp) : Prop := 0 ≤ s.f ∧ s.f ≤ 17
theorem goL_ct (t : ByteArray) (p : Nat) : ∀ (st : List Sp) (a : Nat) (lv : List Pe) (E : Nat → Prop), EndsOk t a st → a ≤ p → p ≤ t.size → (∀ s ∈ st, FOk s) → CtI t E a lv → CtI t (fun x => E x ∨ x = p ∨ ∃ s ∈ st, s.b ≤ (p : Int) ∧ x = s.b.toNat) p (goL t p st a lv)
  | [], a, lv, E, _, h1, h2, _, h => by
    unfold goL
    exact (h.cut (f := 0) h1 h2 (by decide)).mono fun x hx => by
      rcases hx with q | q | ⟨s, q, _⟩
      · exact .inl q
      · exact .inr q
      · simp at q
  | s :: st, a, lv, E, he, h1, h2, hf, h => by
    obtain ⟨q1, q2, q3, q4⟩ := he.tail
    have hp := List.pairwise_cons.1 he.2
    unfold goL
    by_cases hb : s.b ≤ (p : Int)
    · rw [if_pos hb]
      refine (goL_ct t p st _ _ _ q1 (by omega) h2 (fun u hu => hf u (List.mem_cons_of_mem _ hu)) (h.cut q2 q3 (hf s (List.mem_cons_self ..)))).mono fun x hx => ?_
      rcases hx with q | q | ⟨u, q, q5⟩
      · exact .inl (.inl q)
      · exact .inr (.inl q)
      · rcases List.mem_cons.1 q with e | e
        · subst e; exact .inl (.inr q5.2)
        · exact .inr (.inr ⟨u, e, q5⟩)
    · rw [if_neg hb]
      refine (h.cut h1 h2 (hf s (List.mem_cons_self ..))).mono fun x hx => ?_
      rcases hx with q | q | ⟨u, q, q5, q6⟩
      · exact .inl q
      · exact .inr q
      · exfalso
        rcases List.mem_cons.1 q with e | e
        · subst e; omega
        · have := hp.1 u e; omega
theorem lvs_ct (t : ByteArray) : ∀ (l st : List Sp) (a : Nat) (lv : List Pe) (E : Nat → Prop), RunOk t a st l → a ≤ t.size → (∀ s ∈ st, FOk s) → (∀ s ∈ l, FOk s) → CtI t E a lv → CtI t (fun x => E x ∨ (∃ s ∈ st, x = s.b.toNat) ∨ ∃ s ∈ l, x = s.a.toNat ∨ x = s.b.toNat) t.size (lvs t l st a lv)
  | [], st, a, lv, E, h, ha, hf, _, hc => by
    unfold lvs
    refine (goL_ct t t.size st a lv E h.ends ha (Nat.le_refl _) hf hc).mono fun x hx => ?_
    rcases hx with q | ⟨s, q, q2⟩ | ⟨s, q, _⟩
    · exact .inl q
    · exact .inr (.inr ⟨s, q, (h.ends.1 s q).2, q2⟩)
    · simp at q
  | s :: l, st, a, lv, E, h, ha, hf, hg, hc => by
    obtain ⟨h1, h2, h3, h4⟩ := h.step
    have q1 : a ≤ s.a.toNat := by omega
    have q2 : s.a.toNat ≤ t.size := by omega
    unfold lvs
    refine (lvs_ct t l _ _ _ _ h4 q2 (fun u hu => ?_) (fun u hu => hg u (List.mem_cons_of_mem _ hu)) (goL_ct t s.a.toNat st a lv E h.ends q1 q2 hf hc)).mono fun x hx => ?_
    · rcases List.mem_cons.1 hu with e | e
      · subst e; exact hg u (List.mem_cons_self ..)
      · exact hf u (goS_mem e)
    · rcases hx with q | ⟨u, q, q5⟩ | ⟨u, q, q5⟩
      · exact .inl (.inl q)
      · rcases goS_out (p := s.a.toNat) q with e | e
        · exact .inr (.inl ⟨u, List.mem_cons_of_mem _ e, q5⟩)
        · exact .inl (.inr (.inr ⟨u, q, e, q5⟩))
      · rcases List.mem_cons.1 q with e | e
        · subst e
          rcases q5 with e2 | e2
          · exact .inl (.inr (.inl e2))
          · exact .inr (.inl ⟨u, List.mem_cons_self .., e2⟩)
        · exact .inr (.inr ⟨u, e, q5⟩)
theorem mayB_sp {t : ByteArray} {l : List Sp} (h : mayB t l = true) : ∀ s ∈ l, FOk s ∧ 0 ≤ s.a ∧ s.a < s.b ∧ s.b ≤ t.size := by
  have hr := mayB_run h
  unfold mayB at h
  simp only [Bool.and_eq_true, Bool.not_eq_true'] at h
  obtain ⟨⟨⟨_, h2⟩, _⟩, _⟩ := h
  intro s hs
  have q := List.any_eq_false.1 h2 s hs
  have q0 := hr.pl s hs
  refine ⟨?_, by omega, by omega, by omega⟩
  unfold misB at q
  simp only [Bool.or_eq_true, decide_eq_true_eq, Bool.not_eq_true', not_or, Bool.not_eq_false] at q
  obtain ⟨⟨⟨⟨_, qk⟩, _⟩, _⟩, _⟩ := q
  unfold knB at qk
  simp only [Bool.and_eq_true, decide_eq_true_eq] at qk
  unfold FOk
  omega
theorem leaves_ct {t : ByteArray} {l : List Sp} (h : mayB t l = true) : TilD t 0 (leavesP t l) t.size ∧ ∀ s ∈ l, s.a.toNat ∈ edg 0 (leavesP t l) ∧ s.b.toNat ∈ edg 0 (leavesP t l) := by
  have q := lvs_ct t l [] 0 [] (fun _ => False) (mayB_run h) (Nat.zero_le _) (fun s hs => by simp at hs) (fun s hs => (mayB_sp h s hs).1) ⟨rfl, fun _ hx => hx.elim⟩
  exact ⟨q.til, fun s hs => ⟨q.edg _ (.inr (.inr ⟨s, hs, .inl rfl⟩)), q.edg _ (.inr (.inr ⟨s, hs, .inr rfl⟩))⟩⟩
theorem crsP_pair : ∀ (l : List Sp) (st : List Int), st.Pairwise (· ≤ ·) → SrtS l → crsP st l = false → (∀ t ∈ st, ∀ x ∈ l, ¬ (x.a < t ∧ t < x.b)) ∧ l.Pairwise (fun y x => ¬ (x.a < y.b ∧ y.b < x.b))
  | [], _, _, _, _ => ⟨fun _ _ x hx => by simp at hx, List.Pairwise.nil⟩
  | s :: l, st, h1, h2, h => by
    rw [crsP_cons, Bool.or_eq_false_iff] at h
    have p2 := List.pairwise_cons.1 h2
    have hout : ∀ (L : List Int) (u : Int), u ∈ L → u ∈ L.dropWhile (fun t => decide (t ≤ s.a)) ∨ u ≤ s.a := fun L => by
      induction L with
      | nil => intro u hu; simp at hu
      | cons x L ih =>
        intro u hu
        rw [List.dropWhile_cons]
        by_cases hx : x ≤ s.a
        · rw [if_pos (by simpa using hx)]
          rcases List.mem_cons.1 hu with e | e
          · subst e; exact .inr hx
          · exact ih u e
        · rw [if_neg (by simpa using hx)]; exact .inl hu
    have hsub : (st.dropWhile (fun t => decide (t ≤ s.a))).Pairwise (· ≤ ·) := h1.sublist (List.dropWhile_sublist _)
    have hge : ∀ u ∈ st.dropWhile (fun t => decide (t ≤ s.a)), s.b ≤ u := by
      have ht := h.1
      generalize st.dropWhile (fun t => decide (t ≤ s.a)) = L at ht hsub
      cases L with
      | nil => intro u hu; simp at hu
      | cons y L =>
        have hy : s.b ≤ y := by
          unfold topLt at ht
          simpa using ht
        intro u hu
        rcases List.mem_cons.1 hu with e | e
        · subst e; exact hy
        · have := (List.pairwise_cons.1 hsub).1 u e; omega
    obtain ⟨q1, q2⟩ := crsP_pair l _ (List.pairwise_cons.2 ⟨hge, hsub⟩) p2.2 h.2
    refine ⟨fun t ht x hx => ?_, List.pairwise_cons.2 ⟨fun x hx => q1 s.b (List.mem_cons_self ..) x hx, q2⟩⟩
    rcases hout st t ht with e | e
    · rcases List.mem_cons.1 hx with e2 | e2
      · subst e2; have := hge t e; omega
      · exact q1 t (List.mem_cons_of_mem _ e) x e2
    · have hxa : s.a ≤ x.a := by
        rcases List.mem_cons.1 hx with e2 | e2
        · subst e2; exact Int.le_refl _
        · have := p2.1 x e2; unfold LtS at this; omega
      omega
theorem mayB_pair {t : ByteArray} {l : List Sp} (h : mayB t l = true) : SrtS l ∧ l.Pairwise (fun y x => ¬ (x.a < y.b ∧ y.b < x.b)) := by
  have hr := mayB_run h
  exact ⟨hr.srt, (crsP_pair l [] List.Pairwise.nil hr.srt hr.crs).2⟩
end Go.Proofs.YtkgapklhgkngnaaDoor
