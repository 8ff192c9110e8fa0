/-
  What the laws' of answers: the texts of one field's pieces, one behind the other; how many they are.
  Plain symbols: what the pieces of one field are, one behind the other; which field stands where.
  DigitsWhole answers true, whatever it is handed: the law's walk.
-/
import Derived.Test.YtionbkmbhhlmjaaGreatDoorSB23
import Derived.Test.YtionbkmbhhlmjaaGreatDoorSB16
import Derived.Test.YtionbkmbhhlmjaaGreatDoorSB24
namespace Go.Proofs.YtionbkmbhhlmjaaGreatDoor
open Go.RowKit

def catF (f : Int) : List Pc → List UInt8
  | [] => []
  | p :: l => if p.field = f then bys p.text ++ catF f l else catF f l
def cntF (f : Int) : List Pc → Nat
  | [] => 0
  | p :: l => if p.field = f then cntF f l + 1 else cntF f l
theorem catF_app (f : Int) : ∀ a b : List Pc, catF f (a ++ b) = catF f a ++ catF f b
  | [], b => rfl
  | p :: a, b => by
    rw [List.cons_append, catF, catF, catF_app f a b]
    split
    · rw [List.append_assoc]
    · rfl
theorem cntF_app (f : Int) : ∀ a b : List Pc, cntF f (a ++ b) = cntF f a + cntF f b
  | [], b => by simp [cntF]
  | p :: a, b => by
    rw [List.cons_append, cntF, cntF, cntF_app f a b]
    split <;> omega
set_option maxRecDepth 100000 in
set_option maxHeartbeats 4000000 in
theorem ofL_any {w : World} {B : Nat} {v : Value} (f : Int) (ps : List Pc) (ho : w.ownsRow B 34 2 v ps.length (cellsP ps)) (hl : ps.length ≤ 10000) (hc : (catF f ps).length ≤ 100000000000) :
    Calls Tryz.prog 16 #[v, .int .i64 f] w fun e w' => e = .returned (.tuple #[.string (mkP (catF f ps)), .int .i64 (cntF f ps : Int)]) ∧ Below w.heap.size w w' := by
  obtain ⟨i0, hi, hz0, hz1, hz2⟩ := info_parts Tryz.infoBz
  obtain ⟨uo, uc, rfl⟩ := ownD_slice ho
  obtain ⟨k, hk⟩ : ∃ k, k = ps.length := ⟨_, rfl⟩
  obtain ⟨TT, hTT⟩ : ∃ TT, TT = catF f ps := ⟨_, rfl⟩
  obtain ⟨CC, hCC⟩ : ∃ CC, CC = cntF f ps := ⟨_, rfl⟩
  rw [← hk] at ho hl
  rw [← hTT] at hc
  rw [← hk, ← hTT, ← hCC]
  have OP := hide ho
  have HK := hide hk
  have T0 : Hid (catF f (ps.drop 0) = TT ∧ cntF f (ps.drop 0) = CC) := hide (by rw [List.drop_zero, hTT, hCC]; exact ⟨rfl, rfl⟩)
  obtain ⟨W2, hW2⟩ : ∃ W2, W2 = w.alloc (.cells #[] 5) := ⟨_, rfl⟩
  have B2 : Hid (Below w.heap.size w W2) := hide (by rw [hW2]; exact (Below.refl _ _).alloc (Nat.le_refl _) _)
  have O2 : Hid (Ob w.heap.size W2 (.slice (some ⟨w.heap.size, 0, none⟩) 0 0) (([] : List UInt8).map UInt8.toNat)) := hide (by
    rw [hW2]
    exact ⟨w.heap.size, 0, #[], (0, 0), rfl, Nat.le_refl _, heap_alloc_new _ _, .inl rfl, Nat.le_refl _, rfl, rfl⟩)
  have HW2 := hide hW2.symm
  clear hW2 ho hk hTT hCC
  go_enter Tryz.func16, Tryz.ntmps16
  go_wp2_with (simp only [HW2.out])
  go_loopw [6, 7, 8] (fun x m q wr => ∃ (i c : Nat) (L : List UInt8), i ≤ k ∧ c ≤ i ∧ m = .int .i64 (c : Int) ∧ q = .int .i64 (i : Int) ∧ Hid (L ++ catF f (ps.drop i) = TT ∧ c + cntF f (ps.drop i) = CC) ∧ Hid (Ob w.heap.size wr x (L.map UInt8.toNat)) ∧ Hid (Below w.heap.size w wr)) (fun _ _ q _ => k - (intOf q).toNat)
  case atStart => exact ⟨0, 0, [], Nat.zero_le _, Nat.le_refl _, rfl, rfl, hide ⟨by rw [List.nil_append]; exact T0.out.1, by rw [Nat.zero_add]; exact T0.out.2⟩, O2, B2⟩
  case round =>
    obtain ⟨i, c, L, hi', hci, rfl, rfl, HL, OB, BB⟩ := hrel
    clear T0 O2 B2 HW2
    have O6 := hide (ownD_below OP.out BB.out)
    by_cases hik : i < k
    · have hik' : (i : Int) < (k : Int) := by omega
      obtain ⟨g, cap, hv, hg1, hg2, hgc⟩ := ownD_some O6.out (by omega)
      simp only [Value.slice.injEq] at hv
      obtain ⟨rfl, _, rfl⟩ := hv
      have hip : i < ps.length := by rw [← HK.out]; exact hik
      obtain ⟨q0, q1⟩ := cellsP_at ps i hip
      have cA := (O6.out.cellAt (i * 2) (by omega)).trans q0
      have cB := (O6.out.cellAt (i * 2 + 1) (by omega)).trans q1
      have ST : Hid (catF f (ps.drop i) = (if (pcN ps i).field = f then bys (pcN ps i).text ++ catF f (ps.drop (i + 1)) else catF f (ps.drop (i + 1))) ∧ cntF f (ps.drop i) = if (pcN ps i).field = f then cntF f (ps.drop (i + 1)) + 1 else cntF f (ps.drop (i + 1))) := hide (by rw [pcN_drop hip]; exact ⟨rfl, rfl⟩)
      obtain ⟨t0, ht0⟩ : ∃ t0, t0 = (pcN ps i).text := ⟨_, rfl⟩
      obtain ⟨f0, hf0⟩ : ∃ f0, f0 = (pcN ps i).field := ⟨_, rfl⟩
      rw [← ht0] at cA ST
      rw [← hf0] at cB ST
      clear ht0 hf0 q0 q1 hip OP
      by_cases hf2 : f0 = f
      · subst hf2
        rw [if_pos rfl, if_pos rfl] at ST
        have HL2 : Hid ((L ++ bys t0) ++ catF f0 (ps.drop (i + 1)) = TT ∧ (c + 1) + cntF f0 (ps.drop (i + 1)) = CC) := hide ⟨by rw [← HL.out.1, ST.out.1, List.append_assoc], by rw [← HL.out.2, ST.out.2]; omega⟩
        have LN : Hid (L.length + t0.size ≤ 100000000000) := hide (by
          have q := HL2.out.1
          have q2 := congrArg List.length q
          rw [List.length_append, List.length_append, bys_len] at q2
          omega)
        have BASE : Hid (w.heap.size ≤ wr.heap.size) := hide BB.out.size
        clear HL ST
        go_wp2_with (at_builtin; refine appendS_ob _ rfl _ _ 60 9 rfl i0 Tryz.underlying60 Tryz.underlying9 hi hz0 hz1 hz2 _ _ rfl OB.out t0 rfl (by rw [List.length_map]; exact LN.out) BASE.out ?_; intro v4 w4 hob hgr)
        have BB4 := hide (BB.out.grown hgr BB.out.size (fun j hj => (Ob.lt OB.out j hj).1))
        have OB4 : Hid (Ob w.heap.size w4 v4 ((L ++ bys t0).map UInt8.toNat)) := hide (by rw [List.map_append]; exact hob)
        exact ⟨⟨i + 1, c + 1, _, by omega, by omega, by go_num, by go_num, HL2, OB4, BB4⟩, by simp [intOf]; omega⟩
      · rw [if_neg hf2, if_neg hf2] at ST
        have hf2' : (f0 == f) = false := beq_eq_false_iff_ne.2 hf2
        have HL2 : Hid (L ++ catF f (ps.drop (i + 1)) = TT ∧ c + cntF f (ps.drop (i + 1)) = CC) := hide ⟨by rw [← HL.out.1, ST.out.1], by rw [← HL.out.2, ST.out.2]⟩
        clear HL ST
        go_wp2
        exact ⟨⟨i + 1, c, L, by omega, by omega, rfl, by go_num, HL2, OB, BB⟩, by simp [intOf]; omega⟩
    · obtain rfl : i = k := by omega
      have hik' : ¬ (i : Int) < (i : Int) := by omega
      have EL : L = TT ∧ c = CC := by
        obtain ⟨q1, q2⟩ := HL.out
        rw [HK.out, List.drop_length] at q1 q2
        simp only [catF, cntF, List.append_nil, Nat.add_zero] at q1 q2
        exact ⟨q1, q2⟩
      obtain ⟨rfl, rfl⟩ := EL
      have CV := convB_ob OB.out
      clear HL O6 OP hi' hik
      go_wp2
      go_ret2
      exact ⟨rfl, BB.out⟩

end Go.Proofs.YtionbkmbhhlmjaaGreatDoor

namespace Go.Proofs.YtionbkmbhhlmjaaGreatDoor

theorem one_pos {t : ByteArray} (f : Int) (h : 0 < t.size) : oneP t f = [⟨t, f⟩] := by unfold oneP; rw [if_neg (by omega)]
theorem intT_cons {ds : List UInt8} {a : Nat} (t : List Nat) (hd : DigB ds) (h1 : 0 < a) (h2 : a ≤ ds.length) : intT lat (a :: t) ds = ⟨lat.grp, 3⟩ :: ⟨mkP (ds.take a), 2⟩ :: intT lat t (ds.drop a) := by
  rw [intT, lat_wr (digB_takeD hd a), one_pos 3 (by decide), one_pos 2 (by rw [mkP_size, List.length_take]; omega)]
  rfl
theorem intP_cons {ds : List UInt8} {a : Nat} (t : List Nat) (hd : DigB ds) (h1 : 0 < a) (h2 : a ≤ ds.length) : intP lat (a :: t) ds = ⟨mkP (ds.take a), 2⟩ :: intT lat t (ds.drop a) := by
  rw [intP, lat_wr (digB_takeD hd a), one_pos 2 (by rw [mkP_size, List.length_take]; omega)]
  rfl

structure Tld (l : List Pc) (ds fs : List UInt8) (n k p m : Nat) : Prop where
  c2 : catF 2 l = ds
  c5 : catF 5 l = fs
  c3 : (catF 3 l).length = k
  c4 : (catF 4 l).length ≤ 1
  n2 : cntF 2 l = n
  n3 : cntF 3 l = k
  n4 : cntF 4 l = p
  n5 : cntF 5 l = m
  ln : l.length = n + k + p + m

theorem tld_T : ∀ (L : List Nat) (ds : List UInt8), DigB ds → (∀ z ∈ L, 0 < z) → L.sum = ds.length → Tld (intT lat L ds) ds [] L.length L.length 0 0 ∧ ∀ i p, (intT lat L ds)[i]? = some p → p.field = if i % 2 = 0 then 3 else 2
  | [], ds, _, _, hs => by
    have : ds = [] := List.eq_nil_of_length_eq_zero (by rw [← hs]; rfl)
    subst this
    exact ⟨⟨rfl, rfl, rfl, by decide, rfl, rfl, rfl, rfl, rfl⟩, fun i p h => by simp [intT] at h⟩
  | a :: t, ds, hd, hp, hs => by
    rw [List.sum_cons] at hs
    obtain ⟨I, F⟩ := tld_T t (ds.drop a) (digB_dropD hd a) (fun z hz => hp z (by simp [hz])) (by rw [List.length_drop]; omega)
    rw [intT_cons t hd (hp a (by simp)) (by omega)]
    refine ⟨⟨?_, ?_, ?_, ?_, ?_, ?_, ?_, ?_, ?_⟩, ?_⟩
    · simp only [catF, if_pos, if_neg (show ¬ (3 : Int) = 2 by decide), I.c2, bys_mkP, List.take_append_drop]
    · simp only [catF, if_neg (show ¬ (3 : Int) = 5 by decide), if_neg (show ¬ (2 : Int) = 5 by decide), I.c5]
    · simp only [catF, if_pos, if_neg (show ¬ (2 : Int) = 3 by decide), List.length_append, I.c3, List.length_cons]
      have : (bys lat.grp).length = 1 := rfl
      omega
    · simp only [catF, if_neg (show ¬ (3 : Int) = 4 by decide), if_neg (show ¬ (2 : Int) = 4 by decide)]; exact I.c4
    · simp only [cntF, if_pos, if_neg (show ¬ (3 : Int) = 2 by decide), I.n2, List.length_cons]
    · simp only [cntF, if_pos, if_neg (show ¬ (2 : Int) = 3 by decide), I.n3, List.length_cons]
    · simp only [cntF, if_neg (show ¬ (3 : Int) = 4 by decide), if_neg (show ¬ (2 : Int) = 4 by decide), I.n4]
    · simp only [cntF, if_neg (show ¬ (3 : Int) = 5 by decide), if_neg (show ¬ (2 : Int) = 5 by decide), I.n5]
    · have := I.ln; simp only [List.length_cons]; omega
    · intro i p h
      match i, h with
      | 0, h => simp only [List.getElem?_cons_zero, Option.some.injEq] at h; subst h; rfl
      | 1, h => simp only [List.getElem?_cons_succ, List.getElem?_cons_zero, Option.some.injEq] at h; subst h; rfl
      | i + 2, h =>
        simp only [List.getElem?_cons_succ] at h
        rw [F i p h, show (i + 2) % 2 = i % 2 by omega]

theorem tld_P (L : List Nat) (ds : List UInt8) (hd : DigB ds) (hp : ∀ z ∈ L, 0 < z) (hs : L.sum = ds.length) : Tld (intP lat L ds) ds [] L.length (L.length - 1) 0 0 ∧ ∀ i p, (intP lat L ds)[i]? = some p → p.field = if i % 2 = 1 then 3 else 2 := by
  cases L with
  | nil =>
    have : ds = [] := List.eq_nil_of_length_eq_zero (by rw [← hs]; rfl)
    subst this
    exact ⟨⟨rfl, rfl, rfl, by decide, rfl, rfl, rfl, rfl, rfl⟩, fun i p h => by simp [intP] at h⟩
  | cons a t =>
    rw [List.sum_cons] at hs
    obtain ⟨I, F⟩ := tld_T t (ds.drop a) (digB_dropD hd a) (fun z hz => hp z (by simp [hz])) (by rw [List.length_drop]; omega)
    rw [intP_cons t hd (hp a (by simp)) (by omega)]
    refine ⟨⟨?_, ?_, ?_, ?_, ?_, ?_, ?_, ?_, ?_⟩, ?_⟩
    · simp only [catF, if_pos, I.c2, bys_mkP, List.take_append_drop]
    · simp only [catF, if_neg (show ¬ (2 : Int) = 5 by decide), I.c5]
    · simp only [catF, if_neg (show ¬ (2 : Int) = 3 by decide), I.c3, List.length_cons, Nat.add_sub_cancel]
    · simp only [catF, if_neg (show ¬ (2 : Int) = 4 by decide)]; exact I.c4
    · simp only [cntF, if_pos, I.n2, List.length_cons]
    · simp only [cntF, if_neg (show ¬ (2 : Int) = 3 by decide), I.n3, List.length_cons, Nat.add_sub_cancel]
    · simp only [cntF, if_neg (show ¬ (2 : Int) = 4 by decide), I.n4]
    · simp only [cntF, if_neg (show ¬ (2 : Int) = 5 by decide), I.n5]
    · have := I.ln; simp only [List.length_cons, Nat.add_sub_cancel]; omega
    · intro i p h
      match i, h with
      | 0, h => simp only [List.getElem?_cons_zero, Option.some.injEq] at h; subst h; rfl
      | i + 1, h =>
        simp only [List.getElem?_cons_succ] at h
        rw [F i p h]
        by_cases hi : i % 2 = 0
        · rw [if_pos hi, if_pos (by omega)]
        · rw [if_neg hi, if_neg (by omega)]

theorem tld_all {y : ShownT} (L : List Nat) (al : Bool) (hd : DigB y.int) (hf : DigB y.frac) (hp : ∀ z ∈ L, 0 < z) (hs : L.sum = y.int.length) :
    Tld (intP lat L y.int ++ fraP lat y al) y.int y.frac L.length (L.length - 1) (if y.frac ≠ [] ∨ al = true then 1 else 0) (if y.frac = [] then 0 else 1) ∧
    ∀ i p, (intP lat L y.int ++ fraP lat y al)[i]? = some p → p.field = if L.length + (L.length - 1) + (if y.frac ≠ [] ∨ al = true then 1 else 0) ≤ i then 5 else if L.length + (L.length - 1) ≤ i then 4 else if i % 2 = 1 then 3 else 2 := by
  obtain ⟨I, F⟩ := tld_P L y.int hd hp hs
  have lnP := I.ln
  have ED : oneP lat.dec 4 = [⟨lat.dec, 4⟩] := one_pos 4 (by decide)
  have EF : fraP lat y al = (if y.frac ≠ [] ∨ al = true then [⟨lat.dec, 4⟩] else []) ++ (if y.frac = [] then [] else [⟨mkP y.frac, 5⟩]) := by
    unfold fraP
    rw [ED, lat_wr hf]
    congr 1
    unfold oneP
    rw [mkP_size]
    by_cases h : y.frac = []
    · rw [h]; rfl
    · rw [if_neg h, if_neg (fun e => h (List.eq_nil_of_length_eq_zero e))]
  have NW : Tld (fraP lat y al) [] y.frac 0 0 (if y.frac ≠ [] ∨ al = true then 1 else 0) (if y.frac = [] then 0 else 1) := by
    rw [EF]
    by_cases h : y.frac = []
    · rw [if_pos h, if_pos h, List.append_nil, h]
      by_cases ha : al = true
      · rw [if_pos (.inr ha), if_pos (.inr ha)]
        exact ⟨rfl, rfl, rfl, by decide, rfl, rfl, rfl, rfl, rfl⟩
      · rw [if_neg (by simp [ha]), if_neg (by simp [ha])]
        exact ⟨rfl, rfl, rfl, by decide, rfl, rfl, rfl, rfl, rfl⟩
    · rw [if_neg h, if_neg h, if_pos (.inl h), if_pos (.inl h)]
      refine ⟨rfl, ?_, rfl, ?_, rfl, rfl, rfl, rfl, rfl⟩
      · show bys (mkP y.frac) ++ [] = y.frac
        rw [bys_mkP, List.append_nil]
      · exact (by decide : (bys lat.dec ++ []).length ≤ 1)
  refine ⟨⟨?_, ?_, ?_, ?_, ?_, ?_, ?_, ?_, ?_⟩, ?_⟩
  · rw [catF_app, I.c2, NW.c2, List.append_nil]
  · rw [catF_app, I.c5, NW.c5, List.nil_append]
  · rw [catF_app, List.length_append, I.c3, NW.c3, Nat.add_zero]
  · have e0 : (catF 4 (intP lat L y.int)).length = 0 := by
      have z : ∀ l : List Pc, cntF 4 l = 0 → catF 4 l = [] := by
        intro l
        induction l with
        | nil => intro _; rfl
        | cons p l ih =>
          intro h
          rw [cntF] at h
          rw [catF]
          split
          · rename_i q; rw [if_pos q] at h; omega
          · rename_i q; rw [if_neg q] at h; exact ih h
      rw [z _ I.n4]; rfl
    rw [catF_app, List.length_append, e0, Nat.zero_add]; exact NW.c4
  · rw [cntF_app, I.n2, NW.n2, Nat.add_zero]
  · rw [cntF_app, I.n3, NW.n3, Nat.add_zero]
  · rw [cntF_app, I.n4, NW.n4, Nat.zero_add]
  · rw [cntF_app, I.n5, NW.n5, Nat.zero_add]
  · have := NW.ln; rw [List.length_append]; omega
  · intro i p h
    by_cases hi : i < L.length + (L.length - 1)
    · rw [List.getElem?_append_left (by omega)] at h
      rw [if_neg (by omega), if_neg (by omega), F i p h]
    · rw [List.getElem?_append_right (by omega), EF, show (intP lat L y.int).length = L.length + (L.length - 1) by omega] at h
      obtain ⟨j, hj⟩ : ∃ j, j = i - (L.length + (L.length - 1)) := ⟨_, rfl⟩
      rw [← hj] at h
      by_cases hP : y.frac ≠ [] ∨ al = true
      · rw [if_pos hP] at h ⊢
        match j, hj, h with
        | 0, hj, h => 
          simp only [List.singleton_append, List.getElem?_cons_zero, Option.some.injEq] at h
          subst h
          rw [if_neg (by omega), if_pos (by omega)]
        | j + 1, hj, h =>
          rw [if_pos (by omega)]
          simp only [List.singleton_append, List.getElem?_cons_succ] at h
          by_cases hfr : y.frac = []
          · rw [if_pos hfr] at h; simp at h
          · rw [if_neg hfr] at h
            match j, h with
            | 0, h => simp only [List.getElem?_cons_zero, Option.some.injEq] at h; subst h; rfl
            | j + 1, h => simp at h
      · have hfr : y.frac = [] := by
          by_cases q : y.frac = []
          · exact q
          · exact absurd (.inl q) hP
        rw [if_neg hP, if_pos hfr] at h
        simp at h

end Go.Proofs.YtionbkmbhhlmjaaGreatDoor

namespace Go.Proofs.YtionbkmbhhlmjaaGreatDoor
open Go.RowKit

def fldW (n k p i : Nat) : Int := if n + k + p ≤ i then 5 else if n + k ≤ i then 4 else if i % 2 = 1 then 3 else 2
structure WhT (PS : List Pc) (ti tf : ByteArray) (gl : Bool) : Prop where
  out : ∃ n k p m : Nat, Tld PS (bys ti) (bys tf) n k p m ∧ (∀ i, i < PS.length → (pcN PS i).field = fldW n k p i) ∧ k = n - 1 ∧ (n = 0 ↔ ti = ⟨#[]⟩) ∧ n ≤ 4096 ∧ (p = if tf ≠ ⟨#[]⟩ ∨ gl = true then 1 else 0) ∧ (m = if tf = ⟨#[]⟩ then 0 else 1) ∧ ti.size ≤ 4096 ∧ tf.size ≤ 4096
theorem bysW_nil {t : ByteArray} : bys t = [] ↔ t = ⟨#[]⟩ := ⟨fun h => by rw [← mkP_bys t, h]; rfl, fun h => by rw [h]; rfl⟩
theorem whT_all (ti tf : ByteArray) (gl : Bool) (c : Int) (n : Bool) (x : Int) (cm : Bool) (ga gb gc : Int) (h : MayS ⟨c, n, bys ti, bys tf, x, cm⟩) (hc : c = 0) : WhT (pcsP ⟨c, n, bys ti, bys tf, x, cm⟩ lat ga gb gc gl) ti tf gl := by
  have hd : (DigB (bys ti) ∧ (bys ti).length ≤ 4096) ∧ (DigB (bys tf) ∧ (bys tf).length ≤ 4096) := by
    obtain ⟨_, ⟨_, _, ⟨q1, q2⟩, q3, q4⟩ | ⟨h1, _⟩ | ⟨h1, _⟩⟩ := h
    · exact ⟨⟨q2, q1⟩, ⟨q4, q3⟩⟩
    · subst hc; exact absurd (show (0 : Int) = 1 from h1) (by decide)
    · subst hc; exact absurd (show (0 : Int) = 2 from h1) (by decide)
  have sp := szG_pos (bys ti).length ga gb gc
  have ss := szG_sum (bys ti).length ga gb gc
  obtain ⟨T, F⟩ := tld_all (y := ⟨c, n, bys ti, bys tf, x, cm⟩) (szG (bys ti).length ga gb gc) gl hd.1.1 hd.2.1 sp ss
  refine ⟨_, _, _, _, by rw [pcsP_fin lat ga gb gc gl h hc]; exact T, ?_, rfl, ?_, ?_, ?_, ?_, by rw [← bys_len]; exact hd.1.2, by rw [← bys_len]; exact hd.2.2⟩
  · rw [pcsP_fin lat ga gb gc gl h hc]
    intro i hi
    exact F i _ (pcN_some hi)
  · constructor
    · intro q
      have e := List.eq_nil_of_length_eq_zero q
      rw [e] at ss
      exact bysW_nil.1 (List.eq_nil_of_length_eq_zero ss.symm)
    · intro q
      have e : (bys ti).length = 0 := by rw [bysW_nil.2 q]; rfl
      rw [e]; rfl
  · have := szG_le (bys ti).length ga gb gc
    omega
  · simp only [ne_eq, bysW_nil]
  · simp only [bysW_nil]

set_option maxRecDepth 100000 in
set_option maxHeartbeats 16000000 in
theorem dgwh_row (w : World) (htab : Tab w) (c : Int) (n : Bool) (ti tf : ByteArray) (x : Int) (cm : Bool) (hz1 : ti.size ≤ 140737488355328) (hz2 : tf.size ≤ 140737488355328) (ga gb gc : Int) (gl : Bool) (hf : ga ≤ 9223372036854775807) (hu : gb ≤ 9223372036854775807) :
    Calls Tryz.prog 5 #[shV c n ti tf x cm, groupsV ga gb gc gl] w fun r w' => r = .returned (.bool true) ∧ Below w.heap.size w w' := by
  obtain ⟨W, hW⟩ : ∃ W, W = (w.alloc (.cells #[.int .i64 c, .bool n, .string ti, .string tf, .int .i64 x, .bool cm] 23)).alloc (.cells #[.int .i64 ga, .int .i64 gb, .int .i64 gc, .bool gl] 28) := ⟨_, rfl⟩
  have BX0 := hide (show Blk W w.heap.size #[.int .i64 c, .bool n, .string ti, .string tf, .int .i64 x, .bool cm] 23 by rw [hW]; exact (Blk.newAt w w.heap.size rfl _ _).alloc _)
  have BG0 := hide (show Blk W (w.heap.size + 1) #[.int .i64 ga, .int .i64 gb, .int .i64 gc, .bool gl] 28 by rw [hW]; exact Blk.newAt _ _ (by simp) _ _)
  have HB0 : Hid (Below w.heap.size w W) := hide (by rw [hW]; exact ((Below.refl _ _).alloc (Nat.le_refl _) _).alloc (by simp) _)
  have HW := hide hW.symm
  have EV : symV lat = .agg latC := rfl
  have C1 := hide (fun X hX => lpieces_any c n ti tf x cm lat ga gb gc gl X hX lat_le hf hu)
  have HL := hide (fun X => latin_any X)
  have HA := hide (fun X hX => awake16_any X hX)
  obtain ⟨PS, hPS⟩ : ∃ PS, PS = pcsP ⟨c, n, bys ti, bys tf, x, cm⟩ lat ga gb gc gl := ⟨_, rfl⟩
  obtain ⟨k, hk⟩ : ∃ k, k = PS.length := ⟨_, rfl⟩
  have hkl : k ≤ 10000 := by rw [hk, hPS]; exact pcsP_len _ _ _ _ _ _
  have HK := hide hk
  rw [← hPS, ← hk, EV] at C1
  rw [EV] at HL
  have HT := hide htab
  have PF : Hid (MayS ⟨c, n, bys ti, bys tf, x, cm⟩ → c = 0 → WhT PS ti tf gl) := hide (fun h hc => by
    rw [hPS]; exact whT_all ti tf gl c n x cm ga gb gc h hc)
  have PN : Hid (¬ MayS ⟨c, n, bys ti, bys tf, x, cm⟩ → k = 0) := hide (fun h => by rw [hk, hPS, pcsP_no _ _ _ _ _ h]; rfl)
  have PO : Hid (MayS ⟨c, n, bys ti, bys tf, x, cm⟩ → ¬ c = 0 → k = 1) := hide (fun h hc => by
    rw [hk, hPS]
    rcases mayS_cls h with q | q | q
    · exact absurd q hc
    · rw [pcsP_inf _ _ _ _ _ h q]; rfl
    · rw [pcsP_nan _ _ _ _ _ h q]; rfl)
  clear hW hPS hk EV htab hu
  unfold groupsV at C1 ⊢
  obtain ⟨x_0, x_1, x_2, x_3, x_4, x_5⟩ := shown6 BX0.out
  obtain ⟨g_0, g_1, g_2, g_3⟩ := BG0.out.fourD
  have S0 : Hid (∀ X, Below W.heap.size W X → PzS w.heap.size c n ti tf x cm ga gb gc gl X) := hide (fun X hX => ⟨shown6 (BX0.out.below hX BX0.out.lt), (BG0.out.below hX BG0.out.lt).fourD⟩)
  have CL : Hid (∀ X, Below W.heap.size W X → Calls Tryz.prog 14 #[] X fun e w' => e = .returned (.agg latC) ∧ Hid (Below W.heap.size W w') ∧ PzS w.heap.size c n ti tf x cm ga gb gc gl w') := hide (fun X hX => (HL.out X).mono fun e w' ⟨q1, q2⟩ => by
    have bb := hX.trans (q2.mono hX.size)
    exact ⟨q1, hide bb, S0.out _ bb⟩)
  have CC : Hid (∀ X, Hid (Below W.heap.size W X) → Calls Tryz.prog 8 #[shV c n ti tf x cm, .agg latC, .agg #[.int .i64 ga, .int .i64 gb, .int .i64 gc, .bool gl]] X fun e w' => (∃ uo uc, e = .returned (.slice uo k uc) ∧ Hid (w'.ownsRow W.heap.size 34 2 (.slice uo k uc) k (cellsP PS))) ∧ Hid (Below W.heap.size W w') ∧ PzS w.heap.size c n ti tf x cm ga gb gc gl w') := hide (fun X hX => (C1.out X (HT.out.below (HB0.out.trans (hX.out.mono HB0.out.size)))).mono fun e w' ⟨⟨v, q1, q2⟩, q3⟩ => by
    have bb := hX.out.trans (q3.mono hX.out.size)
    obtain ⟨uo, uc, rfl⟩ := ownD_slice q2
    exact ⟨⟨uo, uc, q1, hide (ownD_mono q2 hX.out.size)⟩, hide bb, S0.out _ bb⟩)
  have hS0 := S0.out W.drew (Below.refl _ _).drew
  go_enter Tryz.func5, Tryz.ntmps5
  go_wp2_with (simp only [HW.out])
  refine wp_region_held_drew (S := PzS w.heap.size c n ti tf x cm ga gb gc gl) (by kernel_rfl) ?_ (fun hHeld => ?_)
  · assumption
  refine wpAnyH_take (i := 0) (oi := Oper.mk (some 17) _ _ _ _ _) (v := .agg #[.int .i64 c, .bool n, .string ti, .string tf, .int .i64 x, .bool cm]) rfl (by kernel_rfl) (by kernel_rfl) (by kernel_rfl) (fun _ _ _ h => h) (Or.inl ⟨by rfl, ?_⟩) (by assumption) ?_
  · intro wX hSw
    (try dsimp only at hSw)
    obtain ⟨q0, q1, q2, q3, q4, q5⟩ := hSw.sh
    go_simp
  simp only [Act.put, List.setIfInBounds_toArray, List.set_cons_succ, List.set_cons_zero]
  refine wpAnyH_take (i := 2) (oi := Oper.mk (some 19) _ _ _ _ _) (v := .agg #[.int .i64 ga, .int .i64 gb, .int .i64 gc, .bool gl]) rfl (by kernel_rfl) (by kernel_rfl) (by kernel_rfl) (fun _ _ _ h => h) (Or.inl ⟨by rfl, ?_⟩) (by assumption) ?_
  · intro wX hSw
    (try dsimp only at hSw)
    obtain ⟨q0, q1, q2, q3⟩ := hSw.gr
    go_simp
  simp only [Act.put, List.setIfInBounds_toArray, List.set_cons_succ, List.set_cons_zero]
  refine wpAnyH_ready (rs := [1]) (by kernel_rfl) (by simp) ?_
  refine AllReadyH.cons (o := Oper.mk (some 18) _ _ _ _ _) rfl (fun K hK => ?_) AllReadyH.nil
  go_simp
  refine (CL.out _ (Below.refl _ _).drew).mono ?_
  rintro e w1 ⟨rfl, b1, s1⟩
  refine hK.out _ _ ?_ (fun hHeld => ?_)
  · assumption
  clear hK K
  refine wpAnyH_ready (rs := [3]) (by kernel_rfl) (by simp) ?_
  refine AllReadyH.cons (o := Oper.mk (some 20) _ _ _ _ _) rfl (fun K hK => ?_) AllReadyH.nil
  go_simp
  refine (CC.out _ b1).mono ?_
  rintro e w2 ⟨⟨uo, uc, rfl, O2⟩, b2, s2⟩
  refine hK.out _ _ ?_ (fun hHeld => ?_)
  · assumption
  clear hK K
  refine wpAnyH_take (i := 4) (oi := Oper.mk (some 5) _ _ _ _ _) (v := .slice uo k uc) rfl (by kernel_rfl) (by kernel_rfl) (by kernel_rfl) (fun _ _ _ h => h) (Or.inl ⟨by rfl, ?_⟩) (by assumption) ?_
  · intro wX hSw
    (try dsimp only at hSw)
    go_simp
  simp only [Act.put, List.setIfInBounds_toArray, List.set_cons_succ, List.set_cons_zero]
  refine wpAnyH_done (by kernel_rfl) ?_ _
  have BX2 := hide (BX0.out.below b2.out BX0.out.lt)
  have BG2 := hide (BG0.out.below b2.out BG0.out.lt)
  have HB2 := hide (HB0.out.trans (b2.out.mono HB0.out.size))
  have hW2 : W.heap.size ≤ w2.heap.size := b2.out.size
  have hWw : w.heap.size + 1 < W.heap.size := BG0.out.lt
  have HA2 := hide (HA.out w2 (HT.out.below HB2.out))
  clear CL CC S0 hS0 b1 b2 s1 s2 hHeld BX0 BG0 HB0 C1 HL HA HW x_0 x_1 x_2 x_3 x_4 x_5 g_0 g_1 g_2 g_3
  go_wp2_with fail
  refine HA2.out.mono ?_
  rintro e w3 ⟨rfl, hb3⟩
  have BX3 := Blk.on BX2 hb3
  have BG3 := Blk.on BG2 hb3
  have O3 := hide (ownD_below O2.out hb3)
  have HB3 := hide (HB2.out.trans (hb3.mono HB2.out.size))
  have hW3 : W.heap.size ≤ w3.heap.size := Nat.le_trans hW2 hb3.size
  clear hb3 HA2 BX2 BG2 O2 HB2 hW2
  obtain ⟨x_0, x_1, x_2, x_3, x_4, x_5⟩ := shown6 BX3.out
  by_cases hmay : MayS ⟨c, n, bys ti, bys tf, x, cm⟩
  · have HM := hide (rmayS_T c n ti tf x cm w3 hmay)
    go_wp2_with fail
    refine HM.out.mono ?_
    rintro e w4 ⟨rfl, hb4⟩
    have BX4 := Blk.on BX3 hb4
    have BG4 := Blk.on BG3 hb4
    have O4 := hide (ownD_below O3.out hb4)
    have HB4 := hide (HB3.out.trans (hb4.mono HB3.out.size))
    have hW4 : W.heap.size ≤ w4.heap.size := Nat.le_trans hW3 hb4.size
    clear hb4 HM BX3 BG3 O3 HB3 hW3 x_0 x_1 x_2 x_3 x_4 x_5
    obtain ⟨x_0, x_1, x_2, x_3, x_4, x_5⟩ := shown6 BX4.out
    obtain ⟨g_0, g_1, g_2, g_3⟩ := BG4.out.fourD
    by_cases hc : c = 0
    · subst hc
      obtain ⟨N, K, P, M, TL, FL, hKN, hN0, hN4, hP, hM, hti, htf⟩ := (PF.out hmay rfl).out
      have CO : Hid (∀ (f : Int) (T : ByteArray) (Z : Nat), mkP (catF f PS) = T → cntF f PS = Z → (catF f PS).length ≤ 100000000000 → ∀ X, Hid (X.ownsRow W.heap.size 34 2 (.slice uo k uc) k (cellsP PS)) → Calls Tryz.prog 16 #[.slice uo k uc, .int .i64 f] X fun e w' => e = .returned (.tuple #[.string T, .int .i64 (Z : Int)]) ∧ Below X.heap.size X w') := hide (fun f T Z h1 h2 h3 X hX => by
        rw [← h1, ← h2]
        exact ofL_any f PS (by rw [← HK.out]; exact hX.out) (by rw [← HK.out]; exact hkl) h3)
      obtain ⟨TC, hTC⟩ : ∃ TC, TC = mkP (catF 3 PS) := ⟨_, rfl⟩
      obtain ⟨TD, hTD⟩ : ∃ TD, TD = mkP (catF 4 PS) := ⟨_, rfl⟩
      have L2 : Hid (mkP (catF 2 PS) = ti ∧ mkP (catF 5 PS) = tf ∧ TC = mkP (catF 3 PS) ∧ TD = mkP (catF 4 PS)) := hide ⟨by rw [TL.c2, mkP_bys], by rw [TL.c5, mkP_bys], hTC, hTD⟩
      have hTCs : TC.size = K := by rw [hTC, mkP_size, TL.c3]
      have hkk : k = N + K + P + M := by rw [HK.out, TL.ln]
      have HT2 := hide TL
      have FL := hide FL
      have b2 : Hid ((catF 2 PS).length ≤ 100000000000 ∧ (catF 5 PS).length ≤ 100000000000 ∧ (catF 3 PS).length ≤ 100000000000 ∧ (catF 4 PS).length ≤ 100000000000) := hide ⟨by rw [TL.c2, bys_len]; omega, by rw [TL.c5, bys_len]; omega, by rw [TL.c3]; omega, by have := TL.c4; omega⟩
      have hP1 : P ≤ 1 := by rw [hP]; split <;> omega
      have hM1 : M ≤ 1 := by rw [hM]; split <;> omega
      have HP := hide hP
      have HM0 := hide hM
      have HN0 := hide hN0
      have HAR := hide (show k = N + K + P + M ∧ TC.size = K ∧ K = N - 1 ∧ N ≤ 4096 ∧ P ≤ 1 ∧ M ≤ 1 from ⟨hkk, hTCs, hKN, hN4, hP1, hM1⟩)
      clear PF PN PO TL hTC hTD hP hM hN0 hmay hti htf hkk hTCs hKN hN4 hP1 hM1
      have CQ := hide (CO.out 2 ti N L2.out.1 HT2.out.n2 b2.out.1 w4 O4)
      go_wp2_with fail
      refine CQ.out.mono ?_
      rintro e w5 ⟨rfl, hb5⟩
      have BX5 := Blk.on BX4 hb5
      have BG5 := Blk.on BG4 hb5
      have O5 := hide (ownD_below O4.out hb5)
      have HB5 := hide (HB4.out.trans (hb5.mono HB4.out.size))
      have hW5 : W.heap.size ≤ w5.heap.size := Nat.le_trans hW4 hb5.size
      clear hb5 CQ BX4 BG4 O4 HB4 hW4
      have CQ := hide (CO.out 5 tf M L2.out.2.1 HT2.out.n5 b2.out.2.1 w5 O5)
      go_wp2_with fail
      refine CQ.out.mono ?_
      rintro e w6 ⟨rfl, hb6⟩
      have BX6 := Blk.on BX5 hb6
      have BG6 := Blk.on BG5 hb6
      have O6 := hide (ownD_below O5.out hb6)
      have HB6 := hide (HB5.out.trans (hb6.mono HB5.out.size))
      have hW6 : W.heap.size ≤ w6.heap.size := Nat.le_trans hW5 hb6.size
      clear hb6 CQ BX5 BG5 O5 HB5 hW5
      have CQ := hide (CO.out 3 TC K L2.out.2.2.1.symm HT2.out.n3 b2.out.2.2.1 w6 O6)
      go_wp2_with fail
      refine CQ.out.mono ?_
      rintro e w7 ⟨rfl, hb7⟩
      have BX7 := Blk.on BX6 hb7
      have BG7 := Blk.on BG6 hb7
      have O7 := hide (ownD_below O6.out hb7)
      have HB7 := hide (HB6.out.trans (hb7.mono HB6.out.size))
      have hW7 : W.heap.size ≤ w7.heap.size := Nat.le_trans hW6 hb7.size
      clear hb7 CQ BX6 BG6 O6 HB6 hW6
      have CQ := hide (CO.out 4 TD P L2.out.2.2.2.symm HT2.out.n4 b2.out.2.2.2 w7 O7)
      go_wp2_with fail
      refine CQ.out.mono ?_
      rintro e w8 ⟨rfl, hb8⟩
      have BX8 := Blk.on BX7 hb8
      have BG8 := Blk.on BG7 hb8
      have O8 := hide (ownD_below O7.out hb8)
      have HB8 := hide (HB7.out.trans (hb8.mono HB7.out.size))
      have hW8 : W.heap.size ≤ w8.heap.size := Nat.le_trans hW7 hb8.size
      clear hb8 CQ BX7 BG7 O7 HB7 hW7
      clear CO L2 HT2 b2 x_0 x_1 x_2 x_3 x_4 x_5 g_0 g_1 g_2 g_3
      obtain ⟨x_0, x_1, x_2, x_3, x_4, x_5⟩ := shown6 BX8.out
      obtain ⟨g_0, g_1, g_2, g_3⟩ := BG8.out.fourD
      clear BX8 BG8
      obtain ⟨hkk, hTCs, hKN, hN4, hP1, hM1⟩ := HAR.out
      have u3 : ((TC.size : Int) != (K : Int)) = false := by rw [hTCs]; simp
      obtain ⟨s1, hs1⟩ : ∃ s1, s1 = N + M := ⟨_, rfl⟩
      obtain ⟨s2, hs2⟩ : ∃ s2, s2 = s1 + K := ⟨_, rfl⟩
      obtain ⟨s3, hs3⟩ : ∃ s3, s3 = s2 + P := ⟨_, rfl⟩
      obtain ⟨s4, hs4⟩ : ∃ s4, s4 = K + 1 := ⟨_, rfl⟩
      have wr1 : IntKind.i64.wrap ((N : Int) + (M : Int)) = (s1 : Int) := by rw [IntKind.wrap_i64]; omega
      have wr2 : IntKind.i64.wrap ((s1 : Int) + (K : Int)) = (s2 : Int) := by rw [IntKind.wrap_i64]; omega
      have wr3 : IntKind.i64.wrap ((s2 : Int) + (P : Int)) = (s3 : Int) := by rw [IntKind.wrap_i64]; omega
      have wr4 : IntKind.i64.wrap ((K : Int) + 1) = (s4 : Int) := by rw [IntKind.wrap_i64]; omega
      have u5 : ((k : Int) != (s3 : Int)) = false := by rw [show k = s3 by omega]; simp
      have HS4 := hide hs4
      clear hs1 hs2 hs3 hs4 hkk hTCs hKN hN4 hP1 hM1
      obtain ⟨q2, hq2⟩ : ∃ q2, q2 = N + K := ⟨_, rfl⟩
      obtain ⟨q3, hq3⟩ : ∃ q3, q3 = N + K + P := ⟨_, rfl⟩
      have HQ := hide (show q2 = N + K ∧ q3 = N + K + P from ⟨hq2, hq3⟩)
      clear hq2 hq3
      by_cases h0 : tf = ⟨#[]⟩
      · cases gl with
        | false =>
          have u4 : ((P : Int) != 0) = false := by rw [HP.out, if_neg (by simp [h0])]; rfl
          by_cases hn : ti = ⟨#[]⟩
          · have hN := HN0.out.2 hn
            have n1 : ((N : Int) == 0) = true := by rw [hN]; rfl
            have n2 : ¬ (0 : Int) < (N : Int) := by omega
            clear hN
            go_wp2_with fail
            go_loopw [15, 16] (fun q z wr => ∃ i : Nat, i ≤ k ∧ q = .int .i64 (i : Int) ∧ Hid (Below w8.heap.size w8 wr)) (fun q _ _ => k - (intOf q).toNat)
            case atStart => exact ⟨0, Nat.zero_le _, rfl, hide (Below.refl _ _)⟩
            case round =>
              obtain ⟨i, hi1, rfl, BW⟩ := hrel
              have O9 := hide (ownD_below O8.out BW.out)
              have HBf := hide (HB8.out.trans (BW.out.mono HB8.out.size))
              clear x_0 x_1 x_2 x_3 x_4 x_5 g_0 g_1 g_2 g_3 u3 u5 wr2 wr3 wr4 wr1 n1 n2 O8 HB8
              have hz := HAR.out
              have wa : IntKind.i64.wrap ((N : Int) + (K : Int)) = (q2 : Int) := by rw [IntKind.wrap_i64]; have := HQ.out; omega
              have wb : IntKind.i64.wrap ((q2 : Int) + (P : Int)) = (q3 : Int) := by rw [IntKind.wrap_i64]; have := HQ.out; omega
              clear hz
              by_cases hik : i < k
              · have hik' : (i : Int) < (k : Int) := by omega
                obtain ⟨g, cap, hv, hg1, hg2, hgc⟩ := ownD_some O9.out (by omega)
                simp only [Value.slice.injEq] at hv
                obtain ⟨rfl, _, rfl⟩ := hv
                have hip : i < PS.length := by rw [← HK.out]; exact hik
                obtain ⟨c0, c1⟩ := cellsP_at PS i hip
                have cB := (O9.out.cellAt (i * 2 + 1) (by omega)).trans c1
                have FF := FL.out i hip
                unfold fldW at FF
                rw [show N + K + P = q3 by have := HQ.out; omega, show N + K = q2 by have := HQ.out; omega] at FF
                have hq23 : q2 ≤ q3 := by have := HQ.out; omega
                obtain ⟨fo, hfo⟩ : ∃ fo, fo = (pcN PS i).field := ⟨_, rfl⟩
                rw [← hfo] at cB FF
                clear hfo c0 c1 hip
                have tm : Int.tmod (i : Int) 2 = (i : Int) % 2 := Int.tmod_eq_emod_of_nonneg (by omega)
                by_cases m1 : (i : Int) % 2 = 1
                · have m2 : ((i : Int) % 2 == 1) = true := by rw [m1]; rfl
                  have m3 : i % 2 = 1 := by omega
                  rw [m1] at tm
                  by_cases a1 : q2 ≤ i
                  · have a1' : (q2 : Int) ≤ (i : Int) := by omega
                    by_cases a2 : q3 ≤ i
                    · have a2' : (q3 : Int) ≤ (i : Int) := by omega
                      rw [if_pos a2] at FF
                      clear m1 m2 m3 a1 a2
                      subst FF
                      go_wp2
                      exact ⟨⟨i + 1, by omega, by go_num, BW⟩, by simp [intOf]; omega⟩
                    · have a2' : ¬ (q3 : Int) ≤ (i : Int) := by omega
                      rw [if_neg a2, if_pos a1] at FF
                      clear m1 m2 m3 a1 a2
                      subst FF
                      go_wp2
                      exact ⟨⟨i + 1, by omega, by go_num, BW⟩, by simp [intOf]; omega⟩
                  · have a1' : ¬ (q2 : Int) ≤ (i : Int) := by omega
                    have a2' : ¬ (q3 : Int) ≤ (i : Int) := by omega
                    rw [if_neg (by omega), if_neg a1, if_pos m3] at FF
                    clear m1 m2 m3 a1
                    subst FF
                    go_wp2
                    exact ⟨⟨i + 1, by omega, by go_num, BW⟩, by simp [intOf]; omega⟩
                · have m2 : (i : Int) % 2 = 0 := by omega
                  have m3 : ¬ i % 2 = 1 := by omega
                  rw [m2] at tm
                  by_cases a1 : q2 ≤ i
                  · have a1' : (q2 : Int) ≤ (i : Int) := by omega
                    by_cases a2 : q3 ≤ i
                    · have a2' : (q3 : Int) ≤ (i : Int) := by omega
                      rw [if_pos a2] at FF
                      clear m1 m2 m3 a1 a2
                      subst FF
                      go_wp2
                      exact ⟨⟨i + 1, by omega, by go_num, BW⟩, by simp [intOf]; omega⟩
                    · have a2' : ¬ (q3 : Int) ≤ (i : Int) := by omega
                      rw [if_neg a2, if_pos a1] at FF
                      clear m1 m2 m3 a1 a2
                      subst FF
                      go_wp2
                      exact ⟨⟨i + 1, by omega, by go_num, BW⟩, by simp [intOf]; omega⟩
                  · have a1' : ¬ (q2 : Int) ≤ (i : Int) := by omega
                    have a2' : ¬ (q3 : Int) ≤ (i : Int) := by omega
                    rw [if_neg (by omega), if_neg a1, if_neg m3] at FF
                    clear m1 m2 m3 a1
                    subst FF
                    go_wp2
                    exact ⟨⟨i + 1, by omega, by go_num, BW⟩, by simp [intOf]; omega⟩
              · obtain rfl : i = k := by omega
                have hik' : ¬ (i : Int) < (i : Int) := by omega
                clear O9 FL hik
                go_wp2
                go_ret
                exact ⟨rfl, HBf.out⟩
          · have hN : ¬ N = 0 := fun q => hn (HN0.out.1 q)
            have n1 : ((N : Int) == 0) = false := beq_eq_false_iff_ne.2 (by omega)
            have n2 : (0 : Int) < (N : Int) := by omega
            have n3 : ((N : Int) != (s4 : Int)) = false := by rw [show N = s4 by have := HS4.out; have := HAR.out.2.2.1; omega]; exact bne_self_eq_false _
            have t0 : (ti.toList == []) = false := sl_ne (fun e => hn (bysW_nil.1 e))
            have t1 : ¬ ti.toList = [] := fun e => by rw [e] at t0; cases t0
            have t2 : ti.toList.isEmpty = false := List.isEmpty_eq_false_iff.2 t1
            clear hN
            go_wp2_with fail
            go_loopw [15, 16] (fun q z wr => ∃ i : Nat, i ≤ k ∧ q = .int .i64 (i : Int) ∧ Hid (Below w8.heap.size w8 wr)) (fun q _ _ => k - (intOf q).toNat)
            case atStart => exact ⟨0, Nat.zero_le _, rfl, hide (Below.refl _ _)⟩
            case round =>
              obtain ⟨i, hi1, rfl, BW⟩ := hrel
              have O9 := hide (ownD_below O8.out BW.out)
              have HBf := hide (HB8.out.trans (BW.out.mono HB8.out.size))
              clear x_0 x_1 x_2 x_3 x_4 x_5 g_0 g_1 g_2 g_3 u3 u5 wr2 wr3 wr4 wr1 n1 n2 O8 HB8
              have hz := HAR.out
              have wa : IntKind.i64.wrap ((N : Int) + (K : Int)) = (q2 : Int) := by rw [IntKind.wrap_i64]; have := HQ.out; omega
              have wb : IntKind.i64.wrap ((q2 : Int) + (P : Int)) = (q3 : Int) := by rw [IntKind.wrap_i64]; have := HQ.out; omega
              clear hz
              by_cases hik : i < k
              · have hik' : (i : Int) < (k : Int) := by omega
                obtain ⟨g, cap, hv, hg1, hg2, hgc⟩ := ownD_some O9.out (by omega)
                simp only [Value.slice.injEq] at hv
                obtain ⟨rfl, _, rfl⟩ := hv
                have hip : i < PS.length := by rw [← HK.out]; exact hik
                obtain ⟨c0, c1⟩ := cellsP_at PS i hip
                have cB := (O9.out.cellAt (i * 2 + 1) (by omega)).trans c1
                have FF := FL.out i hip
                unfold fldW at FF
                rw [show N + K + P = q3 by have := HQ.out; omega, show N + K = q2 by have := HQ.out; omega] at FF
                have hq23 : q2 ≤ q3 := by have := HQ.out; omega
                obtain ⟨fo, hfo⟩ : ∃ fo, fo = (pcN PS i).field := ⟨_, rfl⟩
                rw [← hfo] at cB FF
                clear hfo c0 c1 hip
                have tm : Int.tmod (i : Int) 2 = (i : Int) % 2 := Int.tmod_eq_emod_of_nonneg (by omega)
                by_cases m1 : (i : Int) % 2 = 1
                · have m2 : ((i : Int) % 2 == 1) = true := by rw [m1]; rfl
                  have m3 : i % 2 = 1 := by omega
                  rw [m1] at tm
                  by_cases a1 : q2 ≤ i
                  · have a1' : (q2 : Int) ≤ (i : Int) := by omega
                    by_cases a2 : q3 ≤ i
                    · have a2' : (q3 : Int) ≤ (i : Int) := by omega
                      rw [if_pos a2] at FF
                      clear m1 m2 m3 a1 a2
                      subst FF
                      go_wp2
                      exact ⟨⟨i + 1, by omega, by go_num, BW⟩, by simp [intOf]; omega⟩
                    · have a2' : ¬ (q3 : Int) ≤ (i : Int) := by omega
                      rw [if_neg a2, if_pos a1] at FF
                      clear m1 m2 m3 a1 a2
                      subst FF
                      go_wp2
                      exact ⟨⟨i + 1, by omega, by go_num, BW⟩, by simp [intOf]; omega⟩
                  · have a1' : ¬ (q2 : Int) ≤ (i : Int) := by omega
                    have a2' : ¬ (q3 : Int) ≤ (i : Int) := by omega
                    rw [if_neg (by omega), if_neg a1, if_pos m3] at FF
                    clear m1 m2 m3 a1
                    subst FF
                    go_wp2
                    exact ⟨⟨i + 1, by omega, by go_num, BW⟩, by simp [intOf]; omega⟩
                · have m2 : (i : Int) % 2 = 0 := by omega
                  have m3 : ¬ i % 2 = 1 := by omega
                  rw [m2] at tm
                  by_cases a1 : q2 ≤ i
                  · have a1' : (q2 : Int) ≤ (i : Int) := by omega
                    by_cases a2 : q3 ≤ i
                    · have a2' : (q3 : Int) ≤ (i : Int) := by omega
                      rw [if_pos a2] at FF
                      clear m1 m2 m3 a1 a2
                      subst FF
                      go_wp2
                      exact ⟨⟨i + 1, by omega, by go_num, BW⟩, by simp [intOf]; omega⟩
                    · have a2' : ¬ (q3 : Int) ≤ (i : Int) := by omega
                      rw [if_neg a2, if_pos a1] at FF
                      clear m1 m2 m3 a1 a2
                      subst FF
                      go_wp2
                      exact ⟨⟨i + 1, by omega, by go_num, BW⟩, by simp [intOf]; omega⟩
                  · have a1' : ¬ (q2 : Int) ≤ (i : Int) := by omega
                    have a2' : ¬ (q3 : Int) ≤ (i : Int) := by omega
                    rw [if_neg (by omega), if_neg a1, if_neg m3] at FF
                    clear m1 m2 m3 a1
                    subst FF
                    go_wp2
                    exact ⟨⟨i + 1, by omega, by go_num, BW⟩, by simp [intOf]; omega⟩
              · obtain rfl : i = k := by omega
                have hik' : ¬ (i : Int) < (i : Int) := by omega
                clear O9 FL hik
                go_wp2
                go_ret
                exact ⟨rfl, HBf.out⟩
        | true =>
          have u4 : ((P : Int) != 1) = false := by rw [HP.out, if_pos (.inr rfl)]; rfl
          by_cases hn : ti = ⟨#[]⟩
          · have hN := HN0.out.2 hn
            have n1 : ((N : Int) == 0) = true := by rw [hN]; rfl
            have n2 : ¬ (0 : Int) < (N : Int) := by omega
            clear hN
            go_wp2_with fail
            go_loopw [15, 16] (fun q z wr => ∃ i : Nat, i ≤ k ∧ q = .int .i64 (i : Int) ∧ Hid (Below w8.heap.size w8 wr)) (fun q _ _ => k - (intOf q).toNat)
            case atStart => exact ⟨0, Nat.zero_le _, rfl, hide (Below.refl _ _)⟩
            case round =>
              obtain ⟨i, hi1, rfl, BW⟩ := hrel
              have O9 := hide (ownD_below O8.out BW.out)
              have HBf := hide (HB8.out.trans (BW.out.mono HB8.out.size))
              clear x_0 x_1 x_2 x_3 x_4 x_5 g_0 g_1 g_2 g_3 u3 u5 wr2 wr3 wr4 wr1 n1 n2 O8 HB8
              have hz := HAR.out
              have wa : IntKind.i64.wrap ((N : Int) + (K : Int)) = (q2 : Int) := by rw [IntKind.wrap_i64]; have := HQ.out; omega
              have wb : IntKind.i64.wrap ((q2 : Int) + (P : Int)) = (q3 : Int) := by rw [IntKind.wrap_i64]; have := HQ.out; omega
              clear hz
              by_cases hik : i < k
              · have hik' : (i : Int) < (k : Int) := by omega
                obtain ⟨g, cap, hv, hg1, hg2, hgc⟩ := ownD_some O9.out (by omega)
                simp only [Value.slice.injEq] at hv
                obtain ⟨rfl, _, rfl⟩ := hv
                have hip : i < PS.length := by rw [← HK.out]; exact hik
                obtain ⟨c0, c1⟩ := cellsP_at PS i hip
                have cB := (O9.out.cellAt (i * 2 + 1) (by omega)).trans c1
                have FF := FL.out i hip
                unfold fldW at FF
                rw [show N + K + P = q3 by have := HQ.out; omega, show N + K = q2 by have := HQ.out; omega] at FF
                have hq23 : q2 ≤ q3 := by have := HQ.out; omega
                obtain ⟨fo, hfo⟩ : ∃ fo, fo = (pcN PS i).field := ⟨_, rfl⟩
                rw [← hfo] at cB FF
                clear hfo c0 c1 hip
                have tm : Int.tmod (i : Int) 2 = (i : Int) % 2 := Int.tmod_eq_emod_of_nonneg (by omega)
                by_cases m1 : (i : Int) % 2 = 1
                · have m2 : ((i : Int) % 2 == 1) = true := by rw [m1]; rfl
                  have m3 : i % 2 = 1 := by omega
                  rw [m1] at tm
                  by_cases a1 : q2 ≤ i
                  · have a1' : (q2 : Int) ≤ (i : Int) := by omega
                    by_cases a2 : q3 ≤ i
                    · have a2' : (q3 : Int) ≤ (i : Int) := by omega
                      rw [if_pos a2] at FF
                      clear m1 m2 m3 a1 a2
                      subst FF
                      go_wp2
                      exact ⟨⟨i + 1, by omega, by go_num, BW⟩, by simp [intOf]; omega⟩
                    · have a2' : ¬ (q3 : Int) ≤ (i : Int) := by omega
                      rw [if_neg a2, if_pos a1] at FF
                      clear m1 m2 m3 a1 a2
                      subst FF
                      go_wp2
                      exact ⟨⟨i + 1, by omega, by go_num, BW⟩, by simp [intOf]; omega⟩
                  · have a1' : ¬ (q2 : Int) ≤ (i : Int) := by omega
                    have a2' : ¬ (q3 : Int) ≤ (i : Int) := by omega
                    rw [if_neg (by omega), if_neg a1, if_pos m3] at FF
                    clear m1 m2 m3 a1
                    subst FF
                    go_wp2
                    exact ⟨⟨i + 1, by omega, by go_num, BW⟩, by simp [intOf]; omega⟩
                · have m2 : (i : Int) % 2 = 0 := by omega
                  have m3 : ¬ i % 2 = 1 := by omega
                  rw [m2] at tm
                  by_cases a1 : q2 ≤ i
                  · have a1' : (q2 : Int) ≤ (i : Int) := by omega
                    by_cases a2 : q3 ≤ i
                    · have a2' : (q3 : Int) ≤ (i : Int) := by omega
                      rw [if_pos a2] at FF
                      clear m1 m2 m3 a1 a2
                      subst FF
                      go_wp2
                      exact ⟨⟨i + 1, by omega, by go_num, BW⟩, by simp [intOf]; omega⟩
                    · have a2' : ¬ (q3 : Int) ≤ (i : Int) := by omega
                      rw [if_neg a2, if_pos a1] at FF
                      clear m1 m2 m3 a1 a2
                      subst FF
                      go_wp2
                      exact ⟨⟨i + 1, by omega, by go_num, BW⟩, by simp [intOf]; omega⟩
                  · have a1' : ¬ (q2 : Int) ≤ (i : Int) := by omega
                    have a2' : ¬ (q3 : Int) ≤ (i : Int) := by omega
                    rw [if_neg (by omega), if_neg a1, if_neg m3] at FF
                    clear m1 m2 m3 a1
                    subst FF
                    go_wp2
                    exact ⟨⟨i + 1, by omega, by go_num, BW⟩, by simp [intOf]; omega⟩
              · obtain rfl : i = k := by omega
                have hik' : ¬ (i : Int) < (i : Int) := by omega
                clear O9 FL hik
                go_wp2
                go_ret
                exact ⟨rfl, HBf.out⟩
          · have hN : ¬ N = 0 := fun q => hn (HN0.out.1 q)
            have n1 : ((N : Int) == 0) = false := beq_eq_false_iff_ne.2 (by omega)
            have n2 : (0 : Int) < (N : Int) := by omega
            have n3 : ((N : Int) != (s4 : Int)) = false := by rw [show N = s4 by have := HS4.out; have := HAR.out.2.2.1; omega]; exact bne_self_eq_false _
            have t0 : (ti.toList == []) = false := sl_ne (fun e => hn (bysW_nil.1 e))
            have t1 : ¬ ti.toList = [] := fun e => by rw [e] at t0; cases t0
            have t2 : ti.toList.isEmpty = false := List.isEmpty_eq_false_iff.2 t1
            clear hN
            go_wp2_with fail
            go_loopw [15, 16] (fun q z wr => ∃ i : Nat, i ≤ k ∧ q = .int .i64 (i : Int) ∧ Hid (Below w8.heap.size w8 wr)) (fun q _ _ => k - (intOf q).toNat)
            case atStart => exact ⟨0, Nat.zero_le _, rfl, hide (Below.refl _ _)⟩
            case round =>
              obtain ⟨i, hi1, rfl, BW⟩ := hrel
              have O9 := hide (ownD_below O8.out BW.out)
              have HBf := hide (HB8.out.trans (BW.out.mono HB8.out.size))
              clear x_0 x_1 x_2 x_3 x_4 x_5 g_0 g_1 g_2 g_3 u3 u5 wr2 wr3 wr4 wr1 n1 n2 O8 HB8
              have hz := HAR.out
              have wa : IntKind.i64.wrap ((N : Int) + (K : Int)) = (q2 : Int) := by rw [IntKind.wrap_i64]; have := HQ.out; omega
              have wb : IntKind.i64.wrap ((q2 : Int) + (P : Int)) = (q3 : Int) := by rw [IntKind.wrap_i64]; have := HQ.out; omega
              clear hz
              by_cases hik : i < k
              · have hik' : (i : Int) < (k : Int) := by omega
                obtain ⟨g, cap, hv, hg1, hg2, hgc⟩ := ownD_some O9.out (by omega)
                simp only [Value.slice.injEq] at hv
                obtain ⟨rfl, _, rfl⟩ := hv
                have hip : i < PS.length := by rw [← HK.out]; exact hik
                obtain ⟨c0, c1⟩ := cellsP_at PS i hip
                have cB := (O9.out.cellAt (i * 2 + 1) (by omega)).trans c1
                have FF := FL.out i hip
                unfold fldW at FF
                rw [show N + K + P = q3 by have := HQ.out; omega, show N + K = q2 by have := HQ.out; omega] at FF
                have hq23 : q2 ≤ q3 := by have := HQ.out; omega
                obtain ⟨fo, hfo⟩ : ∃ fo, fo = (pcN PS i).field := ⟨_, rfl⟩
                rw [← hfo] at cB FF
                clear hfo c0 c1 hip
                have tm : Int.tmod (i : Int) 2 = (i : Int) % 2 := Int.tmod_eq_emod_of_nonneg (by omega)
                by_cases m1 : (i : Int) % 2 = 1
                · have m2 : ((i : Int) % 2 == 1) = true := by rw [m1]; rfl
                  have m3 : i % 2 = 1 := by omega
                  rw [m1] at tm
                  by_cases a1 : q2 ≤ i
                  · have a1' : (q2 : Int) ≤ (i : Int) := by omega
                    by_cases a2 : q3 ≤ i
                    · have a2' : (q3 : Int) ≤ (i : Int) := by omega
                      rw [if_pos a2] at FF
                      clear m1 m2 m3 a1 a2
                      subst FF
                      go_wp2
                      exact ⟨⟨i + 1, by omega, by go_num, BW⟩, by simp [intOf]; omega⟩
                    · have a2' : ¬ (q3 : Int) ≤ (i : Int) := by omega
                      rw [if_neg a2, if_pos a1] at FF
                      clear m1 m2 m3 a1 a2
                      subst FF
                      go_wp2
                      exact ⟨⟨i + 1, by omega, by go_num, BW⟩, by simp [intOf]; omega⟩
                  · have a1' : ¬ (q2 : Int) ≤ (i : Int) := by omega
                    have a2' : ¬ (q3 : Int) ≤ (i : Int) := by omega
                    rw [if_neg (by omega), if_neg a1, if_pos m3] at FF
                    clear m1 m2 m3 a1
                    subst FF
                    go_wp2
                    exact ⟨⟨i + 1, by omega, by go_num, BW⟩, by simp [intOf]; omega⟩
                · have m2 : (i : Int) % 2 = 0 := by omega
                  have m3 : ¬ i % 2 = 1 := by omega
                  rw [m2] at tm
                  by_cases a1 : q2 ≤ i
                  · have a1' : (q2 : Int) ≤ (i : Int) := by omega
                    by_cases a2 : q3 ≤ i
                    · have a2' : (q3 : Int) ≤ (i : Int) := by omega
                      rw [if_pos a2] at FF
                      clear m1 m2 m3 a1 a2
                      subst FF
                      go_wp2
                      exact ⟨⟨i + 1, by omega, by go_num, BW⟩, by simp [intOf]; omega⟩
                    · have a2' : ¬ (q3 : Int) ≤ (i : Int) := by omega
                      rw [if_neg a2, if_pos a1] at FF
                      clear m1 m2 m3 a1 a2
                      subst FF
                      go_wp2
                      exact ⟨⟨i + 1, by omega, by go_num, BW⟩, by simp [intOf]; omega⟩
                  · have a1' : ¬ (q2 : Int) ≤ (i : Int) := by omega
                    have a2' : ¬ (q3 : Int) ≤ (i : Int) := by omega
                    rw [if_neg (by omega), if_neg a1, if_neg m3] at FF
                    clear m1 m2 m3 a1
                    subst FF
                    go_wp2
                    exact ⟨⟨i + 1, by omega, by go_num, BW⟩, by simp [intOf]; omega⟩
              · obtain rfl : i = k := by omega
                have hik' : ¬ (i : Int) < (i : Int) := by omega
                clear O9 FL hik
                go_wp2
                go_ret
                exact ⟨rfl, HBf.out⟩
      · have u4 : ((P : Int) != 1) = false := by rw [HP.out, if_pos (.inl h0)]; rfl
        have t3 : (tf.toList == []) = false := sl_ne (fun e => h0 (bysW_nil.1 e))
        have t4 : ¬ tf.toList = [] := fun e => by rw [e] at t3; cases t3
        have t5 : tf.toList.isEmpty = false := List.isEmpty_eq_false_iff.2 t4
        by_cases hn : ti = ⟨#[]⟩
        · have hN := HN0.out.2 hn
          have n1 : ((N : Int) == 0) = true := by rw [hN]; rfl
          have n2 : ¬ (0 : Int) < (N : Int) := by omega
          clear hN
          go_wp2_with fail
          go_loopw [15, 16] (fun q z wr => ∃ i : Nat, i ≤ k ∧ q = .int .i64 (i : Int) ∧ Hid (Below w8.heap.size w8 wr)) (fun q _ _ => k - (intOf q).toNat)
          case atStart => exact ⟨0, Nat.zero_le _, rfl, hide (Below.refl _ _)⟩
          case round =>
            obtain ⟨i, hi1, rfl, BW⟩ := hrel
            have O9 := hide (ownD_below O8.out BW.out)
            have HBf := hide (HB8.out.trans (BW.out.mono HB8.out.size))
            clear x_0 x_1 x_2 x_3 x_4 x_5 g_0 g_1 g_2 g_3 u3 u5 wr2 wr3 wr4 wr1 n1 n2 O8 HB8
            have hz := HAR.out
            have wa : IntKind.i64.wrap ((N : Int) + (K : Int)) = (q2 : Int) := by rw [IntKind.wrap_i64]; have := HQ.out; omega
            have wb : IntKind.i64.wrap ((q2 : Int) + (P : Int)) = (q3 : Int) := by rw [IntKind.wrap_i64]; have := HQ.out; omega
            clear hz
            by_cases hik : i < k
            · have hik' : (i : Int) < (k : Int) := by omega
              obtain ⟨g, cap, hv, hg1, hg2, hgc⟩ := ownD_some O9.out (by omega)
              simp only [Value.slice.injEq] at hv
              obtain ⟨rfl, _, rfl⟩ := hv
              have hip : i < PS.length := by rw [← HK.out]; exact hik
              obtain ⟨c0, c1⟩ := cellsP_at PS i hip
              have cB := (O9.out.cellAt (i * 2 + 1) (by omega)).trans c1
              have FF := FL.out i hip
              unfold fldW at FF
              rw [show N + K + P = q3 by have := HQ.out; omega, show N + K = q2 by have := HQ.out; omega] at FF
              have hq23 : q2 ≤ q3 := by have := HQ.out; omega
              obtain ⟨fo, hfo⟩ : ∃ fo, fo = (pcN PS i).field := ⟨_, rfl⟩
              rw [← hfo] at cB FF
              clear hfo c0 c1 hip
              have tm : Int.tmod (i : Int) 2 = (i : Int) % 2 := Int.tmod_eq_emod_of_nonneg (by omega)
              by_cases m1 : (i : Int) % 2 = 1
              · have m2 : ((i : Int) % 2 == 1) = true := by rw [m1]; rfl
                have m3 : i % 2 = 1 := by omega
                rw [m1] at tm
                by_cases a1 : q2 ≤ i
                · have a1' : (q2 : Int) ≤ (i : Int) := by omega
                  by_cases a2 : q3 ≤ i
                  · have a2' : (q3 : Int) ≤ (i : Int) := by omega
                    rw [if_pos a2] at FF
                    clear m1 m2 m3 a1 a2
                    subst FF
                    go_wp2
                    exact ⟨⟨i + 1, by omega, by go_num, BW⟩, by simp [intOf]; omega⟩
                  · have a2' : ¬ (q3 : Int) ≤ (i : Int) := by omega
                    rw [if_neg a2, if_pos a1] at FF
                    clear m1 m2 m3 a1 a2
                    subst FF
                    go_wp2
                    exact ⟨⟨i + 1, by omega, by go_num, BW⟩, by simp [intOf]; omega⟩
                · have a1' : ¬ (q2 : Int) ≤ (i : Int) := by omega
                  have a2' : ¬ (q3 : Int) ≤ (i : Int) := by omega
                  rw [if_neg (by omega), if_neg a1, if_pos m3] at FF
                  clear m1 m2 m3 a1
                  subst FF
                  go_wp2
                  exact ⟨⟨i + 1, by omega, by go_num, BW⟩, by simp [intOf]; omega⟩
              · have m2 : (i : Int) % 2 = 0 := by omega
                have m3 : ¬ i % 2 = 1 := by omega
                rw [m2] at tm
                by_cases a1 : q2 ≤ i
                · have a1' : (q2 : Int) ≤ (i : Int) := by omega
                  by_cases a2 : q3 ≤ i
                  · have a2' : (q3 : Int) ≤ (i : Int) := by omega
                    rw [if_pos a2] at FF
                    clear m1 m2 m3 a1 a2
                    subst FF
                    go_wp2
                    exact ⟨⟨i + 1, by omega, by go_num, BW⟩, by simp [intOf]; omega⟩
                  · have a2' : ¬ (q3 : Int) ≤ (i : Int) := by omega
                    rw [if_neg a2, if_pos a1] at FF
                    clear m1 m2 m3 a1 a2
                    subst FF
                    go_wp2
                    exact ⟨⟨i + 1, by omega, by go_num, BW⟩, by simp [intOf]; omega⟩
                · have a1' : ¬ (q2 : Int) ≤ (i : Int) := by omega
                  have a2' : ¬ (q3 : Int) ≤ (i : Int) := by omega
                  rw [if_neg (by omega), if_neg a1, if_neg m3] at FF
                  clear m1 m2 m3 a1
                  subst FF
                  go_wp2
                  exact ⟨⟨i + 1, by omega, by go_num, BW⟩, by simp [intOf]; omega⟩
            · obtain rfl : i = k := by omega
              have hik' : ¬ (i : Int) < (i : Int) := by omega
              clear O9 FL hik
              go_wp2
              go_ret
              exact ⟨rfl, HBf.out⟩
        · have hN : ¬ N = 0 := fun q => hn (HN0.out.1 q)
          have n1 : ((N : Int) == 0) = false := beq_eq_false_iff_ne.2 (by omega)
          have n2 : (0 : Int) < (N : Int) := by omega
          have n3 : ((N : Int) != (s4 : Int)) = false := by rw [show N = s4 by have := HS4.out; have := HAR.out.2.2.1; omega]; exact bne_self_eq_false _
          have t0 : (ti.toList == []) = false := sl_ne (fun e => hn (bysW_nil.1 e))
          have t1 : ¬ ti.toList = [] := fun e => by rw [e] at t0; cases t0
          have t2 : ti.toList.isEmpty = false := List.isEmpty_eq_false_iff.2 t1
          clear hN
          go_wp2_with fail
          go_loopw [15, 16] (fun q z wr => ∃ i : Nat, i ≤ k ∧ q = .int .i64 (i : Int) ∧ Hid (Below w8.heap.size w8 wr)) (fun q _ _ => k - (intOf q).toNat)
          case atStart => exact ⟨0, Nat.zero_le _, rfl, hide (Below.refl _ _)⟩
          case round =>
            obtain ⟨i, hi1, rfl, BW⟩ := hrel
            have O9 := hide (ownD_below O8.out BW.out)
            have HBf := hide (HB8.out.trans (BW.out.mono HB8.out.size))
            clear x_0 x_1 x_2 x_3 x_4 x_5 g_0 g_1 g_2 g_3 u3 u5 wr2 wr3 wr4 wr1 n1 n2 O8 HB8
            have hz := HAR.out
            have wa : IntKind.i64.wrap ((N : Int) + (K : Int)) = (q2 : Int) := by rw [IntKind.wrap_i64]; have := HQ.out; omega
            have wb : IntKind.i64.wrap ((q2 : Int) + (P : Int)) = (q3 : Int) := by rw [IntKind.wrap_i64]; have := HQ.out; omega
            clear hz
            by_cases hik : i < k
            · have hik' : (i : Int) < (k : Int) := by omega
              obtain ⟨g, cap, hv, hg1, hg2, hgc⟩ := ownD_some O9.out (by omega)
              simp only [Value.slice.injEq] at hv
              obtain ⟨rfl, _, rfl⟩ := hv
              have hip : i < PS.length := by rw [← HK.out]; exact hik
              obtain ⟨c0, c1⟩ := cellsP_at PS i hip
              have cB := (O9.out.cellAt (i * 2 + 1) (by omega)).trans c1
              have FF := FL.out i hip
              unfold fldW at FF
              rw [show N + K + P = q3 by have := HQ.out; omega, show N + K = q2 by have := HQ.out; omega] at FF
              have hq23 : q2 ≤ q3 := by have := HQ.out; omega
              obtain ⟨fo, hfo⟩ : ∃ fo, fo = (pcN PS i).field := ⟨_, rfl⟩
              rw [← hfo] at cB FF
              clear hfo c0 c1 hip
              have tm : Int.tmod (i : Int) 2 = (i : Int) % 2 := Int.tmod_eq_emod_of_nonneg (by omega)
              by_cases m1 : (i : Int) % 2 = 1
              · have m2 : ((i : Int) % 2 == 1) = true := by rw [m1]; rfl
                have m3 : i % 2 = 1 := by omega
                rw [m1] at tm
                by_cases a1 : q2 ≤ i
                · have a1' : (q2 : Int) ≤ (i : Int) := by omega
                  by_cases a2 : q3 ≤ i
                  · have a2' : (q3 : Int) ≤ (i : Int) := by omega
                    rw [if_pos a2] at FF
                    clear m1 m2 m3 a1 a2
                    subst FF
                    go_wp2
                    exact ⟨⟨i + 1, by omega, by go_num, BW⟩, by simp [intOf]; omega⟩
                  · have a2' : ¬ (q3 : Int) ≤ (i : Int) := by omega
                    rw [if_neg a2, if_pos a1] at FF
                    clear m1 m2 m3 a1 a2
                    subst FF
                    go_wp2
                    exact ⟨⟨i + 1, by omega, by go_num, BW⟩, by simp [intOf]; omega⟩
                · have a1' : ¬ (q2 : Int) ≤ (i : Int) := by omega
                  have a2' : ¬ (q3 : Int) ≤ (i : Int) := by omega
                  rw [if_neg (by omega), if_neg a1, if_pos m3] at FF
                  clear m1 m2 m3 a1
                  subst FF
                  go_wp2
                  exact ⟨⟨i + 1, by omega, by go_num, BW⟩, by simp [intOf]; omega⟩
              · have m2 : (i : Int) % 2 = 0 := by omega
                have m3 : ¬ i % 2 = 1 := by omega
                rw [m2] at tm
                by_cases a1 : q2 ≤ i
                · have a1' : (q2 : Int) ≤ (i : Int) := by omega
                  by_cases a2 : q3 ≤ i
                  · have a2' : (q3 : Int) ≤ (i : Int) := by omega
                    rw [if_pos a2] at FF
                    clear m1 m2 m3 a1 a2
                    subst FF
                    go_wp2
                    exact ⟨⟨i + 1, by omega, by go_num, BW⟩, by simp [intOf]; omega⟩
                  · have a2' : ¬ (q3 : Int) ≤ (i : Int) := by omega
                    rw [if_neg a2, if_pos a1] at FF
                    clear m1 m2 m3 a1 a2
                    subst FF
                    go_wp2
                    exact ⟨⟨i + 1, by omega, by go_num, BW⟩, by simp [intOf]; omega⟩
                · have a1' : ¬ (q2 : Int) ≤ (i : Int) := by omega
                  have a2' : ¬ (q3 : Int) ≤ (i : Int) := by omega
                  rw [if_neg (by omega), if_neg a1, if_neg m3] at FF
                  clear m1 m2 m3 a1
                  subst FF
                  go_wp2
                  exact ⟨⟨i + 1, by omega, by go_num, BW⟩, by simp [intOf]; omega⟩
            · obtain rfl : i = k := by omega
              have hik' : ¬ (i : Int) < (i : Int) := by omega
              clear O9 FL hik
              go_wp2
              go_ret
              exact ⟨rfl, HBf.out⟩
    · have hk1 := PO.out hmay hc
      have hc' : (c == 0) = false := beq_eq_false_iff_ne.2 hc
      have HM := hide (rmayS_T c n ti tf x cm w4 hmay)
      clear PF PN PO
      subst hk1
      go_wp2_with fail
      refine HM.out.mono ?_
      rintro e w5 ⟨rfl, hb5⟩
      have HB5 := hide (HB4.out.trans (hb5.mono HB4.out.size))
      clear hb5 HM
      go_wp2
      go_ret
      exact ⟨rfl, HB5.out⟩
  · have hk0 := PN.out hmay
    have HM := hide (rmayS_F c n ti tf x cm w3 (by omega) (by omega) hmay)
    clear PF PN PO
    subst hk0
    go_wp2_with fail
    refine HM.out.mono ?_
    rintro e w4 ⟨rfl, hb4⟩
    have HB4 := hide (HB3.out.trans (hb4.mono HB3.out.size))
    have BX4 := Blk.on BX3 hb4
    clear hb4 HM x_0 x_1 x_2 x_3 x_4 x_5
    obtain ⟨x_0, x_1, x_2, x_3, x_4, x_5⟩ := shown6 BX4.out
    have HM := hide (rmayS_F c n ti tf x cm w4 (by omega) (by omega) hmay)
    go_wp2_with fail
    refine HM.out.mono ?_
    rintro e w5 ⟨rfl, hb5⟩
    have HB5 := hide (HB4.out.trans (hb5.mono HB4.out.size))
    clear hb5 HM
    go_wp2
    go_ret
    exact ⟨rfl, HB5.out⟩

end Go.Proofs.YtionbkmbhhlmjaaGreatDoor
