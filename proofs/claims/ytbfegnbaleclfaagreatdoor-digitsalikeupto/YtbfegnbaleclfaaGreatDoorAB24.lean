/-
  DigitsSizes answers true, whatever it is handed: the law's walk.
  What the laws' of answers: the texts of one field's pieces, one behind the other; how many they are.
  Plain symbols: what the pieces of one field are, one behind the other; which field stands where.
  Other symbols, none of them empty: piece by piece the same, but for the texts.
-/
import Derived.Test.YtbfegnbaleclfaaGreatDoorAB23
import Derived.Test.YtbfegnbaleclfaaGreatDoorAB16
import Derived.Test.YtbfegnbaleclfaaGreatDoorAB15
namespace Go.Proofs.YtbfegnbaleclfaaGreatDoor
open Go.RowKit

theorem lat_le (q : Nat) : (lat.dig q).size ≤ 1048576 := by
  have hq : q = 0 ∨ q = 1 ∨ q = 2 ∨ q = 3 ∨ q = 4 ∨ q = 5 ∨ q = 6 ∨ q = 7 ∨ q = 8 ∨ 9 ≤ q := by omega
  rcases hq with rfl | rfl | rfl | rfl | rfl | rfl | rfl | rfl | rfl | hq
  case inr.inr.inr.inr.inr.inr.inr.inr.inr =>
    obtain ⟨k, rfl⟩ : ∃ k, q = k + 9 := ⟨q - 9, by omega⟩
    exact (by decide : (⟨#[57]⟩ : ByteArray).size ≤ 1048576)
  all_goals decide

end Go.Proofs.YtbfegnbaleclfaaGreatDoor

namespace Go.Proofs.YtbfegnbaleclfaaGreatDoor
open Go.RowKit

def catF (f : Int) : List Pc → List UInt8
  | [] => []
  | p :: l => if p.field = f then bys p.text ++ catF f l else catF f l
def cntF (f : Int) : List Pc → Nat
  | [] => 0
  | p :: l => if p.field = f then cntF f l + 1 else cntF f l
theorem catF_app (f : Int) : ∀ a b : List Pc, catF f (a ++ b) = catF f a ++ catF f b
  | [], b => rfl
  | p :: a, b => by
    rw [List.cons_append, catF, catF, catF_app f a b]
    split
    · rw [List.append_assoc]
    · rfl
theorem cntF_app (f : Int) : ∀ a b : List Pc, cntF f (a ++ b) = cntF f a + cntF f b
  | [], b => by simp [cntF]
  | p :: a, b => by
    rw [List.cons_append, cntF, cntF, cntF_app f a b]
    split <;> omega
set_option maxRecDepth 100000 in
set_option maxHeartbeats 4000000 in
theorem ofL_any {w : World} {B : Nat} {v : Value} (f : Int) (ps : List Pc) (ho : w.ownsRow B 36 2 v ps.length (cellsP ps)) (hl : ps.length ≤ 10000) (hc : (catF f ps).length ≤ 100000000000) :
    Calls Tryz.prog 6 #[v, .int .i64 f] w fun e w' => e = .returned (.tuple #[.string (mkP (catF f ps)), .int .i64 (cntF f ps : Int)]) ∧ Below w.heap.size w w' := by
  obtain ⟨i0, hi, hz0, hz1, hz2⟩ := info_parts Tryz.infoBz
  obtain ⟨uo, uc, rfl⟩ := ownD_slice ho
  obtain ⟨k, hk⟩ : ∃ k, k = ps.length := ⟨_, rfl⟩
  obtain ⟨TT, hTT⟩ : ∃ TT, TT = catF f ps := ⟨_, rfl⟩
  obtain ⟨CC, hCC⟩ : ∃ CC, CC = cntF f ps := ⟨_, rfl⟩
  rw [← hk] at ho hl
  rw [← hTT] at hc
  rw [← hk, ← hTT, ← hCC]
  have OP := hide ho
  have HK := hide hk
  have T0 : Hid (catF f (ps.drop 0) = TT ∧ cntF f (ps.drop 0) = CC) := hide (by rw [List.drop_zero, hTT, hCC]; exact ⟨rfl, rfl⟩)
  obtain ⟨W2, hW2⟩ : ∃ W2, W2 = w.alloc (.cells #[] 5) := ⟨_, rfl⟩
  have B2 : Hid (Below w.heap.size w W2) := hide (by rw [hW2]; exact (Below.refl _ _).alloc (Nat.le_refl _) _)
  have O2 : Hid (Ob w.heap.size W2 (.slice (some ⟨w.heap.size, 0, none⟩) 0 0) (([] : List UInt8).map UInt8.toNat)) := hide (by
    rw [hW2]
    exact ⟨w.heap.size, 0, #[], (0, 0), rfl, Nat.le_refl _, heap_alloc_new _ _, .inl rfl, Nat.le_refl _, rfl, rfl⟩)
  have HW2 := hide hW2.symm
  clear hW2 ho hk hTT hCC
  go_enter Tryz.func6, Tryz.ntmps6
  go_wp2_with (simp only [HW2.out])
  go_loopw [6, 7, 8] (fun x m q wr => ∃ (i c : Nat) (L : List UInt8), i ≤ k ∧ c ≤ i ∧ m = .int .i64 (c : Int) ∧ q = .int .i64 (i : Int) ∧ Hid (L ++ catF f (ps.drop i) = TT ∧ c + cntF f (ps.drop i) = CC) ∧ Hid (Ob w.heap.size wr x (L.map UInt8.toNat)) ∧ Hid (Below w.heap.size w wr)) (fun _ _ q _ => k - (intOf q).toNat)
  case atStart => exact ⟨0, 0, [], Nat.zero_le _, Nat.le_refl _, rfl, rfl, hide ⟨by rw [List.nil_append]; exact T0.out.1, by rw [Nat.zero_add]; exact T0.out.2⟩, O2, B2⟩
  case round =>
    obtain ⟨i, c, L, hi', hci, rfl, rfl, HL, OB, BB⟩ := hrel
    clear T0 O2 B2 HW2
    have O6 := hide (ownD_below OP.out BB.out)
    by_cases hik : i < k
    · have hik' : (i : Int) < (k : Int) := by omega
      obtain ⟨g, cap, hv, hg1, hg2, hgc⟩ := ownD_some O6.out (by omega)
      simp only [Value.slice.injEq] at hv
      obtain ⟨rfl, _, rfl⟩ := hv
      have hip : i < ps.length := by rw [← HK.out]; exact hik
      obtain ⟨q0, q1⟩ := cellsP_at ps i hip
      have cA := (O6.out.cellAt (i * 2) (by omega)).trans q0
      have cB := (O6.out.cellAt (i * 2 + 1) (by omega)).trans q1
      have ST : Hid (catF f (ps.drop i) = (if (pcN ps i).field = f then bys (pcN ps i).text ++ catF f (ps.drop (i + 1)) else catF f (ps.drop (i + 1))) ∧ cntF f (ps.drop i) = if (pcN ps i).field = f then cntF f (ps.drop (i + 1)) + 1 else cntF f (ps.drop (i + 1))) := hide (by rw [pcN_drop hip]; exact ⟨rfl, rfl⟩)
      obtain ⟨t0, ht0⟩ : ∃ t0, t0 = (pcN ps i).text := ⟨_, rfl⟩
      obtain ⟨f0, hf0⟩ : ∃ f0, f0 = (pcN ps i).field := ⟨_, rfl⟩
      rw [← ht0] at cA ST
      rw [← hf0] at cB ST
      clear ht0 hf0 q0 q1 hip OP
      by_cases hf2 : f0 = f
      · subst hf2
        rw [if_pos rfl, if_pos rfl] at ST
        have HL2 : Hid ((L ++ bys t0) ++ catF f0 (ps.drop (i + 1)) = TT ∧ (c + 1) + cntF f0 (ps.drop (i + 1)) = CC) := hide ⟨by rw [← HL.out.1, ST.out.1, List.append_assoc], by rw [← HL.out.2, ST.out.2]; omega⟩
        have LN : Hid (L.length + t0.size ≤ 100000000000) := hide (by
          have q := HL2.out.1
          have q2 := congrArg List.length q
          rw [List.length_append, List.length_append, bys_len] at q2
          omega)
        have BASE : Hid (w.heap.size ≤ wr.heap.size) := hide BB.out.size
        clear HL ST
        go_wp2_with (at_builtin; refine appendS_ob _ rfl _ _ 40 9 rfl i0 Tryz.underlying40 Tryz.underlying9 hi hz0 hz1 hz2 _ _ rfl OB.out t0 rfl (by rw [List.length_map]; exact LN.out) BASE.out ?_; intro v4 w4 hob hgr)
        have BB4 := hide (BB.out.grown hgr BB.out.size (fun j hj => (Ob.lt OB.out j hj).1))
        have OB4 : Hid (Ob w.heap.size w4 v4 ((L ++ bys t0).map UInt8.toNat)) := hide (by rw [List.map_append]; exact hob)
        exact ⟨⟨i + 1, c + 1, _, by omega, by omega, by go_num, by go_num, HL2, OB4, BB4⟩, by simp [intOf]; omega⟩
      · rw [if_neg hf2, if_neg hf2] at ST
        have hf2' : (f0 == f) = false := beq_eq_false_iff_ne.2 hf2
        have HL2 : Hid (L ++ catF f (ps.drop (i + 1)) = TT ∧ c + cntF f (ps.drop (i + 1)) = CC) := hide ⟨by rw [← HL.out.1, ST.out.1], by rw [← HL.out.2, ST.out.2]⟩
        clear HL ST
        go_wp2
        exact ⟨⟨i + 1, c, L, by omega, by omega, rfl, by go_num, HL2, OB, BB⟩, by simp [intOf]; omega⟩
    · obtain rfl : i = k := by omega
      have hik' : ¬ (i : Int) < (i : Int) := by omega
      have EL : L = TT ∧ c = CC := by
        obtain ⟨q1, q2⟩ := HL.out
        rw [HK.out, List.drop_length] at q1 q2
        simp only [catF, cntF, List.append_nil, Nat.add_zero] at q1 q2
        exact ⟨q1, q2⟩
      obtain ⟨rfl, rfl⟩ := EL
      have CV := convB_ob OB.out
      clear HL O6 OP hi' hik
      go_wp2
      go_ret2
      exact ⟨rfl, BB.out⟩

end Go.Proofs.YtbfegnbaleclfaaGreatDoor

namespace Go.Proofs.YtbfegnbaleclfaaGreatDoor

theorem one_pos {t : ByteArray} (f : Int) (h : 0 < t.size) : oneP t f = [⟨t, f⟩] := by unfold oneP; rw [if_neg (by omega)]
theorem intT_cons {ds : List UInt8} {a : Nat} (t : List Nat) (hd : DigB ds) (h1 : 0 < a) (h2 : a ≤ ds.length) : intT lat (a :: t) ds = ⟨lat.grp, 3⟩ :: ⟨mkP (ds.take a), 2⟩ :: intT lat t (ds.drop a) := by
  rw [intT, lat_wr (digB_takeD hd a), one_pos 3 (by decide), one_pos 2 (by rw [mkP_size, List.length_take]; omega)]
  rfl
theorem intP_cons {ds : List UInt8} {a : Nat} (t : List Nat) (hd : DigB ds) (h1 : 0 < a) (h2 : a ≤ ds.length) : intP lat (a :: t) ds = ⟨mkP (ds.take a), 2⟩ :: intT lat t (ds.drop a) := by
  rw [intP, lat_wr (digB_takeD hd a), one_pos 2 (by rw [mkP_size, List.length_take]; omega)]
  rfl

end Go.Proofs.YtbfegnbaleclfaaGreatDoor

namespace Go.Proofs.YtbfegnbaleclfaaGreatDoor

structure NeS (s : Sy) : Prop where
  dg : ∀ q, 0 < (s.dig q).size
  de : 0 < s.dec.size
  gr : 0 < s.grp.size
  nf : 0 < s.inf.size
  nn : 0 < s.nan.size

def trP (s : Sy) (q : Pc) : Pc := ⟨if q.field = 3 then s.grp else if q.field = 4 then s.dec else mkP (wrL s (bys q.text)), q.field⟩
theorem wr_pos {s : Sy} (h : ∀ q, 0 < (s.dig q).size) : ∀ {ds : List UInt8}, ds ≠ [] → 0 < (wrL s ds).length
  | [], h0 => absurd rfl h0
  | c :: ds, _ => by
    rw [wrL_cons, List.length_append, bys_len]
    have := h (c.toNat - 48)
    unfold digT
    omega

def DgP (n : Nat) (l : List Pc) : Prop := ∀ q ∈ l, (q.field = 2 ∨ q.field = 5) → DigB (bys q.text) ∧ (bys q.text).length ≤ n
theorem DgP.app {n : Nat} {a b : List Pc} (h : DgP n a) (g : DgP n b) : DgP n (a ++ b) := fun q hq => by
  rcases List.mem_append.1 hq with h1 | h1
  · exact h q h1
  · exact g q h1

theorem tr_T {s : Sy} (hs : NeS s) (n : Nat) : ∀ (L : List Nat) (ds : List UInt8), DigB ds → ds.length ≤ n → (∀ z ∈ L, 0 < z) → L.sum = ds.length → intT s L ds = (intT lat L ds).map (trP s) ∧ DgP n (intT lat L ds)
  | [], ds, _, _, _, _ => ⟨rfl, fun q hq => by simp [intT] at hq⟩
  | a :: t, ds, hd, hn, hp, hl => by
    rw [List.sum_cons] at hl
    have ha := hp a (by simp)
    obtain ⟨I, F⟩ := tr_T hs n t (ds.drop a) (digB_dropD hd a) (by rw [List.length_drop]; omega) (fun z hz => hp z (by simp [hz])) (by rw [List.length_drop]; omega)
    have hne : ds.take a ≠ [] := fun e => by have := congrArg List.length e; rw [List.length_take, List.length_nil] at this; omega
    constructor
    · rw [intT_cons t hd ha (by omega), intT, one_pos 3 hs.gr, one_pos 2 (by rw [mkP_size]; exact wr_pos hs.dg hne), I]
      rfl
    · rw [intT_cons t hd ha (by omega)]
      intro q hq hf
      rcases List.mem_cons.1 hq with h1 | h1
      · subst h1
        rcases hf with h | h
        · exact absurd (show (3 : Int) = 2 from h) (by decide)
        · exact absurd (show (3 : Int) = 5 from h) (by decide)
      · rcases List.mem_cons.1 h1 with h2 | h2
        · subst h2
          exact ⟨digB_takeD hd a, by rw [bys_mkP, List.length_take]; omega⟩
        · exact F q h2 hf

theorem tr_P {s : Sy} (hs : NeS s) (n : Nat) (L : List Nat) (ds : List UInt8) (hd : DigB ds) (hn : ds.length ≤ n) (hp : ∀ z ∈ L, 0 < z) (hl : L.sum = ds.length) : intP s L ds = (intP lat L ds).map (trP s) ∧ DgP n (intP lat L ds) := by
  cases L with
  | nil => exact ⟨rfl, fun q hq => by simp [intP] at hq⟩
  | cons a t =>
    rw [List.sum_cons] at hl
    have ha := hp a (by simp)
    obtain ⟨I, F⟩ := tr_T hs n t (ds.drop a) (digB_dropD hd a) (by rw [List.length_drop]; omega) (fun z hz => hp z (by simp [hz])) (by rw [List.length_drop]; omega)
    have hne : ds.take a ≠ [] := fun e => by have := congrArg List.length e; rw [List.length_take, List.length_nil] at this; omega
    constructor
    · rw [intP_cons t hd ha (by omega), intP, one_pos 2 (by rw [mkP_size]; exact wr_pos hs.dg hne), I]
      rfl
    · rw [intP_cons t hd ha (by omega)]
      intro q hq hf
      rcases List.mem_cons.1 hq with h2 | h2
      · subst h2
        exact ⟨digB_takeD hd a, by rw [bys_mkP, List.length_take]; omega⟩
      · exact F q h2 hf

theorem tr_F {s : Sy} (hs : NeS s) (n : Nat) (y : ShownT) (al : Bool) (hf : DigB y.frac) (hn : y.frac.length ≤ n) : fraP s y al = (fraP lat y al).map (trP s) ∧ DgP n (fraP lat y al) := by
  have E1 : ∀ t : Sy, NeS t → fraP t y al = (if y.frac ≠ [] ∨ al = true then [⟨t.dec, 4⟩] else []) ++ (if y.frac = [] then [] else [⟨mkP (wrL t y.frac), 5⟩]) := by
    intro t ht
    unfold fraP
    rw [one_pos 4 ht.de]
    congr 1
    by_cases h : y.frac = []
    · rw [h]; rfl
    · rw [if_neg h, one_pos 5 (by rw [mkP_size]; exact wr_pos ht.dg h)]
  have hl : NeS lat := ⟨fun q => by
    have hq : q = 0 ∨ q = 1 ∨ q = 2 ∨ q = 3 ∨ q = 4 ∨ q = 5 ∨ q = 6 ∨ q = 7 ∨ q = 8 ∨ 9 ≤ q := by omega
    rcases hq with rfl | rfl | rfl | rfl | rfl | rfl | rfl | rfl | rfl | hq
    all_goals first | decide | (obtain ⟨k, rfl⟩ : ∃ k, q = k + 9 := ⟨q - 9, by omega⟩; exact (by decide : 0 < lat.d9.size)), by decide, by decide, by decide, by decide⟩
  rw [E1 s hs, E1 lat hl, lat_wr hf]
  constructor
  · rw [List.map_append]
    congr 1
    · split <;> rfl
    · split
      · rfl
      · simp only [List.map_cons, List.map_nil, trP, bys_mkP]
        rfl
  · intro q hq hv
    rcases List.mem_append.1 hq with h1 | h1
    · split at h1
      · have : q = ⟨lat.dec, 4⟩ := by simpa using h1
        subst this
        rcases hv with h | h
        · exact absurd (show (4 : Int) = 2 from h) (by decide)
        · exact absurd (show (4 : Int) = 5 from h) (by decide)
      · simp at h1
    · split at h1
      · simp at h1
      · have : q = ⟨mkP y.frac, 5⟩ := by simpa using h1
        subst this
        exact ⟨hf, hn⟩

theorem mayS_dig {y : ShownT} (h : MayS y) : (DigB y.int ∧ y.int.length ≤ 4096) ∧ (DigB y.frac ∧ y.frac.length ≤ 4096) := by
  obtain ⟨_, ⟨_, _, ⟨q1, q2⟩, q3, q4⟩ | ⟨_, h2, h3⟩ | ⟨_, h2, h3, _⟩⟩ := h
  · exact ⟨⟨q2, q1⟩, ⟨q4, q3⟩⟩
  · rw [h2, h3]
    exact ⟨⟨fun k hk => absurd hk (by simp), by simp⟩, ⟨fun k hk => absurd hk (by simp), by simp⟩⟩
  · rw [h2, h3]
    exact ⟨⟨fun k hk => absurd hk (by simp), by simp⟩, ⟨fun k hk => absurd hk (by simp), by simp⟩⟩

structure AlT (A B : List Pc) (c : Int) (s : Sy) : Prop where
  ln : A.length = B.length
  fl : ∀ i, i < A.length → (pcN A i).field = (pcN B i).field
  wr : c = 0 → ∀ i, i < A.length → ((pcN A i).field = 2 ∨ (pcN A i).field = 5) → DigB (bys (pcN B i).text) ∧ (pcN B i).text.size ≤ 4096 ∧ (pcN A i).text = mkP (wrL s (bys (pcN B i).text))

theorem pcN_map (f : Pc → Pc) (l : List Pc) {i : Nat} (h : i < l.length) : pcN (l.map f) i = f (pcN l i) := by
  have h1 := pcN_some (l := l.map f) (i := i) (by simpa using h)
  have h2 := pcN_some h
  rw [List.getElem?_map, h2] at h1
  exact (Option.some.inj h1).symm

theorem al_all {s : Sy} (hs : NeS s) (y : ShownT) (a b c : Int) (al : Bool) : AlT (pcsP y s a b c al) (pcsP y lat a b c al) y.cls s := by
  by_cases h : MayS y
  · rcases mayS_cls h with hc | hc | hc
    · rw [pcsP_fin s a b c al h hc, pcsP_fin lat a b c al h hc]
      obtain ⟨⟨d1, d2⟩, d3, d4⟩ := mayS_dig h
      obtain ⟨e1, g1⟩ := tr_P hs 4096 (szG y.int.length a b c) y.int d1 d2 (szG_pos _ _ _ _) (szG_sum _ _ _ _)
      obtain ⟨e2, g2⟩ := tr_F hs 4096 y al d3 d4
      rw [e1, e2, ← List.map_append]
      have g3 := g1.app g2
      generalize intP lat (szG y.int.length a b c) y.int ++ fraP lat y al = B at *
      refine ⟨by simp, fun i hi => ?_, fun _ i hi hf => ?_⟩
      · rw [List.length_map] at hi
        rw [pcN_map _ _ hi]; rfl
      · rw [List.length_map] at hi
        rw [pcN_map _ _ hi] at hf ⊢
        have hf' : (pcN B i).field = 2 ∨ (pcN B i).field = 5 := hf
        obtain ⟨k1, k2⟩ := g3 (pcN B i) (List.mem_of_getElem? (pcN_some hi)) hf'
        refine ⟨k1, by rw [← bys_len]; exact k2, ?_⟩
        unfold trP
        rw [if_neg (by omega), if_neg (by omega)]
    · rw [pcsP_inf s a b c al h hc, pcsP_inf lat a b c al h hc, one_pos 2 hs.nf, one_pos 2 (by decide)]
      refine ⟨rfl, fun i hi => ?_, fun q => by omega⟩
      obtain rfl : i = 0 := by simp at hi; omega
      rfl
    · rw [pcsP_nan s a b c al h hc, pcsP_nan lat a b c al h hc, one_pos 2 hs.nn, one_pos 2 (by decide)]
      refine ⟨rfl, fun i hi => ?_, fun q => by omega⟩
      obtain rfl : i = 0 := by simp at hi; omega
      rfl
  · rw [pcsP_no s a b c al h, pcsP_no lat a b c al h]
    exact ⟨rfl, fun i hi => absurd hi (by simp), fun _ i hi => absurd hi (by simp)⟩

theorem cat_one (f g : Int) (t : ByteArray) : (catF f (oneP t g)).length ≤ t.size ∧ cntF f (oneP t g) ≤ 1 := by
  unfold oneP
  split
  · exact ⟨Nat.zero_le _, Nat.zero_le _⟩
  · simp only [catF, cntF]
    split
    · rw [List.append_nil, bys_len]; exact ⟨Nat.le_refl _, Nat.le_refl _⟩
    · exact ⟨Nat.zero_le _, Nat.zero_le _⟩
theorem cnt_other {f g : Int} (t : ByteArray) (h : g ≠ f) : (catF f (oneP t g)).length = 0 ∧ cntF f (oneP t g) = 0 := by
  unfold oneP
  split
  · exact ⟨rfl, rfl⟩
  · simp [catF, cntF, if_neg h]
theorem one_int (y : ShownT) (s : Sy) (hs : ∀ q, (s.dig q).size ≤ 1048576) (hi : s.inf.size ≤ 1048576) (hn : s.nan.size ≤ 1048576) (b c : Int) (al : Bool) : cntF 2 (pcsP y s 0 b c al) ≤ 1 ∧ (catF 2 (pcsP y s 0 b c al)).length ≤ 100000000000 := by
  by_cases h : MayS y
  · rcases mayS_cls h with hc | hc | hc
    · rw [pcsP_fin s 0 b c al h hc, cntF_app, catF_app, List.length_append]
      have e0 : cntF 2 (fraP s y al) = 0 ∧ (catF 2 (fraP s y al)).length = 0 := by
        unfold fraP
        rw [cntF_app, catF_app, List.length_append]
        obtain ⟨q1, q2⟩ := cnt_other (f := 2) (g := 5) (mkP (wrL s y.frac)) (by decide)
        rw [q1, q2]
        split
        · obtain ⟨r1, r2⟩ := cnt_other (f := 2) (g := 4) s.dec (by decide)
          rw [r1, r2]
          exact ⟨rfl, rfl⟩
        · exact ⟨rfl, rfl⟩
      have eP : intP s (szG y.int.length 0 b c) y.int = oneP (mkP (wrL s y.int)) 2 := by
        unfold szG
        by_cases h0 : y.int.length = 0
        · rw [if_pos h0, List.eq_nil_of_length_eq_zero h0]; rfl
        · rw [if_neg h0, if_neg (fun g => by have := g.1; omega)]
          simp only [intP, intT, List.append_nil, List.take_length]
      rw [e0.1, e0.2, eP]
      obtain ⟨k1, k2⟩ := cat_one 2 2 (mkP (wrL s y.int))
      rw [mkP_size] at k1
      have h2 := wrL_le s 1048576 hs y.int
      have h4 : y.int.length * 1048576 ≤ 4096 * 1048576 := Nat.mul_le_mul_right _ (mayS_dig h).1.2
      exact ⟨by omega, by omega⟩
    · rw [pcsP_inf s 0 b c al h hc]
      obtain ⟨k1, k2⟩ := cat_one 2 2 s.inf
      exact ⟨by omega, by omega⟩
    · rw [pcsP_nan s 0 b c al h hc]
      obtain ⟨k1, k2⟩ := cat_one 2 2 s.nan
      exact ⟨by omega, by omega⟩
  · rw [pcsP_no s 0 b c al h]
    exact ⟨Nat.zero_le _, Nat.zero_le _⟩

end Go.Proofs.YtbfegnbaleclfaaGreatDoor
