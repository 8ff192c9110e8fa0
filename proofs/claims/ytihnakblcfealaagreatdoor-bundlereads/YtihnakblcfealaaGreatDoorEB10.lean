/-
  What is read, laid again, is the bytes that were read.
  What bundle's reader reads: texts, places of texts, parents, entries.
  What bundle's reader reads as an entry.
  Rows that are made and filled, cell by cell; what bundle's row reads as texts and as entries.
  What bundle's reader reads as a table; what row reads as texts.
-/
import Derived.Test.YtihnakblcfealaaGreatDoorEB9
import Derived.Test.YtihnakblcfealaaGreatDoorEB5
namespace Go.Proofs.YtihnakblcfealaaGreatDoor
open Go.RowKit

theorem mkByB (t : ByteArray) : (⟨(bys t).toArray⟩ : ByteArray) = t := by
  unfold bys
  cases t
  simp
theorem bys_injB {f g : ByteArray} (h : bys f = bys g) : f = g := (mkByB f).symm.trans ((congrArg (fun l : List UInt8 => (⟨l.toArray⟩ : ByteArray)) h).trans (mkByB g))
theorem bys_cutB (t : ByteArray) (i j : Nat) : bys (t.extract i (i + j)) = ((bys t).drop i).take j := by
  unfold bys
  rw [ByteArray.data_extract, Array.toList_extract]
  simp only [List.extract, Nat.add_sub_cancel_left]

theorem take_next (l : List UInt8) (p k : Nat) (h : p < l.length) : (l.drop p).take (k + 1) = UInt8.ofNat (byt l p) :: (l.drop (p + 1)).take k := by
  rw [List.drop_eq_getElem_cons h, List.take_succ_cons]
  congr 1
  unfold byt
  simp [h]

theorem bN_low (a b : Nat) (hb : b < 256) : bN ((a * 256 + b : Nat) : Int) 0 = UInt8.ofNat b := by
  unfold bN
  congr 1
  rw [show (2 : Int) ^ (8 * 0) = 1 by decide, Int.ediv_one]
  omega
theorem bN_up (a b k : Nat) (hb : b < 256) : bN ((a * 256 + b : Nat) : Int) (k + 1) = bN (a : Int) k := by
  have h := bN_shift ((a * 256 + b : Nat) : Int) 1 k
  rw [Nat.add_comm 1 k] at h
  rw [← h, show (2 : Int) ^ (8 * 1) = 256 by decide]
  congr 1
  omega

theorem beA_one (l : List UInt8) (p : Nat) : beA l p 1 = 0 * 256 + byt l p := rfl
theorem beA_two (l : List UInt8) (p : Nat) : beA l p 2 = beA l p 1 * 256 + byt l (p + 1) := rfl
theorem beA_three (l : List UInt8) (p : Nat) : beA l p 3 = beA l p 2 * 256 + byt l (p + 2) := rfl
theorem beA_four (l : List UInt8) (p : Nat) : beA l p 4 = beA l p 3 * 256 + byt l (p + 3) := rfl

theorem again1 (s : ByteArray) (p : Nat) (h : p + 1 ≤ s.size) : s.extract p (p + 1) = ⟨#[bN (beA (bys s) p 1 : Int) 0]⟩ := by
  apply bys_injB
  have hl := bys_len s
  rw [bys_cutB, take_next _ _ _ (by omega), List.take_zero, beA_one, bN_low _ _ (byt_lt _ _)]
  rfl
theorem again2 (s : ByteArray) (p : Nat) (h : p + 2 ≤ s.size) : s.extract p (p + 2) = put2 (beA (bys s) p 2 : Int) := by
  apply bys_injB
  have hl := bys_len s
  rw [bys_cutB, take_next _ _ _ (by omega), take_next _ _ _ (by omega), List.take_zero]
  unfold put2
  rw [beA_two, bN_low _ _ (byt_lt _ _), bN_up _ _ _ (byt_lt _ _), beA_one, bN_low _ _ (byt_lt _ _)]
  rfl
theorem again4 (s : ByteArray) (p : Nat) (h : p + 4 ≤ s.size) : s.extract p (p + 4) = put4 (beA (bys s) p 4 : Int) := by
  apply bys_injB
  have hl := bys_len s
  rw [bys_cutB, take_next _ _ _ (by omega), take_next _ _ _ (by omega), take_next _ _ _ (by omega), take_next _ _ _ (by omega), List.take_zero]
  unfold put4
  rw [beA_four, bN_low _ _ (byt_lt _ _), bN_up _ _ _ (byt_lt _ _), bN_up _ _ _ (byt_lt _ _), bN_up _ _ _ (byt_lt _ _), beA_three, bN_low _ _ (byt_lt _ _), bN_up _ _ _ (byt_lt _ _), bN_up _ _ _ (byt_lt _ _), beA_two, bN_low _ _ (byt_lt _ _), bN_up _ _ _ (byt_lt _ _), beA_one, bN_low _ _ (byt_lt _ _)]
  rfl

theorem txtF_ok (s : ByteArray) (p : Nat) (m : Int) (h : txtF s p m = 0) : p + 2 + beA (bys s) p 2 ≤ s.size ∧ (beA (bys s) p 2 : Int) ≤ m ∧ (runesL (bys (txtS s p))).isSome = true := by
  unfold txtF at h
  split at h
  · omega
  split at h
  · omega
  split at h
  · omega
  split at h
  · omega
  · rename_i h1
    refine ⟨by omega, by omega, ?_⟩
    unfold txtS
    cases hb : (runesL (bys (s.extract (p + 2) (p + 2 + beA (bys s) p 2)))).isSome with
    | true => rfl
    | false => exact absurd hb h1

theorem getV_val (s : ByteArray) (p e k : Nat) (he : e = 0) (hk : p + k ≤ s.size) : getV s p e k = beA (bys s) p k := by
  unfold getV
  rw [if_pos ⟨he, hk⟩]

theorem getA_le (s : ByteArray) (p e k : Nat) (h : p ≤ s.size) : getA s p e k ≤ s.size := by
  unfold getA
  split <;> omega

theorem tgtA_le (s : ByteArray) (p e : Nat) (m : Int) (h : p ≤ s.size) : tgtA s p e m ≤ s.size := by
  unfold tgtA
  split
  · rename_i he
    exact (txtF_ok s p m he.2).1
  · exact h

end Go.Proofs.YtihnakblcfealaaGreatDoor

namespace Go.Proofs.YtihnakblcfealaaGreatDoor
open Go.RowKit

abbrev St := Nat × Nat
def gV (s : ByteArray) (st : St) (k : Nat) : Nat := getV s st.1 st.2 k
def gS (s : ByteArray) (st : St) (k : Nat) : St := (getA s st.1 st.2 k, getE s st.1 st.2 k)
def xV (s : ByteArray) (st : St) : ByteArray := tgtV s st.1 st.2 1024
def xS (s : ByteArray) (st : St) : St := (tgtA s st.1 st.2 1024, tgtE s st.1 st.2 1024)

structure Rd (w : World) (R D : Nat) (tx : Value) (s : ByteArray) (st : St) : Prop where
  blk : Blk w R #[.pointer (some ⟨D, 0, none⟩), tx] 40
  cur : Cur w D s st.1 st.2
  ne : R ≠ D
  le : st.1 ≤ s.size
  small : s.size ≤ 140737488355328

theorem Rd.below {w w' : World} {R D : Nat} {tx : Value} {s : ByteArray} {st : St} (h : Rd w R D tx s st) (hb : Below w.heap.size w w') : Rd w' R D tx s st := ⟨h.blk.below hb h.blk.lt, h.cur.below hb, h.ne, h.le, h.small⟩
theorem Rd.go {w w' : World} {R D : Nat} {tx : Value} {s : ByteArray} {st : St} (h : Rd w R D tx s st) {st' : St} (hb : But D w w') (hc : Cur w' D s st'.1 st'.2) (hl : st'.1 ≤ s.size) : Rd w' R D tx s st' := ⟨hb.blk h.blk h.ne, hc, h.ne, hl, h.small⟩

theorem gS_le (s : ByteArray) (st : St) (k : Nat) (h : st.1 ≤ s.size) : (gS s st k).1 ≤ s.size := getA_le s st.1 st.2 k h
theorem xS_le (s : ByteArray) (st : St) (h : st.1 ≤ s.size) : (xS s st).1 ≤ s.size := tgtA_le s st.1 st.2 1024 h

section
variable {w : World} {R D : Nat} {tx : Value} {s : ByteArray} {st : St}

theorem rget1 (h : Rd w R D tx s st) : Calls Tryz.prog 23 #[.pointer (some ⟨D, 0, none⟩)] w fun x w' => x = .returned (.int .i64 (gV s st 1 : Int)) ∧ Rd w' R D tx s (gS s st 1) ∧ But D w w' :=
  (Get8_any (by have := h.small; omega) h.le h.cur).mono (fun _ _ q => ⟨q.1, h.go q.2.2 q.2.1 (gS_le s st 1 h.le), q.2.2⟩)
theorem rget2 (h : Rd w R D tx s st) : Calls Tryz.prog 20 #[.pointer (some ⟨D, 0, none⟩)] w fun x w' => x = .returned (.int .i64 (gV s st 2 : Int)) ∧ Rd w' R D tx s (gS s st 2) ∧ But D w w' :=
  (Get16_any (by have := h.small; omega) h.le h.cur).mono (fun _ _ q => ⟨q.1, h.go q.2.2 q.2.1 (gS_le s st 2 h.le), q.2.2⟩)
theorem rget4 (h : Rd w R D tx s st) : Calls Tryz.prog 76 #[.pointer (some ⟨D, 0, none⟩)] w fun x w' => x = .returned (.int .i64 (gV s st 4 : Int)) ∧ Rd w' R D tx s (gS s st 4) ∧ But D w w' :=
  (Get32_any (by have := h.small; omega) h.le h.cur).mono (fun _ _ q => ⟨q.1, h.go q.2.2 q.2.1 (gS_le s st 4 h.le), q.2.2⟩)

set_option maxHeartbeats 1000000 in
theorem rtext (h : Rd w R D tx s st) (hT : U8 w) (hD : OffT D) : Calls Tryz.prog 21 #[.pointer (some ⟨R, 0, none⟩)] w fun x w' => x = .returned (.string (xV s st)) ∧ Rd w' R D tx s (xS s st) ∧ But D w w' := by
  have HC : Hid (Calls Tryz.prog 47 #[.pointer (some ⟨D, 0, none⟩), .int .i64 1024] w fun x w' => x = .returned (.string (xV s st)) ∧ Rd w' R D tx s (xS s st) ∧ But D w w') := hide ((Text_any 1024 h.small h.le h.cur hT hD).mono (fun _ _ q => ⟨q.1, h.go q.2.2 q.2.1 (xS_le s st h.le), q.2.2⟩))
  have c0 := h.blk.cell 0
  generalize xV s st = V at *
  generalize xS s st = st' at *
  clear h
  go_enter Tryz.func21, Tryz.ntmps21
  go_wp2_with fail
  refine HC.out.mono ?_
  rintro x w1 ⟨rfl, h1, h2⟩
  have H1 := hide h1
  have H2 := hide h2
  clear h1 h2 HC
  go_wp2
  go_ret
  exact ⟨rfl, H1.out, H2.out⟩

def TxAt (w : World) (D : Nat) (v : Value) (ps : List ByteArray) : Prop := (ps = [] ∧ ∃ ao cap, v = .slice ao 0 cap) ∨ ∃ g, v = .slice (some ⟨g, 0, none⟩) ps.length ps.length ∧ g ≠ D ∧ Blk w g (ps.map Value.string).toArray 9
theorem TxAt.but {w w' : World} {D : Nat} {v : Value} {ps : List ByteArray} (h : TxAt w D v ps) (hb : But D w w') : TxAt w' D v ps := by
  rcases h with h | ⟨g, h1, h2, h3⟩
  · exact .inl h
  · exact .inr ⟨g, h1, h2, hb.blk h3 h2⟩
theorem TxAt.below {w w' : World} {D : Nat} {v : Value} {ps : List ByteArray} (h : TxAt w D v ps) (hb : Below w.heap.size w w') : TxAt w' D v ps := h.but (.of_below hb)

def txN (ps : List ByteArray) (p : Nat) : ByteArray := ps[p]?.getD ⟨#[]⟩

set_option maxHeartbeats 2000000 in
theorem rtextAt2 {ps : List ByteArray} (h : Rd w R D tx s st) (ht : TxAt w D tx ps) (hp : ps.length ≤ 4096) : Calls Tryz.prog 50 #[.pointer (some ⟨R, 0, none⟩), .func (.func 20) #[.pointer (some ⟨D, 0, none⟩)] #[]] w fun x w' => x = .returned (.string (txN ps (gV s st 2))) ∧ Rd w' R D tx s (gS s st 2) ∧ But D w w' := by
  have HC := hide (rget2 h)
  obtain ⟨V, hV⟩ : ∃ V, V = gV s st 2 := ⟨_, rfl⟩
  rw [← hV] at HC
  rw [← hV]
  have HT := hide ht
  generalize gS s st 2 = st' at *
  clear hV h
  by_cases hlt : V < ps.length
  · obtain ⟨g, rfl, hg, hb⟩ : ∃ g, tx = .slice (some ⟨g, 0, none⟩) ps.length ps.length ∧ g ≠ D ∧ Blk w g (ps.map Value.string).toArray 9 := by
      rcases ht with ⟨h0, _⟩ | h
      · rw [h0] at hlt; simp at hlt
      · exact h
    have cV : Hid (∀ w', But D w w' → w'.cell? ⟨g, V, none⟩ = some (.string (txN ps V))) := hide (fun w' hw => by
      rw [(hw.blk hb hg).cell V]
      simp [txN, hlt])
    obtain ⟨L, hL⟩ : ∃ L, L = ps.length := ⟨_, rfl⟩
    rw [← hL] at hlt hp HC
    rw [← hL]
    have hlt' : ¬ (L : Int) ≤ (V : Int) := by omega
    have hlt2 : (V : Int) < (L : Int) := by omega
    generalize txN ps V = T at *
    clear ht hb HT hL
    go_enter Tryz.func50, Tryz.ntmps50
    go_wp2_with fail
    refine HC.out.mono ?_
    rintro x w1 ⟨rfl, h1, h2⟩
    have c0 := h1.blk.cell 0
    have c1 := h1.blk.cell 1
    have cc := cV.out w1 h2
    have H1 := hide h1
    have H2 := hide h2
    clear h1 h2 HC cV
    go_wp2
    go_ret
    exact ⟨rfl, H1.out, H2.out⟩
  · have e : txN ps V = ⟨#[]⟩ := by unfold txN; rw [List.getElem?_eq_none (by omega)]; rfl
    rw [e]
    obtain ⟨ao, n, cap, rfl, hn⟩ : ∃ ao n cap, tx = .slice ao n cap ∧ n = ps.length := by
      rcases ht with ⟨h0, ao, cap, h1⟩ | ⟨g, h1, _⟩
      · exact ⟨ao, 0, cap, h1, by rw [h0]; rfl⟩
      · exact ⟨_, _, _, h1, rfl⟩
    have hlt' : (n : Int) ≤ (V : Int) := by omega
    have hn2 : n ≤ 4096 := by omega
    clear ht HT hn e hlt
    go_enter Tryz.func50, Tryz.ntmps50
    go_wp2_with fail
    refine HC.out.mono ?_
    rintro x w1 ⟨rfl, h1, h2⟩
    have c0 := h1.blk.cell 0
    have c1 := h1.blk.cell 1
    have H1 := hide h1
    have H2 := hide h2
    clear h1 h2 HC
    go_wp2
    go_ret
    exact ⟨rfl, H1.out, H2.out⟩

set_option maxHeartbeats 2000000 in
theorem rtextAt4 {ps : List ByteArray} (h : Rd w R D tx s st) (ht : TxAt w D tx ps) (hp : ps.length ≤ 4096) : Calls Tryz.prog 50 #[.pointer (some ⟨R, 0, none⟩), .func (.func 76) #[.pointer (some ⟨D, 0, none⟩)] #[]] w fun x w' => x = .returned (.string (txN ps (gV s st 4))) ∧ Rd w' R D tx s (gS s st 4) ∧ But D w w' := by
  have HC := hide (rget4 h)
  obtain ⟨V, hV⟩ : ∃ V, V = gV s st 4 := ⟨_, rfl⟩
  rw [← hV] at HC
  rw [← hV]
  have HT := hide ht
  generalize gS s st 4 = st' at *
  clear hV h
  by_cases hlt : V < ps.length
  · obtain ⟨g, rfl, hg, hb⟩ : ∃ g, tx = .slice (some ⟨g, 0, none⟩) ps.length ps.length ∧ g ≠ D ∧ Blk w g (ps.map Value.string).toArray 9 := by
      rcases ht with ⟨h0, _⟩ | h
      · rw [h0] at hlt; simp at hlt
      · exact h
    have cV : Hid (∀ w', But D w w' → w'.cell? ⟨g, V, none⟩ = some (.string (txN ps V))) := hide (fun w' hw => by
      rw [(hw.blk hb hg).cell V]
      simp [txN, hlt])
    obtain ⟨L, hL⟩ : ∃ L, L = ps.length := ⟨_, rfl⟩
    rw [← hL] at hlt hp HC
    rw [← hL]
    have hlt' : ¬ (L : Int) ≤ (V : Int) := by omega
    have hlt2 : (V : Int) < (L : Int) := by omega
    generalize txN ps V = T at *
    clear ht hb HT hL
    go_enter Tryz.func50, Tryz.ntmps50
    go_wp2_with fail
    refine HC.out.mono ?_
    rintro x w1 ⟨rfl, h1, h2⟩
    have c0 := h1.blk.cell 0
    have c1 := h1.blk.cell 1
    have cc := cV.out w1 h2
    have H1 := hide h1
    have H2 := hide h2
    clear h1 h2 HC cV
    go_wp2
    go_ret
    exact ⟨rfl, H1.out, H2.out⟩
  · have e : txN ps V = ⟨#[]⟩ := by unfold txN; rw [List.getElem?_eq_none (by omega)]; rfl
    rw [e]
    obtain ⟨ao, n, cap, rfl, hn⟩ : ∃ ao n cap, tx = .slice ao n cap ∧ n = ps.length := by
      rcases ht with ⟨h0, ao, cap, h1⟩ | ⟨g, h1, _⟩
      · exact ⟨ao, 0, cap, h1, by rw [h0]; rfl⟩
      · exact ⟨_, _, _, h1, rfl⟩
    have hlt' : (n : Int) ≤ (V : Int) := by omega
    have hn2 : n ≤ 4096 := by omega
    clear ht HT hn e hlt
    go_enter Tryz.func50, Tryz.ntmps50
    go_wp2_with fail
    refine HC.out.mono ?_
    rintro x w1 ⟨rfl, h1, h2⟩
    have c0 := h1.blk.cell 0
    have c1 := h1.blk.cell 1
    have H1 := hide h1
    have H2 := hide h2
    clear h1 h2 HC
    go_wp2
    go_ret
    exact ⟨rfl, H1.out, H2.out⟩

def parV (n : Nat) : Int := if n = 255 then -1 else (n : Int)

set_option maxHeartbeats 1000000 in
theorem rparent (h : Rd w R D tx s st) : Calls Tryz.prog 51 #[.pointer (some ⟨R, 0, none⟩)] w fun x w' => x = .returned (.int .i64 (parV (gV s st 1))) ∧ Rd w' R D tx s (gS s st 1) ∧ But D w w' := by
  have HC := hide (rget1 h)
  have c0 := h.blk.cell 0
  generalize gV s st 1 = V at *
  generalize gS s st 1 = st' at *
  clear h
  by_cases hv : V = 255
  · subst hv
    go_enter Tryz.func51, Tryz.ntmps51
    go_wp2_with fail
    refine HC.out.mono ?_
    rintro x w1 ⟨rfl, h1, h2⟩
    have H1 := hide h1
    have H2 := hide h2
    clear h1 h2 HC
    go_wp2
    go_ret
    exact ⟨rfl, H1.out, H2.out⟩
  · have e : Hid (parV V = (V : Int)) := hide (if_neg hv)
    have hv' : ((V : Int) == 255) = false := beq_eq_false_iff_ne.2 (by omega)
    go_enter Tryz.func51, Tryz.ntmps51
    go_wp2_with fail
    refine HC.out.mono ?_
    rintro x w1 ⟨rfl, h1, h2⟩
    have H1 := hide h1
    have H2 := hide h2
    clear h1 h2 HC
    go_wp2
    go_ret
    exact ⟨by rw [e.out]; rfl, H1.out, H2.out⟩

end

end Go.Proofs.YtihnakblcfealaaGreatDoor

namespace Go.Proofs.YtihnakblcfealaaGreatDoor
open Go.RowKit

def rdE (ps : List ByteArray) (s : ByteArray) (st : St) : Ent × St :=
  (if gV s (gS s st 2) 1 = 1 then ⟨txN ps (gV s st 2), 1, ⟨#[]⟩, (gV s (gS s (gS s st 2) 1) 4 : Int)⟩ else ⟨txN ps (gV s st 2), (gV s (gS s st 2) 1 : Int), txN ps (gV s (gS s (gS s st 2) 1) 4), 0⟩, gS s (gS s (gS s st 2) 1) 4)

theorem results_ent1 {fn : Func} {a : Tmp} (h : fn.results = #[.cell a 33]) (tmps : Array Value) (H : Nat) (x0 x1 x2 x3 : Value) (w : World) (ht : tmps.getD a undef = .pointer (some ⟨H, 0, none⟩)) (hp : Blk w H #[x0, x1, x2, x3] 33) :
    (results fn tmps).run Tryz.prog w = .ok (.agg #[x0, x1, x2, x3]) w := by
  have c0 := hp.cell 0
  have c1 := hp.cell 1
  have c2 := hp.cell 2
  have c3 := hp.cell 3
  simp at c0 c1 c2 c3
  rw [Array.getD_eq_getD_getElem?] at ht
  simp [results, h, ht, go_sem, c0, c1, c2, c3]

theorem Blk.set1of4 {w : World} {b : Nat} {x0 x1 x2 x3 : Value} {t : TypeId} (h : Blk w b #[x0, x1, x2, x3] t) (v : Value) : Blk (w.setCell ⟨b, 1, none⟩ v) b #[x0, v, x2, x3] t := by
  unfold Blk at *
  simp only [World.setCell, Array.getElem?_modify, if_true, h, Option.map_some]
  rfl
theorem Blk.set2of4 {w : World} {b : Nat} {x0 x1 x2 x3 : Value} {t : TypeId} (h : Blk w b #[x0, x1, x2, x3] t) (v : Value) : Blk (w.setCell ⟨b, 2, none⟩ v) b #[x0, x1, v, x3] t := by
  unfold Blk at *
  simp only [World.setCell, Array.getElem?_modify, if_true, h, Option.map_some]
  rfl
theorem Blk.set3of4 {w : World} {b : Nat} {x0 x1 x2 x3 : Value} {t : TypeId} (h : Blk w b #[x0, x1, x2, x3] t) (v : Value) : Blk (w.setCell ⟨b, 3, none⟩ v) b #[x0, x1, x2, v] t := by
  unfold Blk at *
  simp only [World.setCell, Array.getElem?_modify, if_true, h, Option.map_some]
  rfl

theorem Rd.other {w : World} {R D : Nat} {tx : Value} {s : ByteArray} {st : St} (h : Rd w R D tx s st) {E i : Nat} (h1 : E ≠ R) (h2 : E ≠ D) (v : Value) : Rd (w.setCell ⟨E, i, none⟩ v) R D tx s st :=
  ⟨h.blk.other (a := ⟨E, i, none⟩) h1 v, Blk.other h.cur (a := ⟨E, i, none⟩) h2 v, h.ne, h.le, h.small⟩
theorem TxAt.other {w : World} {D : Nat} {v : Value} {ps : List ByteArray} (h : TxAt w D v ps) {E i : Nat} {w0 : World} (h0 : TxAt w0 D v ps) (hE : w0.heap.size ≤ E) (u : Value) : TxAt (w.setCell ⟨E, i, none⟩ u) D v ps := by
  rcases h with h | ⟨g, h1, h2, h3⟩
  · exact .inl h
  · rcases h0 with ⟨rfl, _⟩ | ⟨g', k1, _, k3⟩
    · refine .inl ⟨rfl, _, _, h1⟩
    · rw [h1] at k1
      simp only [Value.slice.injEq, Option.some.injEq, Addr.mk.injEq] at k1
      have := k3.lt
      exact .inr ⟨g, h1, h2, h3.other (a := ⟨E, i, none⟩) (by show E ≠ g; omega) u⟩

theorem But.put4 {D H : Nat} {a b : World} (h : But D a b) (hH : a.heap.size ≤ H) (y0 y1 y2 y3 : Value) : But D a ((((b.setCell ⟨H, 0, none⟩ y0).setCell ⟨H, 1, none⟩ y1).setCell ⟨H, 2, none⟩ y2).setCell ⟨H, 3, none⟩ y3) :=
  (((h.setNew hH _).setNew hH _).setNew hH _).setNew hH _

section
variable {w : World} {R D : Nat} {tx : Value} {s : ByteArray} {st : St}

set_option maxRecDepth 100000 in
set_option maxHeartbeats 4000000 in
theorem rentry {ps : List ByteArray} (h : Rd w R D tx s st) (ht : TxAt w D tx ps) (hp : ps.length ≤ 4096) : Calls Tryz.prog 53 #[.pointer (some ⟨R, 0, none⟩)] w fun x w' => x = .returned (entV (rdE ps s st).1) ∧ Rd w' R D tx s (rdE ps s st).2 ∧ But D w w' := by
  have hmf : ∀ (fn : Fn) (first cap : Array Value) (w : World), (Instr.makeFunc fn first cap).run Tryz.prog w = .ok (.func fn first cap) w := fun _ _ _ _ => rfl
  obtain ⟨WA, hWA⟩ : ∃ WA, WA = w.alloc (.cells #[.string ⟨#[]⟩, .int .i64 0, .string ⟨#[]⟩, .int .i64 0] 33) := ⟨_, rfl⟩
  have BA : Hid (Below w.heap.size w WA) := hide (by rw [hWA]; exact (Below.refl _ _).alloc (Nat.le_refl _) _)
  have QH : Hid (Blk WA w.heap.size #[.string ⟨#[]⟩, .int .i64 0, .string ⟨#[]⟩, .int .i64 0] 33) := hide (by rw [hWA]; exact Blk.newAt w w.heap.size rfl _ _)
  have HWA := hide hWA.symm
  have RA := hide (h.below BA.out)
  have TA := hide (ht.below BA.out)
  have hDw := Blk.lt h.cur
  have hRw := h.blk.lt
  have hHD : w.heap.size ≠ D := Nat.ne_of_gt hDw
  have hHR : w.heap.size ≠ R := Nat.ne_of_gt hRw
  have HT0 := hide ht
  have C1 := hide (rtextAt2 RA.out TA.out hp)
  have RE : Hid (rdE ps s st = (if gV s (gS s st 2) 1 = 1 then ⟨txN ps (gV s st 2), 1, ⟨#[]⟩, (gV s (gS s (gS s st 2) 1) 4 : Int)⟩ else ⟨txN ps (gV s st 2), (gV s (gS s st 2) 1 : Int), txN ps (gV s (gS s (gS s st 2) 1) 4), 0⟩, gS s (gS s (gS s st 2) 1) 4)) := hide rfl
  generalize rdE ps s st = RR at *
  have c0 := RA.out.blk.cell 0
  generalize txN ps (gV s st 2) = K at *
  generalize gS s st 2 = st1 at *
  clear hWA h ht
  go_enter Tryz.func53, Tryz.ntmps53
  go_wp2_with (simp only [HWA.out])
  refine C1.out.mono ?_
  rintro x w1 ⟨rfl, hr1, hb1⟩
  obtain ⟨WB, hWB⟩ : ∃ WB, WB = w1.alloc (.cells #[.string K, .int .i64 0, .string ⟨#[]⟩, .int .i64 0] 33) := ⟨_, rfl⟩
  have BB : Hid (Below w1.heap.size w1 WB) := hide (by rw [hWB]; exact (Below.refl _ _).alloc (Nat.le_refl _) _)
  have QE : Hid (Blk WB w1.heap.size #[.string K, .int .i64 0, .string ⟨#[]⟩, .int .i64 0] 33) := hide (by rw [hWB]; exact Blk.newAt w1 w1.heap.size rfl _ _)
  have HWB := hide hWB.symm
  have RB := hide (hr1.below BB.out)
  have TB := hide ((TA.out.but hb1).below BB.out)
  have U1 : Hid (But D w WB) := hide (((But.of_below BA.out).trans hb1).trans (.of_below BB.out))
  have QH1 := hide ((hb1.blk QH.out hHD).below BB.out (Blk.lt (hb1.blk QH.out hHD)))
  have hE0 : w.heap.size < w1.heap.size := Nat.lt_of_lt_of_le QH.out.lt hb1.size
  have c1 := RB.out.blk.cell 0
  have C2 := hide (rget1 RB.out)
  obtain ⟨V, hV⟩ : ∃ V, V = gV s st1 1 := ⟨_, rfl⟩
  rw [← hV] at C2 RE
  generalize gS s st1 1 = st2 at *
  clear hr1 hb1 C1 hWB hV c0 RA TA QH BA
  go_wp2_with (simp only [HWB.out])
  refine C2.out.mono ?_
  rintro x w2 ⟨rfl, hr2, hb2⟩
  have hED : w1.heap.size ≠ D := by omega
  have hER : w1.heap.size ≠ R := by omega
  have hEH : w1.heap.size ≠ w.heap.size := by omega
  have Q2 := hide (hb2.blk QE.out hED)
  have QS := hide (Q2.out.set1of4 (.int .i64 (V : Int)))
  have RS := hide (hr2.other (E := w1.heap.size) (i := 1) hER hED (.int .i64 (V : Int)))
  have U2 := hide ((U1.out.trans hb2).setNew (g := w1.heap.size) (i := 1) (Nat.le_of_lt hE0) (.int .i64 (V : Int)))
  have TS := hide ((TB.out.but hb2).other (E := w1.heap.size) (i := 1) HT0.out (Nat.le_of_lt hE0) (.int .i64 (V : Int)))
  have QH2 := hide ((hb2.blk QH1.out hHD).other (a := ⟨w1.heap.size, 1, none⟩) hEH (.int .i64 (V : Int)))
  have y1 := Q2.out.cell 1
  have f1 := Q2.out.free 1
  obtain ⟨W2, hW2⟩ : ∃ W2, W2 = w2.setCell ⟨w1.heap.size, 1, none⟩ (.int .i64 (V : Int)) := ⟨_, rfl⟩
  have HW2 := hide hW2.symm
  rw [← hW2] at QS RS U2 TS QH2
  clear hr2 hb2 C2 Q2 RB TB U1 QH1 hW2 QE c1
  have z1 := QS.out.cell 1
  have c2 := RS.out.blk.cell 0
  by_cases hv : V = 1
  · rw [if_pos hv] at RE
    have hv' : ((V : Int) == 1) = true := beq_iff_eq.2 (by omega)
    have HV := hide hv
    clear hv
    have C3 := hide (rget4 RS.out)
    generalize gV s st2 4 = X at *
    generalize gS s st2 4 = st3 at *
    clear TS HT0
    go_wp2_with (simp only [HW2.out])
    refine C3.out.mono ?_
    rintro x w3 ⟨rfl, hr3, hb3⟩
    have Q3 := hide (hb3.blk QS.out hED)
    have QT := hide (Q3.out.set3of4 (.int .i64 (X : Int)))
    have RT := hide (hr3.other (E := w1.heap.size) (i := 3) hER hED (.int .i64 (X : Int)))
    have U3 := hide ((U2.out.trans hb3).setNew (g := w1.heap.size) (i := 3) (Nat.le_of_lt hE0) (.int .i64 (X : Int)))
    have QH3 := hide ((hb3.blk QH2.out hHD).other (a := ⟨w1.heap.size, 3, none⟩) hEH (.int .i64 (X : Int)))
    have y3 := Q3.out.cell 3
    have f3 := Q3.out.free 3
    obtain ⟨W3, hW3⟩ : ∃ W3, W3 = w3.setCell ⟨w1.heap.size, 3, none⟩ (.int .i64 (X : Int)) := ⟨_, rfl⟩
    have HW3 := hide hW3.symm
    rw [← hW3] at QT RT U3 QH3
    have t0 := QT.out.cell 0
    have t1 := QT.out.cell 1
    have t2 := QT.out.cell 2
    have t3 := QT.out.cell 3
    have h0 := QH3.out.cell 0
    have h1 := QH3.out.cell 1
    have h2 := QH3.out.cell 2
    have h3 := QH3.out.cell 3
    have g0 := QH3.out.free 0
    have g1 := QH3.out.free 1
    have g2 := QH3.out.free 2
    have g3 := QH3.out.free 3
    clear hr3 hb3 C3 Q3 RS U2 QH2 hW3 QS c2 y1 f1
    go_wp2_with (simp only [HW3.out])
    refine bodyPost_ret (results_ent1 rfl _ _ _ _ _ _ _ rfl (QH3.out.put4 _ _ _ _)) rfl ?_
    refine ⟨by rw [RE.out, HV.out]; rfl, ?_, U3.out.put4 (Nat.le_refl _) _ _ _ _⟩
    rw [RE.out]
    exact (((RT.out.other hHR hHD _).other hHR hHD _).other hHR hHD _).other hHR hHD _
  · rw [if_neg hv] at RE
    have hv' : ((V : Int) == 1) = false := beq_eq_false_iff_ne.2 (by omega)
    have C3 := hide (rtextAt4 RS.out TS.out hp)
    generalize txN ps (gV s st2 4) = X at *
    generalize gS s st2 4 = st3 at *
    clear TS HT0
    go_wp2_with (simp only [HW2.out])
    refine C3.out.mono ?_
    rintro x w3 ⟨rfl, hr3, hb3⟩
    have Q3 := hide (hb3.blk QS.out hED)
    have QT := hide (Q3.out.set2of4 (.string X))
    have RT := hide (hr3.other (E := w1.heap.size) (i := 2) hER hED (.string X))
    have U3 := hide ((U2.out.trans hb3).setNew (g := w1.heap.size) (i := 2) (Nat.le_of_lt hE0) (.string X))
    have QH3 := hide ((hb3.blk QH2.out hHD).other (a := ⟨w1.heap.size, 2, none⟩) hEH (.string X))
    have y3 := Q3.out.cell 2
    have f3 := Q3.out.free 2
    obtain ⟨W3, hW3⟩ : ∃ W3, W3 = w3.setCell ⟨w1.heap.size, 2, none⟩ (.string X) := ⟨_, rfl⟩
    have HW3 := hide hW3.symm
    rw [← hW3] at QT RT U3 QH3
    have t0 := QT.out.cell 0
    have t1 := QT.out.cell 1
    have t2 := QT.out.cell 2
    have t3 := QT.out.cell 3
    have h0 := QH3.out.cell 0
    have h1 := QH3.out.cell 1
    have h2 := QH3.out.cell 2
    have h3 := QH3.out.cell 3
    have g0 := QH3.out.free 0
    have g1 := QH3.out.free 1
    have g2 := QH3.out.free 2
    have g3 := QH3.out.free 3
    clear hr3 hb3 C3 Q3 RS U2 QH2 hW3 QS c2 y1 f1
    go_wp2_with (simp only [HW3.out])
    refine bodyPost_ret (results_ent1 rfl _ _ _ _ _ _ _ rfl (QH3.out.put4 _ _ _ _)) rfl ?_
    refine ⟨by rw [RE.out]; rfl, ?_, U3.out.put4 (Nat.le_refl _) _ _ _ _⟩
    rw [RE.out]
    exact (((RT.out.other hHR hHD _).other hHR hHD _).other hHR hHD _).other hHR hHD _

end

end Go.Proofs.YtihnakblcfealaaGreatDoor

namespace Go.Proofs.YtihnakblcfealaaGreatDoor
open Go.RowKit

theorem blk_at {w : World} {g m : Nat} {a rest : List Value} {r : Value} {T : TypeId} (h : Blk w g (a ++ r :: rest).toArray T) (ha : a.length = m) : w.cell? ⟨g, m, none⟩ = some r := by
  rw [h.cell m, ← ha]
  simp
theorem blk_set {w : World} {g m : Nat} {a rest : List Value} {r : Value} {T : TypeId} (h : Blk w g (a ++ r :: rest).toArray T) (ha : a.length = m) (v : Value) : Blk (w.setCell ⟨g, m, none⟩ v) g (a ++ v :: rest).toArray T := by
  have e : ((a ++ r :: rest).toArray).set! m v = (a ++ v :: rest).toArray := by
    rw [← ha, Array.set!_eq_setIfInBounds, List.setIfInBounds_toArray]
    simp
  unfold Blk at *
  simp only [World.setCell, Array.getElem?_modify, if_true, h, Option.map_some]
  rw [← e]
  rfl
theorem blk_snoc {w : World} {g : Nat} {a rest : List Value} {v : Value} {T : TypeId} (h : Blk w g (a ++ v :: rest).toArray T) : Blk w g ((a ++ [v]) ++ rest).toArray T := by
  rw [List.append_assoc]; exact h

theorem blk_put4 {w : World} {g m : Nat} {a rest : List Value} {r0 r1 r2 r3 : Value} {T : TypeId} (h : Blk w g (a ++ r0 :: r1 :: r2 :: r3 :: rest).toArray T) (ha : a.length = m) (v0 v1 v2 v3 : Value) :
    Blk ((((w.setCell ⟨g, m, none⟩ v0).setCell ⟨g, m + 1, none⟩ v1).setCell ⟨g, m + 2, none⟩ v2).setCell ⟨g, m + 3, none⟩ v3) g (a ++ v0 :: v1 :: v2 :: v3 :: rest).toArray T := by
  have h0 := blk_snoc (blk_set h ha v0)
  have h1 := blk_snoc (blk_set h0 (m := m + 1) (by simp [ha]) v1)
  have h2 := blk_snoc (blk_set h1 (m := m + 2) (by simp [ha]) v2)
  have h3 := blk_set h2 (m := m + 3) (by simp [ha]) v3
  simpa using h3
theorem blk_four {w : World} {g m : Nat} {a rest : List Value} {r0 r1 r2 r3 : Value} {T : TypeId} (h : Blk w g (a ++ r0 :: r1 :: r2 :: r3 :: rest).toArray T) (ha : a.length = m) :
    w.cell? ⟨g, m, none⟩ = some r0 ∧ w.cell? ⟨g, m + 1, none⟩ = some r1 ∧ w.cell? ⟨g, m + 2, none⟩ = some r2 ∧ w.cell? ⟨g, m + 3, none⟩ = some r3 :=
  ⟨blk_at h ha, blk_at (blk_snoc h) (by simp [ha]), blk_at (blk_snoc (blk_snoc h)) (by simp [ha]), blk_at (blk_snoc (blk_snoc (blk_snoc h))) (by simp [ha])⟩

theorem blk_made {w : World} {B n sz : Nat} {e : TypeId} {g : Nat} {xs : List Value} (h : w.ownsRow B e sz (.slice (some ⟨g, 0, none⟩) n n) n xs) : Blk w g xs.toArray e ∧ xs.length = n * sz := by
  refine ⟨?_, h.1⟩
  rcases h.2 with ⟨q, _⟩ | ⟨g', cap, cur, q, _, hh, _, _, hs, ht⟩
  · cases q
  · simp only [Value.slice.injEq, Option.some.injEq, Addr.mk.injEq] at q
    obtain ⟨⟨rfl, _, _⟩, _, rfl⟩ := q
    unfold Blk
    rw [hh]
    have : cur.toList = xs := by rw [← ht, List.take_of_length_le (by rw [Array.length_toList, hs]; exact Nat.le_refl _)]
    rw [← this]

def Made (T : TypeId) (B : Nat) (w : World) (v : Value) (n : Nat) (cs : List Value) : Prop := (n = 0 ∧ v = .slice none 0 0) ∨ ∃ g, v = .slice (some ⟨g, 0, none⟩) n n ∧ B ≤ g ∧ Blk w g cs.toArray T

theorem Made.but {T : TypeId} {B D n : Nat} {w w' : World} {v : Value} {cs : List Value} (h : Made T B w v n cs) (hb : But D w w') (hD : D < B) : Made T B w' v n cs := by
  rcases h with h | ⟨g, h1, h2, h3⟩
  · exact .inl h
  · exact .inr ⟨g, h1, h2, hb.blk h3 (by omega)⟩
theorem Made.set {T : TypeId} {B E i n : Nat} {w : World} {v : Value} {cs : List Value} (h : Made T B w v n cs) (hE : E < B) (u : Value) : Made T B (w.setCell ⟨E, i, none⟩ u) v n cs := by
  rcases h with h | ⟨g, h1, h2, h3⟩
  · exact .inl h
  · exact .inr ⟨g, h1, h2, h3.other (a := ⟨E, i, none⟩) (by show E ≠ g; omega) u⟩
theorem Made.base {T : TypeId} {B B' n : Nat} {w : World} {v : Value} {cs : List Value} (h : Made T B w v n cs) (hB : B' ≤ B) : Made T B' w v n cs := by
  rcases h with h | ⟨g, h1, h2, h3⟩
  · exact .inl h
  · exact .inr ⟨g, h1, Nat.le_trans hB h2, h3⟩

def rdMany {α : Type} (item : St → α × St) : Nat → St → List α × St
  | 0, st => ([], st)
  | n + 1, st => ((item st).1 :: (rdMany item n (item st).2).1, (rdMany item n (item st).2).2)
def rdRow {α : Type} (s : ByteArray) (k most : Nat) (item : St → α × St) (st : St) : List α × St := if most < gV s st k then ([], gS s st k) else rdMany item (gV s st k) (gS s st k)

theorem rdMany_len {α : Type} (item : St → α × St) : ∀ n st, (rdMany item n st).1.length = n
  | 0, st => rfl
  | n + 1, st => by show (rdMany item n _).1.length + 1 = n + 1; rw [rdMany_len item n]
theorem rdRow_len {α : Type} (s : ByteArray) (k most : Nat) (item : St → α × St) (st : St) : (rdRow s k most item st).1.length ≤ most := by
  unfold rdRow
  split
  · exact Nat.zero_le _
  · rw [rdMany_len]; omega

theorem infoE : (Tryz.prog.info? 33).map (fun i => (i.zero, i.size, i.bytes)) = some (some (.agg #[.string ⟨#[]⟩, .int .i64 0, .string ⟨#[]⟩, .int .i64 0]), 4, 48) := by kernel_rfl

def cellsEn (es : List Ent) : List Value := es.flatMap fun e => [.string e.key, .int .i64 e.kind, .string e.text, .int .i64 e.num]
theorem cellsEn_len (es : List Ent) : (cellsEn es).length = es.length * 4 := by
  induction es with
  | nil => rfl
  | cons f r ih =>
    have : cellsEn (f :: r) = [.string f.key, .int .i64 f.kind, .string f.text, .int .i64 f.num] ++ cellsEn r := rfl
    rw [this, List.length_append, ih, List.length_cons]
    simp; omega
theorem cellsEn_snoc (es : List Ent) (e : Ent) : cellsEn (es ++ [e]) = cellsEn es ++ [.string e.key, .int .i64 e.kind, .string e.text, .int .i64 e.num] := by
  unfold cellsEn; rw [List.flatMap_append]; rfl

theorem four_of {l : List Value} {n : Nat} (h : l.length = (n + 1) * 4) : ∃ r0 r1 r2 r3 r, l = r0 :: r1 :: r2 :: r3 :: r ∧ r.length = n * 4 := by
  match l, h with
  | r0 :: r1 :: r2 :: r3 :: r, h => exact ⟨r0, r1, r2, r3, r, rfl, by simp at h; omega⟩
  | [], h => simp at h
  | [_], h => simp at h; omega
  | [_, _], h => simp at h; omega
  | [_, _, _], h => simp at h; omega

section
variable {w : World} {R D : Nat} {tx : Value} {s : ByteArray} {st : St}

set_option maxRecDepth 100000 in
set_option maxHeartbeats 4000000 in
theorem rowE {ps : List ByteArray} (h : Rd w R D tx s st) (ht : TxAt w D tx ps) (hp : ps.length ≤ 4096) :
    Calls Tryz.prog 52 #[.func (.func 20) #[.pointer (some ⟨D, 0, none⟩)] #[], .int .i64 1024, .func (.func 53) #[.pointer (some ⟨R, 0, none⟩)] #[]] w fun x w' => ∃ v, x = .returned v ∧ Made 33 w.heap.size w' v (rdRow s 2 1024 (rdE ps s) st).1.length (cellsEn (rdRow s 2 1024 (rdE ps s) st).1) ∧ Rd w' R D tx s (rdRow s 2 1024 (rdE ps s) st).2 ∧ But D w w' := by
  obtain ⟨i0, hi, hz0, hz1, hz2⟩ := info_parts infoE
  have HC := hide (rget2 h)
  have RE : Hid (rdRow s 2 1024 (rdE ps s) st = if 1024 < gV s st 2 then ([], gS s st 2) else rdMany (rdE ps s) (gV s st 2) (gS s st 2)) := hide rfl
  generalize rdRow s 2 1024 (rdE ps s) st = RR at *
  have HT := hide ht
  have hDw := Blk.lt h.cur
  have hRw := h.blk.lt
  generalize gV s st 2 = V at *
  generalize gS s st 2 = st1 at *
  clear h ht
  by_cases hv : 1024 < V
  · rw [if_pos hv] at RE
    have hv' : (1024 : Int) < (V : Int) := by omega
    go_enter Tryz.func52, Tryz.ntmps52
    go_wp2_with fail
    refine HC.out.mono ?_
    rintro x w1 ⟨rfl, h1, h2⟩
    have H1 := hide h1
    have H2 := hide h2
    clear h1 h2 HC
    go_wp2
    go_ret
    exact ⟨_, rfl, by rw [RE.out]; exact .inl ⟨rfl, rfl⟩, by rw [RE.out]; exact H1.out, H2.out⟩
  · rw [if_neg hv] at RE
    have hv' : ¬ (1024 : Int) < (V : Int) := by omega
    have IT : Hid (∀ X sx, Rd X R D tx s sx → TxAt X D tx ps → Calls Tryz.prog 53 #[.pointer (some ⟨R, 0, none⟩)] X fun x w' => x = .returned (entV (rdE ps s sx).1) ∧ Rd w' R D tx s (rdE ps s sx).2 ∧ But D X w') := hide (fun X sx hX hT => rentry hX hT hp)
    go_enter Tryz.func52, Tryz.ntmps52
    go_wp2_with fail
    refine HC.out.mono ?_
    rintro x w1 ⟨rfl, h1, h2⟩
    have H1 := hide h1
    have H2 := hide h2
    have T1 := hide (HT.out.but h2)
    have hs1 := h2.size
    clear h1 h2 HC
    go_wp2_with (at_make; refine wpList_make_full _ rfl _ _ 29 rfl w.heap.size 33 i0 (.agg #[.string ⟨#[]⟩, .int .i64 0, .string ⟨#[]⟩, .int .i64 0]) 4 Tryz.underlying29 hi hz0 hz1 _ _ _ _ V rfl rfl rfl rfl (by rw [hz2]; omega) (by unfold maxLen; omega) hs1 ?_; intro w2 hrow hgr)
    have B12 : Below w1.heap.size w1 w2 := ⟨hgr.os, hgr.tape, hgr.output, hgr.size, fun k hk => hgr.block k hk (by simp)⟩
    obtain ⟨hbk, hlen⟩ := blk_made hrow
    obtain ⟨g, hg⟩ : ∃ g, g = w1.heap.size := ⟨_, rfl⟩
    rw [← hg] at hbk
    rw [← hg]
    have hgD : g ≠ D := by omega
    have hgR : g ≠ R := by omega
    have hgw : w.heap.size ≤ g := by omega
    have Q2 := hide hbk
    have LN := hide hlen
    have R2 := hide (H1.out.below B12)
    have T2 := hide (T1.out.below B12)
    have U2 := hide (H2.out.trans (.of_below B12))
    generalize (madeCells (Value.agg #[.string ⟨#[]⟩, .int .i64 0, .string ⟨#[]⟩, .int .i64 0]).cells (V * 4)).toList = xs at *
    clear hrow hgr B12 hbk hlen H1 T1 H2 hg hs1
    go_wp2
    go_loopw [19] (fun p wr => ∃ (k : Nat) (es : List Ent) (sk : St) (rest : List Value), k ≤ V ∧ p = .int .i64 (k : Int) ∧ Hid (es.length = k ∧ rest.length = (V - k) * 4 ∧ es ++ (rdMany (rdE ps s) (V - k) sk).1 = RR.1 ∧ (rdMany (rdE ps s) (V - k) sk).2 = RR.2) ∧ Hid (Blk wr g (cellsEn es ++ rest).toArray 33) ∧ Hid (Rd wr R D tx s sk) ∧ Hid (TxAt wr D tx ps) ∧ Hid (But D w wr)) (fun p _ => V - (intOf p).toNat)
    case atStart => exact ⟨0, [], st1, xs, Nat.zero_le _, rfl, hide ⟨rfl, LN.out, by rw [RE.out]; rfl, by rw [RE.out]; rfl⟩, Q2, R2, T2, U2⟩
    case round =>
      obtain ⟨k, es, sk, rest, hk, rfl, HF, HB, HR, HTx, HU⟩ := hrel
      by_cases hlt : k < V
      · have hlt' : (k : Int) < (V : Int) := by omega
        have CI := hide (IT.out wr sk HR.out HTx.out)
        obtain ⟨r0, r1, r2, r3, rest', hrest, hrl⟩ := four_of (l := rest) (n := V - (k + 1)) (by rw [HF.out.2.1]; congr 1; omega)
        subst hrest
        have HRL := hide hrl
        have HN : Hid (es ++ [(rdE ps s sk).1] ++ (rdMany (rdE ps s) (V - (k + 1)) (rdE ps s sk).2).1 = RR.1 ∧ (rdMany (rdE ps s) (V - (k + 1)) (rdE ps s sk).2).2 = RR.2) := hide (by
          have q := HF.out.2.2
          rw [show V - k = (V - (k + 1)) + 1 by omega] at q
          refine ⟨?_, q.2⟩
          rw [← q.1, List.append_assoc]
          rfl)
        have HEL : Hid (es.length = k) := hide HF.out.1
        have CL : Hid ((cellsEn es).length = k * 4) := hide (by rw [cellsEn_len, HEL.out])
        obtain ⟨e, he⟩ : ∃ e, e = (rdE ps s sk).1 := ⟨_, rfl⟩
        rw [← he] at CI HN
        clear he
        unfold entV at CI
        go_wp2_with fail
        refine CI.out.mono ?_
        rintro x w3 ⟨rfl, hr3, hb3⟩
        have B3 := hb3.blk HB.out hgD
        have PB := hide (blk_put4 B3 CL.out (.string e.key) (.int .i64 e.kind) (.string e.text) (.int .i64 e.num))
        obtain ⟨b0, b1, b2, b3⟩ := blk_four B3 CL.out
        have f0 := B3.free (k * 4)
        have f1 := B3.free (k * 4 + 1)
        have f2 := B3.free (k * 4 + 2)
        have f3 := B3.free (k * 4 + 3)
        have RN := hide ((((hr3.other (i := k * 4) hgR hgD (.string e.key)).other (i := k * 4 + 1) hgR hgD (.int .i64 e.kind)).other (i := k * 4 + 2) hgR hgD (.string e.text)).other (i := k * 4 + 3) hgR hgD (.int .i64 e.num))
        have T3 := HTx.out.but hb3
        have TN := hide ((((T3.other (i := k * 4) HT.out hgw (.string e.key)).other (i := k * 4 + 1) HT.out hgw (.int .i64 e.kind)).other (i := k * 4 + 2) HT.out hgw (.string e.text)).other (i := k * 4 + 3) HT.out hgw (.int .i64 e.num))
        have UN := hide (((((HU.out.trans hb3).setNew (i := k * 4) hgw (.string e.key)).setNew (i := k * 4 + 1) hgw (.int .i64 e.kind)).setNew (i := k * 4 + 2) hgw (.string e.text)).setNew (i := k * 4 + 3) hgw (.int .i64 e.num))
        have PN : Hid (Blk ((((w3.setCell ⟨g, k * 4, none⟩ (.string e.key)).setCell ⟨g, k * 4 + 1, none⟩ (.int .i64 e.kind)).setCell ⟨g, k * 4 + 2, none⟩ (.string e.text)).setCell ⟨g, k * 4 + 3, none⟩ (.int .i64 e.num)) g (cellsEn (es ++ [e]) ++ rest').toArray 33) := hide (by rw [cellsEn_snoc, List.append_assoc]; exact PB.out)
        clear hr3 hb3 B3 PB T3 CI HB HR HTx HU HF
        go_wp2
        exact ⟨⟨k + 1, es ++ [e], _, rest', by omega, by go_num, hide ⟨by rw [List.length_append, HEL.out]; rfl, HRL.out, HN.out⟩, PN, RN, TN, UN⟩, by simp [intOf]; omega⟩
      · obtain rfl : k = V := by omega
        have hlt' : ¬ (k : Int) < (k : Int) := by omega
        have HE : Hid (es = RR.1 ∧ sk = RR.2 ∧ rest = [] ∧ RR.1.length = k) := hide (by
          have q := HF.out
          rw [Nat.sub_self] at q
          have e1 : es = RR.1 := by have := q.2.2.1; simpa [rdMany] using this
          refine ⟨e1, q.2.2.2, List.length_eq_zero_iff.1 (by simpa using q.2.1), by rw [← e1]; exact q.1⟩)
        clear HF hlt
        go_wp2
        go_ret
        refine ⟨_, rfl, .inr ⟨g, by rw [HE.out.2.2.2]; rfl, hgw, ?_⟩, by rw [← HE.out.2.1]; exact HR.out, HU.out⟩
        have q := HB.out
        rw [HE.out.2.2.1, List.append_nil, HE.out.1] at q
        exact q

end

end Go.Proofs.YtihnakblcfealaaGreatDoor

namespace Go.Proofs.YtihnakblcfealaaGreatDoor
open Go.RowKit

def rdT (ps : List ByteArray) (s : ByteArray) (st : St) : Tab × St :=
  (⟨txN ps (gV s st 2), parV (gV s (gS s st 2) 1), (rdRow s 2 1024 (rdE ps s) (gS s (gS s st 2) 1)).1⟩, (rdRow s 2 1024 (rdE ps s) (gS s (gS s st 2) 1)).2)

theorem results_tab1 {fn : Func} {a : Tmp} (h : fn.results = #[.cell a 31]) (tmps : Array Value) (H : Nat) (x0 x1 x2 : Value) (w : World) (ht : tmps.getD a undef = .pointer (some ⟨H, 0, none⟩)) (hp : Blk w H #[x0, x1, x2] 31) :
    (results fn tmps).run Tryz.prog w = .ok (.agg #[x0, x1, x2]) w := by
  have c0 := hp.cell 0
  have c1 := hp.cell 1
  have c2 := hp.cell 2
  simp at c0 c1 c2
  rw [Array.getD_eq_getD_getElem?] at ht
  simp [results, h, ht, go_sem, c0, c1, c2]

theorem Blk.put3 {w : World} {b : Nat} {x0 x1 x2 : Value} {t : TypeId} (h : Blk w b #[x0, x1, x2] t) (y0 y1 y2 : Value) : Blk (((w.setCell ⟨b, 0, none⟩ y0).setCell ⟨b, 1, none⟩ y1).setCell ⟨b, 2, none⟩ y2) b #[y0, y1, y2] t := ((h.set0of3 y0).set1of3 y1).set2of3 y2

theorem Made.slice {T : TypeId} {B n : Nat} {w : World} {v : Value} {cs : List Value} (h : Made T B w v n cs) : ∃ ao cap, v = .slice ao n cap := by
  rcases h with ⟨rfl, rfl⟩ | ⟨g, rfl, _⟩
  · exact ⟨none, 0, rfl⟩
  · exact ⟨_, _, rfl⟩

section
variable {w : World} {R D : Nat} {tx : Value} {s : ByteArray} {st : St}

set_option maxRecDepth 100000 in
set_option maxHeartbeats 4000000 in
theorem rtable {ps : List ByteArray} (h : Rd w R D tx s st) (ht : TxAt w D tx ps) (hp : ps.length ≤ 4096) : Calls Tryz.prog 24 #[.pointer (some ⟨R, 0, none⟩)] w fun x w' => ∃ v, x = .returned (.agg #[.string (rdT ps s st).1.name, .int .i64 (rdT ps s st).1.parent, v]) ∧ Made 33 w.heap.size w' v (rdT ps s st).1.ents.length (cellsEn (rdT ps s st).1.ents) ∧ Rd w' R D tx s (rdT ps s st).2 ∧ But D w w' := by
  have hmf : ∀ (fn : Fn) (first cap : Array Value) (w : World), (Instr.makeFunc fn first cap).run Tryz.prog w = .ok (.func fn first cap) w := fun _ _ _ _ => rfl
  obtain ⟨WA, hWA⟩ : ∃ WA, WA = w.alloc (.cells #[.string ⟨#[]⟩, .int .i64 0, .slice none 0 0] 31) := ⟨_, rfl⟩
  have BA : Hid (Below w.heap.size w WA) := hide (by rw [hWA]; exact (Below.refl _ _).alloc (Nat.le_refl _) _)
  have QH : Hid (Blk WA w.heap.size #[.string ⟨#[]⟩, .int .i64 0, .slice none 0 0] 31) := hide (by rw [hWA]; exact Blk.newAt w w.heap.size rfl _ _)
  have HWA := hide hWA.symm
  have RA := hide (h.below BA.out)
  have TA := hide (ht.below BA.out)
  have hDw := Blk.lt h.cur
  have hRw := h.blk.lt
  have hHD : w.heap.size ≠ D := Nat.ne_of_gt hDw
  have hHR : w.heap.size ≠ R := Nat.ne_of_gt hRw
  have C1 := hide (rtextAt2 RA.out TA.out hp)
  have RE : Hid (rdT ps s st = (⟨txN ps (gV s st 2), parV (gV s (gS s st 2) 1), (rdRow s 2 1024 (rdE ps s) (gS s (gS s st 2) 1)).1⟩, (rdRow s 2 1024 (rdE ps s) (gS s (gS s st 2) 1)).2)) := hide rfl
  generalize rdT ps s st = RR at *
  have c0 := RA.out.blk.cell 0
  generalize txN ps (gV s st 2) = K at *
  generalize gS s st 2 = st1 at *
  clear hWA h ht
  go_enter Tryz.func24, Tryz.ntmps24
  go_wp2_with (simp only [HWA.out])
  refine C1.out.mono ?_
  rintro x w1 ⟨rfl, hr1, hb1⟩
  have R1 := hide hr1
  have T1 := hide (TA.out.but hb1)
  have U1 : Hid (But D w w1) := hide ((But.of_below BA.out).trans hb1)
  have Q1 := hide (hb1.blk QH.out hHD)
  have C2 := hide (rparent R1.out)
  generalize parV (gV s st1 1) = P at *
  generalize gS s st1 1 = st2 at *
  clear hr1 hb1 C1 c0 RA TA QH BA
  go_wp2_with fail
  refine C2.out.mono ?_
  rintro x w2 ⟨rfl, hr2, hb2⟩
  have R2 := hide hr2
  have T2 := hide (T1.out.but hb2)
  have U2 := hide (U1.out.trans hb2)
  have Q2 := hide (hb2.blk Q1.out hHD)
  have c2 := R2.out.blk.cell 0
  have hH2 : w.heap.size < w2.heap.size := Q2.out.lt
  have C3 := hide (rowE R2.out T2.out hp)
  generalize rdRow s 2 1024 (rdE ps s) st2 = RW at *
  clear hr2 hb2 C2 R1 T1 U1 Q1
  go_wp2_with fail
  refine C3.out.mono ?_
  rintro x w3 ⟨v, rfl, hm3, hr3, hb3⟩
  have R3 := hide hr3
  have M3 := hide hm3
  have U3 := hide (U2.out.trans hb3)
  have Q3 := hide (hb3.blk Q2.out hHD)
  obtain ⟨ao, cap, rfl⟩ := hm3.slice
  have h0 := Q3.out.cell 0
  have h1 := Q3.out.cell 1
  have h2 := Q3.out.cell 2
  have g0 := Q3.out.free 0
  have g1 := Q3.out.free 1
  have g2 := Q3.out.free 2
  clear hm3 hr3 hb3 C3 c2 R2 T2 U2 Q2
  go_wp2
  refine bodyPost_ret (results_tab1 rfl _ _ _ _ _ _ rfl (Q3.out.put3 _ _ _)) rfl ?_
  refine ⟨_, by rw [RE.out], ?_, ?_, ((U3.out.setNew (Nat.le_refl _) _).setNew (Nat.le_refl _) _).setNew (Nat.le_refl _) _⟩
  · rw [RE.out]
    exact (((M3.out.set hH2 _).set hH2 _).set hH2 _).base (Nat.le_of_lt hH2)
  · rw [RE.out]
    exact ((R3.out.other hHR hHD _).other hHR hHD _).other hHR hHD _

def rdX (s : ByteArray) (st : St) : ByteArray × St := (xV s st, xS s st)

theorem one_of {l : List Value} {n : Nat} (h : l.length = n + 1) : ∃ r0 r, l = r0 :: r ∧ r.length = n := by
  match l, h with
  | r0 :: r, h => exact ⟨r0, r, rfl, by simpa using h⟩

set_option maxRecDepth 100000 in
set_option maxHeartbeats 4000000 in
theorem rowX (h : Rd w R D tx s st) (hT : U8 w) (hD : OffT D) :
    Calls Tryz.prog 19 #[.func (.func 20) #[.pointer (some ⟨D, 0, none⟩)] #[], .int .i64 4096, .func (.func 21) #[.pointer (some ⟨R, 0, none⟩)] #[]] w fun x w' => ∃ v, x = .returned v ∧ Made 9 w.heap.size w' v (rdRow s 2 4096 (rdX s) st).1.length ((rdRow s 2 4096 (rdX s) st).1.map Value.string) ∧ Rd w' R D tx s (rdRow s 2 4096 (rdX s) st).2 ∧ But D w w' := by
  obtain ⟨i0, hi, hz0, hz1, hz2⟩ := info_parts infoS
  have HC := hide (rget2 h)
  have RE : Hid (rdRow s 2 4096 (rdX s) st = if 4096 < gV s st 2 then ([], gS s st 2) else rdMany (rdX s) (gV s st 2) (gS s st 2)) := hide rfl
  generalize rdRow s 2 4096 (rdX s) st = RR at *
  have hDw := Blk.lt h.cur
  have hRw := h.blk.lt
  have HT := hide hT
  have HD := hide hD
  generalize gV s st 2 = V at *
  generalize gS s st 2 = st1 at *
  clear h hT hD
  by_cases hv : 4096 < V
  · rw [if_pos hv] at RE
    have hv' : (4096 : Int) < (V : Int) := by omega
    go_enter Tryz.func19, Tryz.ntmps19
    go_wp2_with fail
    refine HC.out.mono ?_
    rintro x w1 ⟨rfl, h1, h2⟩
    have H1 := hide h1
    have H2 := hide h2
    clear h1 h2 HC
    go_wp2
    go_ret
    exact ⟨_, rfl, by rw [RE.out]; exact .inl ⟨rfl, rfl⟩, by rw [RE.out]; exact H1.out, H2.out⟩
  · rw [if_neg hv] at RE
    have hv' : ¬ (4096 : Int) < (V : Int) := by omega
    have IT : Hid (∀ X sx, Rd X R D tx s sx → U8 X → Calls Tryz.prog 21 #[.pointer (some ⟨R, 0, none⟩)] X fun x w' => x = .returned (.string (rdX s sx).1) ∧ Rd w' R D tx s (rdX s sx).2 ∧ But D X w') := hide (fun X sx hX hT => rtext hX hT HD.out)
    go_enter Tryz.func19, Tryz.ntmps19
    go_wp2_with fail
    refine HC.out.mono ?_
    rintro x w1 ⟨rfl, h1, h2⟩
    have H1 := hide h1
    have H2 := hide h2
    have hs1 := h2.size
    clear h1 h2 HC
    go_wp2_with (at_make; refine wpList_make_full _ rfl _ _ 38 rfl w.heap.size 9 i0 (.string ⟨#[]⟩) 1 Tryz.underlying38 hi hz0 hz1 _ _ _ _ V rfl rfl rfl rfl (by rw [hz2]; omega) (by unfold maxLen; omega) hs1 ?_; intro w2 hrow hgr)
    have B12 : Below w1.heap.size w1 w2 := ⟨hgr.os, hgr.tape, hgr.output, hgr.size, fun k hk => hgr.block k hk (by simp)⟩
    obtain ⟨hbk, hlen⟩ := blk_made hrow
    obtain ⟨g, hg⟩ : ∃ g, g = w1.heap.size := ⟨_, rfl⟩
    rw [← hg] at hbk
    rw [← hg]
    have hgD : g ≠ D := by omega
    have hgR : g ≠ R := by omega
    have hgw : w.heap.size ≤ g := by omega
    have Q2 := hide hbk
    have LN := hide hlen
    have R2 := hide (H1.out.below B12)
    have U2 := hide (H2.out.trans (.of_below B12))
    generalize (madeCells (Value.string ⟨#[]⟩).cells (V * 1)).toList = xs at *
    clear hrow hgr B12 hbk hlen H1 H2 hg hs1
    go_wp2
    go_loopw [19] (fun p wr => ∃ (k : Nat) (es : List ByteArray) (sk : St) (rest : List Value), k ≤ V ∧ p = .int .i64 (k : Int) ∧ Hid (es.length = k ∧ rest.length = V - k ∧ es ++ (rdMany (rdX s) (V - k) sk).1 = RR.1 ∧ (rdMany (rdX s) (V - k) sk).2 = RR.2) ∧ Hid (Blk wr g (es.map Value.string ++ rest).toArray 9) ∧ Hid (Rd wr R D tx s sk) ∧ Hid (But D w wr)) (fun p _ => V - (intOf p).toNat)
    case atStart => exact ⟨0, [], st1, xs, Nat.zero_le _, rfl, hide ⟨rfl, by rw [LN.out]; omega, by rw [RE.out]; rfl, by rw [RE.out]; rfl⟩, Q2, R2, U2⟩
    case round =>
      obtain ⟨k, es, sk, rest, hk, rfl, HF, HB, HR, HU⟩ := hrel
      by_cases hlt : k < V
      · have hlt' : (k : Int) < (V : Int) := by omega
        have CI := hide (IT.out wr sk HR.out (HT.out.but HU.out HD.out))
        obtain ⟨r0, rest', hrest, hrl⟩ := one_of (l := rest) (n := V - (k + 1)) (by rw [HF.out.2.1]; omega)
        subst hrest
        have HRL := hide hrl
        have HN : Hid (es ++ [(rdX s sk).1] ++ (rdMany (rdX s) (V - (k + 1)) (rdX s sk).2).1 = RR.1 ∧ (rdMany (rdX s) (V - (k + 1)) (rdX s sk).2).2 = RR.2) := hide (by
          have q := HF.out.2.2
          rw [show V - k = (V - (k + 1)) + 1 by omega] at q
          refine ⟨?_, q.2⟩
          rw [← q.1, List.append_assoc]
          rfl)
        have HEL : Hid (es.length = k) := hide HF.out.1
        have CL : Hid ((es.map Value.string).length = k) := hide (by rw [List.length_map, HEL.out])
        obtain ⟨e, he⟩ : ∃ e, e = (rdX s sk).1 := ⟨_, rfl⟩
        rw [← he] at CI HN
        clear he
        go_wp2_with fail
        refine CI.out.mono ?_
        rintro x w3 ⟨rfl, hr3, hb3⟩
        have B3 := hb3.blk HB.out hgD
        have PB := hide (blk_set B3 CL.out (.string e))
        have b0 := blk_at B3 CL.out
        have f0 := B3.free k
        have RN := hide (hr3.other (i := k) hgR hgD (.string e))
        have UN := hide ((HU.out.trans hb3).setNew (i := k) hgw (.string e))
        have PN : Hid (Blk (w3.setCell ⟨g, k, none⟩ (.string e)) g ((es ++ [e]).map Value.string ++ rest').toArray 9) := hide (by rw [List.map_append, List.append_assoc]; exact PB.out)
        clear hr3 hb3 B3 PB CI HB HR HU HF
        go_wp2
        exact ⟨⟨k + 1, es ++ [e], _, rest', by omega, by go_num, hide ⟨by rw [List.length_append, HEL.out]; rfl, HRL.out, HN.out⟩, PN, RN, UN⟩, by simp [intOf]; omega⟩
      · obtain rfl : k = V := by omega
        have hlt' : ¬ (k : Int) < (k : Int) := by omega
        have HE : Hid (es = RR.1 ∧ sk = RR.2 ∧ rest = [] ∧ RR.1.length = k) := hide (by
          have q := HF.out
          rw [Nat.sub_self] at q
          have e1 : es = RR.1 := by have := q.2.2.1; simpa [rdMany] using this
          refine ⟨e1, q.2.2.2, List.length_eq_zero_iff.1 (by simpa using q.2.1), by rw [← e1]; exact q.1⟩)
        clear HF hlt
        go_wp2
        go_ret
        refine ⟨_, rfl, .inr ⟨g, by rw [HE.out.2.2.2]; rfl, hgw, ?_⟩, by rw [← HE.out.2.1]; exact HR.out, HU.out⟩
        have q := HB.out
        rw [HE.out.2.2.1, List.append_nil, HE.out.1] at q
        exact q

end

end Go.Proofs.YtihnakblcfealaaGreatDoor
