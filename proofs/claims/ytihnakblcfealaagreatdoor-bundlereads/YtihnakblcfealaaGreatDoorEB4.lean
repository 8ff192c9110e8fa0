/-
  What slices.BinarySearchFunc, bundle's firstOf and Find answer.
  What bundle's Find answers.
  What bundle's rising answers: the texts of a set, sorted.
  What bundle's Keys answers.
  (*strings.Builder).WriteString at this dump: what it leaves in a builder.
-/
import Derived.Test.YtihnakblcfealaaGreatDoorEB3
import Derived.Test.YtihnakblcfealaaGreatDoorEShelf
import Derived.Maps.RangeWalk
import Derived.Maps.AppendAt
import Derived.Sort.KeysCollected
import Derived.Sort.OwnSorted
import Derived.Test.YtihnakblcfealaaGreatDoorEOwn
import Derived.Lib.Builder
import Derived.Lib.AppendStr
import Derived.Lib.UnsafeStr
import Derived.Laws.Externs
namespace Go.Proofs.YtihnakblcfealaaGreatDoor
open Go.RowKit

def BsA (es : List Ent) (key : ByteArray) (w : World) (e : Ending) (w' : World) : Prop := ∃ (i : Nat) (f : Bool), e = .returned (.tuple #[.int .i64 (i : Int), .bool f]) ∧ FoundE es key i f ∧ Below w.heap.size w w'
theorem BsA.mk {es : List Ent} {key : ByteArray} {w w' : World} {e : Ending} (i : Nat) (f : Bool) (h1 : e = .returned (.tuple #[.int .i64 (i : Int), .bool f])) (h2 : FoundE es key i f) (h3 : Below w.heap.size w w') : BsA es key w e w' := ⟨i, f, h1, h2, h3⟩

set_option maxHeartbeats 4000000 in
theorem bsearch_at (b o cap : Nat) (es : List Ent) (key : ByteArray) (w : World) (hl : es.length ≤ 1024) (hb : b < w.heap.size) (hr : Rises es)
    (h3 : ∀ i, i < es.length → w.cell? ⟨b, o + i * 4, none⟩ = some (.string (entN es i).key) ∧ w.cell? ⟨b, o + i * 4 + 1, none⟩ = some (.int .i64 (entN es i).kind) ∧ w.cell? ⟨b, o + i * 4 + 2, none⟩ = some (.string (entN es i).text) ∧ w.cell? ⟨b, o + i * 4 + 3, none⟩ = some (.int .i64 (entN es i).num)) :
    Calls Tryz.prog 68 #[.slice (some ⟨b, o, none⟩) es.length cap, .string key, .func (.func 69) #[] #[]] w fun e w' => BsA es key w e w' := by
  have H3 := hide h3
  have HBB := hide hb
  have FA : Hid (∀ lo, (∀ j, j < lo → j < es.length → bys (entN es j).key < bys key) → (∀ j, lo ≤ j → j < es.length → ¬ bys (entN es j).key < bys key) → FoundE es key lo (decide (lo < es.length) && decide (cmpT (entN es lo).key key = 0))) := hide (fun lo h1 h2 => found_at hr h1 h2)
  have HRS := hide hr
  have HCA : Hid (∀ i X, Calls Tryz.prog 69 #[.agg #[.string (entN es i).key, .int .i64 (entN es i).kind, .string (entN es i).text, .int .i64 (entN es i).num], .string key] X fun e w' => e = .returned (.int .i64 (cmpT (entN es i).key key)) ∧ Below X.heap.size X w') := hide (fun i X => against_any _ _ _ _ key X)
  clear h3 hb hr
  obtain ⟨L, hL⟩ : ∃ L, L = es.length := ⟨_, rfl⟩
  rw [← hL] at hl ⊢
  have HL := hide hL
  clear hL
  go_enter Tryz.func68, Tryz.ntmps68
  go_wp2
  go_loopw [9, 10] (fun x y wr => ∃ lo hi : Nat, lo ≤ hi ∧ hi ≤ L ∧ x = .int .i64 (lo : Int) ∧ y = .int .i64 (hi : Int) ∧ Hid (∀ j, j < lo → j < es.length → bys (entN es j).key < bys key) ∧ Hid (∀ j, hi ≤ j → j < es.length → ¬ bys (entN es j).key < bys key) ∧ Hid (Below w.heap.size w wr)) (fun x y _ => (intOf y).toNat - (intOf x).toNat)
  case atStart => exact ⟨0, L, Nat.zero_le _, Nat.le_refl _, rfl, rfl, hide (fun j h => absurd h (Nat.not_lt_zero _)), hide (fun j h1 h2 => by rw [← HL.out] at h2; omega), Below.refl _ _⟩
  case round =>
    obtain ⟨lo, hi, hlh, hhl, rfl, rfl, H1, H2, HW⟩ := hrel
    by_cases hlt : lo < hi
    · have hlt' : (lo : Int) < (hi : Int) := by omega
      obtain ⟨m, hm⟩ : ∃ m, m = (lo + hi) / 2 := ⟨_, rfl⟩
      have hm1 : lo ≤ m := by omega
      have hm2 : m < hi := by omega
      have hmi : ((lo : Int) + (hi : Int)) / 2 = (m : Int) := by omega
      have hmL : (m : Int) < (L : Int) := by omega
      obtain ⟨c0, c1, c2, c3⟩ := H3.out m (by rw [← HL.out]; omega)
      have bc : ∀ j, wr.cell? ⟨b, j, none⟩ = w.cell? ⟨b, j, none⟩ := fun j => HW.out.cell HBB.out
      rw [← bc] at c0 c1 c2 c3
      have HC := hide (HCA.out m wr)
      have HNG := hide (cmpT_neg (entN es m).key key)
      obtain ⟨g, hg⟩ : ∃ g, g = entN es m := ⟨_, rfl⟩
      have HG := hide hg
      rw [← hg] at c0 c1 c2 c3 HC HNG
      obtain ⟨R, hR⟩ : ∃ R, R = cmpT g.key key := ⟨_, rfl⟩
      rw [← hR] at HC HNG
      clear hg hR bc hm
      by_cases hn : R < 0
      · have N1 : Hid (∀ j, j < m + 1 → j < es.length → bys (entN es j).key < bys key) := hide (fun j h1 h2 => by
          by_cases e : j = m
          · rw [e, ← HG.out]; exact HNG.out.1 hn
          · refine List.lt_trans (l₂ := bys (entN es m).key) ?_ (by rw [← HG.out]; exact HNG.out.1 hn)
            exact HRS.out j m (by omega) (by rw [← HL.out]; omega))
        clear HNG HG H1
        go_wp2_with fail
        refine HC.out.mono ?_
        rintro e w1 ⟨rfl, hb1⟩
        have HB := hide (HW.out.trans (hb1.mono HW.out.size))
        clear hb1 HC HW
        go_wp2
        exact ⟨⟨m + 1, hi, by omega, hhl, by go_num, rfl, N1, H2, HB⟩, by simp [intOf]; omega⟩
      · have N2 : Hid (∀ j, m ≤ j → j < es.length → ¬ bys (entN es j).key < bys key) := hide (fun j h1 h2 q => by
          have hnm : ¬ bys (entN es m).key < bys key := by rw [← HG.out]; exact fun q => hn (HNG.out.2 q)
          by_cases e : j = m
          · rw [e] at q; exact hnm q
          · exact hnm (List.lt_trans (HRS.out m j (by omega) h2) q))
        clear HNG HG H2
        go_wp2_with fail
        refine HC.out.mono ?_
        rintro e w1 ⟨rfl, hb1⟩
        have HB := hide (HW.out.trans (hb1.mono HW.out.size))
        clear hb1 HC HW
        go_wp2
        exact ⟨⟨lo, m, by omega, by omega, rfl, rfl, H1, N2, HB⟩, by simp [intOf]; omega⟩
    · obtain rfl : lo = hi := by omega
      have hlt' : ¬ (lo : Int) < (lo : Int) := by omega
      have HF := hide (FA.out lo H1.out H2.out)
      rw [← HL.out] at HF
      by_cases hq : lo < L
      · have hq' : (lo : Int) < (L : Int) := by omega
        obtain ⟨c0, c1, c2, c3⟩ := H3.out lo (by rw [← HL.out]; omega)
        have bc : ∀ j, wr.cell? ⟨b, j, none⟩ = w.cell? ⟨b, j, none⟩ := fun j => HW.out.cell HBB.out
        rw [← bc] at c0 c1 c2 c3
        have HC := hide (HCA.out lo wr)
        rw [decide_eq_true hq, Bool.true_and] at HF
        generalize (entN es lo) = g at *
        generalize cmpT g.key key = R at *
        clear H1 H2 FA HRS bc
        go_wp2_with fail
        refine HC.out.mono ?_
        rintro e w1 ⟨rfl, hb1⟩
        have HB := hide (HW.out.trans (hb1.mono HW.out.size))
        clear hb1 HC HW
        go_wp2
        go_ret2
        exact BsA.mk lo (decide (R = 0)) (by first | rfl | simp) HF.out HB.out
      · have hq' : ¬ (lo : Int) < (L : Int) := by omega
        rw [decide_eq_false hq, Bool.false_and] at HF
        clear H1 H2 FA HRS
        go_wp2
        go_ret2
        exact BsA.mk lo false rfl HF.out HW.out

set_option maxHeartbeats 1000000 in
theorem bsearch_nil (ao : Option Addr) (cap : Nat) (key : ByteArray) (fv : Value) (w : World) :
    Calls Tryz.prog 68 #[.slice ao 0 cap, .string key, fv] w fun e w' => BsA [] key w e w' := by
  have HF : Hid (FoundE [] key 0 false) := hide ⟨fun h => by (cases h), fun _ j hj => absurd hj (Nat.not_lt_zero _)⟩
  go_enter Tryz.func68, Tryz.ntmps68
  go_wp2
  go_loopw [9, 10] (fun x y wr => x = .int .i64 0 ∧ y = .int .i64 0 ∧ wr = w) (fun _ _ _ => 0)
  case atStart => exact ⟨rfl, rfl, rfl⟩
  case round =>
    obtain ⟨rfl, rfl, rfl⟩ := hrel
    go_wp2
    go_ret2
    exact BsA.mk 0 false rfl HF.out (Below.refl _ _)

theorem bsearch_any {w : World} {v : Value} {es : List Ent} (key : ByteArray) (h : ESl w v es) (hl : es.length ≤ 1024) (hr : Rises es) :
    Calls Tryz.prog 68 #[v, .string key, .func (.func 69) #[] #[]] w fun e w' => BsA es key w e w' := by
  obtain ⟨ao, cap, rfl, h2, h3⟩ := h
  rcases h3 with rfl | ⟨b, o, rfl, hb, h3⟩
  · exact bsearch_nil ao cap key _ w
  · exact bsearch_at b o cap es key w hl hb hr h3

def findE (es : List Ent) (key : ByteArray) : Option Ent := es.find? (fun e => decide (e.key = key))
def firstT (cs : List Tab) (key : ByteArray) : Option Ent := cs.findSome? (fun t => findE t.ents key)

theorem findE_none {es : List Ent} {key : ByteArray} (h : ∀ j, j < es.length → (entN es j).key ≠ key) : findE es key = none := by
  unfold findE
  rw [List.find?_eq_none]
  intro e he
  obtain ⟨j, hj, rfl⟩ := List.getElem_of_mem he
  have := h j hj
  rw [entN_get (List.getElem?_eq_getElem hj)] at this
  simpa using this

theorem findE_some {es : List Ent} {key : ByteArray} (hr : Rises es) {i : Nat} (hi : i < es.length) (hk : (entN es i).key = key) : findE es key = some (entN es i) := by
  unfold findE
  rw [List.find?_eq_some_iff_getElem]
  refine ⟨by simpa using hk, i, hi, (entN_get (List.getElem?_eq_getElem hi)).symm, fun j hj => ?_⟩
  have := hr j i hj hi
  rw [hk, entN_get (List.getElem?_eq_getElem (by omega))] at this
  simp only [Bool.not_eq_true', decide_eq_false_iff_not]
  intro q
  rw [q] at this
  exact List.lt_irrefl _ this

theorem results_ent2 {fn : Func} {a c : Tmp} (h : fn.results = #[.cell a 33, .tmp c]) (tmps : Array Value) (H : Nat) (x0 x1 x2 x3 : Value) (w : World) (ht : tmps.getD a undef = .pointer (some ⟨H, 0, none⟩)) (hp : Blk w H #[x0, x1, x2, x3] 33) :
    (results fn tmps).run Tryz.prog w = .ok (.tuple #[.agg #[x0, x1, x2, x3], tmps.getD c undef]) w := by
  have c0 := hp.cell 0
  have c1 := hp.cell 1
  have c2 := hp.cell 2
  have c3 := hp.cell 3
  simp at c0 c1 c2 c3
  rw [Array.getD_eq_getD_getElem?] at ht
  simp [results, h, ht, go_sem, c0, c1, c2, c3]

theorem below_putE {w W : World} {H : Nat} (h : Below w.heap.size w W) (hH : w.heap.size ≤ H) (y0 y1 y2 y3 : Value) : Below w.heap.size w ((((W.setCell ⟨H, 0, none⟩ y0).setCell ⟨H, 1, none⟩ y1).setCell ⟨H, 2, none⟩ y2).setCell ⟨H, 3, none⟩ y3) :=
  (((h.setCell hH _).setCell hH _).setCell hH _).setCell hH _

def Good (cs : List Tab) : Prop := ∀ k, (tabN cs k).ents.length ≤ 1024 ∧ Rises (tabN cs k).ents

theorem first_next (cs : List Tab) (key : ByteArray) (k : Nat) (hk : k < cs.length) : firstT (cs.drop k) key = match findE (tabN cs k).ents key with | some e => some e | none => firstT (cs.drop (k + 1)) key := by
  rw [List.drop_eq_getElem_cons hk]
  have e : tabN cs k = cs[k] := tabN_get (List.getElem?_eq_getElem hk)
  rw [e]
  unfold firstT
  rw [List.findSome?_cons]
  cases findE cs[k].ents key <;> rfl

set_option maxHeartbeats 4000000 in
theorem firstOf_at (b o cap : Nat) (cs : List Tab) (key : ByteArray) (w : World) (hl : cs.length ≤ 16) (hb : b < w.heap.size) (hc : cs.length ≤ cap) (hg : Good cs) (h3 : ∀ i, i < cs.length → TabAt w b o i (tabN cs i)) :
    Calls Tryz.prog 41 #[.slice (some ⟨b, o, none⟩) cs.length cap, .string key] w fun e w' => e = .returned (.tuple #[entV ((firstT cs key).getD Ent.zero), .bool (firstT cs key).isSome]) ∧ Below w.heap.size w w' := by
  have H3 := hide h3
  have HBB := hide hb
  have HGD := hide hg
  obtain ⟨WA, hWA⟩ : ∃ WA, WA = w.alloc (.cells #[.string ⟨#[]⟩, .int .i64 0, .string ⟨#[]⟩, .int .i64 0] 33) := ⟨_, rfl⟩
  have BA : Hid (Below w.heap.size w WA) := hide (by rw [hWA]; exact (Below.refl _ _).alloc (Nat.le_refl _) _)
  have Q : Hid (Blk WA w.heap.size #[.string ⟨#[]⟩, .int .i64 0, .string ⟨#[]⟩, .int .i64 0] 33) := hide (by rw [hWA]; exact Blk.newAt w w.heap.size rfl _ _)
  have HWA := hide hWA.symm
  clear h3 hb hg hWA
  obtain ⟨L, hL⟩ : ∃ L, L = cs.length := ⟨_, rfl⟩
  rw [← hL] at hl hc ⊢
  have HL := hide hL
  clear hL
  obtain ⟨R, hR⟩ : ∃ R, R = firstT cs key := ⟨_, rfl⟩
  rw [← hR]
  have HR := hide hR
  clear hR
  go_enter Tryz.func41, Tryz.ntmps41
  go_wp2_with (simp only [HWA.out])
  go_loopw [12] (fun p wr => ∃ k : Nat, k ≤ L ∧ p = .int .i64 (k : Int) ∧ Hid (firstT (cs.drop k) key = R) ∧ Hid (Below WA.heap.size WA wr)) (fun p _ => L - (intOf p).toNat)
  case atStart => exact ⟨0, Nat.zero_le _, rfl, hide (by rw [HR.out, List.drop_zero]), Below.refl _ _⟩
  case round =>
    obtain ⟨k, hk, rfl, HF, HW⟩ := hrel
    have HWW := hide (BA.out.trans (HW.out.mono BA.out.size))
    have QW := hide (Q.out.below HW.out Q.out.lt)
    by_cases hlt : k < L
    · have hlt' : (k : Int) < (L : Int) := by omega
      have hkt : k < cs.length := by rw [← HL.out]; exact hlt
      obtain ⟨c0, c1, v, c2, hes⟩ := (H3.out k hkt).below HBB.out HWW.out
      obtain ⟨hg1, hg2⟩ := HGD.out k
      have e1 := first_next cs key k hkt
      rw [HF.out] at e1
      obtain ⟨g, hg⟩ : ∃ g, g = tabN cs k := ⟨_, rfl⟩
      rw [← hg] at c0 c1 e1 hes hg1 hg2
      have hes' := hes
      obtain ⟨a2, cap2, rfl, hc2, _⟩ := hes'
      obtain ⟨M, hM⟩ : ∃ M, M = g.ents.length := ⟨_, rfl⟩
      rw [← hM] at hg1 hc2 c2 hes
      have HM := hide hM
      clear hM
      obtain ⟨WB, hWB⟩ : ∃ WB, WB = wr.alloc (.cells #[.string g.name, .int .i64 g.parent, .slice a2 M cap2] 31) := ⟨_, rfl⟩
      have BB : Hid (Below wr.heap.size wr WB) := hide (by rw [hWB]; exact (Below.refl _ _).alloc (Nat.le_refl _) _)
      have QB := hide (Blk.newAt wr wr.heap.size rfl #[.string g.name, .int .i64 g.parent, .slice a2 M cap2] 31)
      rw [← hWB] at QB
      have HWB := hide hWB.symm
      have HS := hide (bsearch_any key (hes.below BB.out) (by rw [← HM.out]; exact hg1) hg2)
      have HES := hide (hes.below BB.out)
      have q2 := QB.out.cell 2
      have E1 := hide e1
      have HRI := hide hg2
      clear hg e1 HF hkt hg2 hWB
      go_wp2_with (simp only [HWB.out])
      refine HS.out.mono ?_
      rintro e w1 ⟨i, f, rfl, hfnd, hb1⟩
      have HB := hide (HW.out.trans ((BB.out.trans (hb1.mono BB.out.size)).mono HW.out.size))
      have HBW := hide (BA.out.trans (HB.out.mono BA.out.size))
      have QV := hide (QW.out.below (BB.out.trans (hb1.mono BB.out.size)) QW.out.lt)
      have p2 := (QB.out.below hb1 QB.out.lt).cell 2
      have HFD := hide hfnd
      cases f
      · have EN : Hid (firstT (cs.drop (k + 1)) key = R) := hide (by rw [E1.out, findE_none (HFD.out.2 rfl)])
        clear hb1 HS hfnd E1 HES hes
        go_wp2
        exact ⟨⟨k + 1, by omega, by go_num, EN, HB⟩, by simp [intOf]; omega⟩
      · obtain ⟨hi, hik⟩ := hfnd.1 rfl
        have EN : Hid (R = some (entN g.ents i)) := hide (by rw [E1.out, findE_some HRI.out hi hik])
        obtain ⟨a2', cap2', hv2, hc2', hE2⟩ := HES.out.below hb1
        simp only [Value.slice.injEq] at hv2
        obtain ⟨rfl, _, rfl⟩ := hv2
        obtain ⟨b2, o2, ha2, hb2, hcl⟩ : ∃ b o, a2 = some ⟨b, o, none⟩ ∧ b < w1.heap.size ∧ ∀ i, i < g.ents.length → w1.cell? ⟨b, o + i * 4, none⟩ = some (.string (entN g.ents i).key) ∧ w1.cell? ⟨b, o + i * 4 + 1, none⟩ = some (.int .i64 (entN g.ents i).kind) ∧ w1.cell? ⟨b, o + i * 4 + 2, none⟩ = some (.string (entN g.ents i).text) ∧ w1.cell? ⟨b, o + i * 4 + 3, none⟩ = some (.int .i64 (entN g.ents i).num) := by
          rcases hE2 with h | h
          · rw [h] at hi; simp at hi
          · exact h
        subst ha2
        obtain ⟨x0, x1, x2, x3⟩ := hcl i hi
        obtain ⟨ge, hge⟩ : ∃ ge, ge = entN g.ents i := ⟨_, rfl⟩
        rw [← hge] at x0 x1 x2 x3 EN
        rw [← HM.out] at hi
        have hi' : (i : Int) < (M : Int) := by omega
        have f0 := QV.out.free 0
        have f1 := QV.out.free 1
        have f2 := QV.out.free 2
        have f3 := QV.out.free 3
        have y0 := QV.out.cell 0
        have y1 := QV.out.cell 1
        have y2 := QV.out.cell 2
        have y3 := QV.out.cell 3
        clear hb1 HS hfnd E1 HES hes hcl hge HFD hik hE2 q2 c2 HWB QB hc2'
        go_wp2
        refine bodyPost_ret (results_ent2 rfl _ _ _ _ _ _ _ rfl (QV.out.put4 _ _ _ _)) rfl ?_
        exact ⟨by rw [EN.out]; rfl, below_putE HBW.out (Nat.le_refl _) _ _ _ _⟩
    · obtain rfl : k = L := by omega
      have hlt' : ¬ (k : Int) < (k : Int) := by omega
      have E1 : Hid (R = none) := hide (by rw [← HF.out, List.drop_eq_nil_of_le (by rw [← HL.out]; exact Nat.le_refl _)]; rfl)
      have f0 := QW.out.free 0
      have f1 := QW.out.free 1
      have f2 := QW.out.free 2
      have f3 := QW.out.free 3
      have y0 := QW.out.cell 0
      have y1 := QW.out.cell 1
      have y2 := QW.out.cell 2
      have y3 := QW.out.cell 3
      clear HF hlt
      go_wp2
      refine bodyPost_ret (results_ent2 rfl _ _ _ _ _ _ _ rfl (QW.out.put4 _ _ _ _)) rfl ?_
      exact ⟨by rw [E1.out]; rfl, below_putE HWW.out (Nat.le_refl _) _ _ _ _⟩

end Go.Proofs.YtihnakblcfealaaGreatDoor

namespace Go.Proofs.YtihnakblcfealaaGreatDoor
open Go.RowKit

def findN (cs : List Tab) : Nat → ByteArray → Ent × Nat
  | 0, _ => (Ent.zero, 124)
  | n + 1, key => match firstT cs key with
    | none => (Ent.zero, 125)
    | some e => if e.kind = 2 then findN cs n e.text else (e, 0)

def findT (ts : List Tab) (name key : ByteArray) : Ent × Nat := if chE ts name ≠ 0 then (Ent.zero, chE ts name) else findN (chL ts name) 9 key

theorem ents_rise : ∀ (es : List Ent) (last : ByteArray), entsE last es = 0 → (∀ i, i < es.length → bys last < bys (entN es i).key) ∧ Rises es ∧ ∀ i, i < es.length → mayName (entN es i).key = true ∧ mayVal (entN es i) = true
  | [], last, _ => ⟨fun i h => absurd h (Nat.not_lt_zero _), fun i j _ h => absurd h (Nat.not_lt_zero _), fun i h => absurd h (Nat.not_lt_zero _)⟩
  | e :: r, last, h => by
    unfold entsE at h
    by_cases h1 : mayName e.key = false
    · rw [if_pos h1] at h; cases h
    rw [if_neg h1] at h
    by_cases h2 : leT e.key last = true
    · rw [if_pos h2] at h; cases h
    rw [if_neg h2] at h
    by_cases h3 : mayVal e = false
    · rw [if_pos h3] at h; cases h
    rw [if_neg h3] at h
    obtain ⟨i1, i2, i3⟩ := ents_rise r e.key h
    rw [leT_iff, decide_eq_true_eq] at h2
    have hlt : bys last < bys e.key := List.not_le.1 h2
    have sh : ∀ i, entN (e :: r) (i + 1) = entN r i := fun i => rfl
    have s0 : entN (e :: r) 0 = e := rfl
    refine ⟨fun i hi => ?_, fun i j hij hj => ?_, fun i hi => ?_⟩
    · rcases i with _ | i
      · exact hlt
      · rw [sh]; exact List.lt_trans hlt (i1 i (by simpa using hi))
    · rcases j with _ | j
      · omega
      · rcases i with _ | i
        · rw [sh, s0]; exact i1 j (by simpa using hj)
        · rw [sh, sh]; exact i2 i j (by omega) (by simpa using hj)
    · rcases i with _ | i
      · rw [s0]; exact ⟨by simpa using h1, by simpa using h3⟩
      · rw [sh]; exact i3 i (by simpa using hi)

theorem chainP_mem {ts : List Tab} (hd : Down ts) : ∀ (n : Nat) (p : Int), (p + 1).toNat ≤ n → p < ts.length → ∀ t ∈ chainP ts p, ∃ k, k < ts.length ∧ t = tabN ts k := by
  intro n
  induction n with
  | zero =>
    intro p hp _ t ht
    have : (p + 1).toNat = 0 := by omega
    unfold chainP at ht
    rw [this] at ht
    simp [chainF] at ht
  | succ n ih =>
    intro p hp hl t ht
    rcases Int.lt_or_le p 0 with h | h
    · have : (p + 1).toNat = 0 := by omega
      unfold chainP at ht
      rw [this] at ht
      simp [chainF] at ht
    · obtain ⟨k, rfl⟩ : ∃ k : Nat, p = (k : Int) := ⟨p.toNat, by omega⟩
      obtain ⟨h1, h2⟩ := hd k (by omega)
      rw [chainP_step hd k (by omega)] at ht
      rcases List.mem_cons.1 ht with q | q
      · exact ⟨k, by omega, q⟩
      · exact ih _ (by omega) (by omega) t q

theorem ch_good {ts : List Tab} {n : ByteArray} (h : chE ts n = 0) : Good (chL ts n) ∧ (chL ts n).length ≤ 16 ∧ chL ts n ≠ [] ∧ checkT ts = 0 := by
  unfold chE at h
  by_cases h1 : checkT ts ≠ 0
  · rw [if_pos h1] at h; exact absurd h h1
  rw [if_neg h1] at h
  have hc := Decidable.not_not.1 h1
  by_cases h2 : placeT ts n = -1
  · rw [if_pos h2] at h; cases h
  have hd := check_down hc
  obtain ⟨p, hp, hpe, _⟩ := (placeT_range ts n).resolve_left h2
  obtain ⟨_, l16, he⟩ := counts_len (check_zero hc).1
  refine ⟨fun k => ?_, ?_, ?_, hc⟩
  · unfold tabN
    cases e : (chL ts n)[k]? with
    | none => exact ⟨Nat.zero_le _, fun i j _ q => absurd q (Nat.not_lt_zero _)⟩
    | some t =>
      obtain ⟨i, hi, rfl⟩ := chainP_mem hd _ (placeT ts n) (Nat.le_refl _) (by rw [hpe]; omega) t (List.mem_of_getElem? e)
      exact ⟨he i, (ents_rise _ _ (tabE_zero ((check_zero hc).2.1 i hi)).2.2.2.2).2.1⟩
  · have := chainP_len hd _ (placeT ts n) (Nat.le_refl _) (by rw [hpe]; omega)
    unfold chL
    rw [hpe] at this ⊢
    omega
  · unfold chL
    rw [hpe, chainP_step hd p hp]
    exact List.cons_ne_nil _ _

theorem firstOf_any {w : World} {v : Value} {cs : List Tab} (key : ByteArray) (h : TSl w v cs) (hl : cs.length ≤ 16) (hg : Good cs) (hn : cs ≠ []) :
    Calls Tryz.prog 41 #[v, .string key] w fun e w' => e = .returned (.tuple #[entV ((firstT cs key).getD Ent.zero), .bool (firstT cs key).isSome]) ∧ Below w.heap.size w w' := by
  obtain ⟨ao, cap, rfl, h2, h3⟩ := h
  rcases h3 with h0 | ⟨b, o, rfl, hb, h3⟩
  · exact absurd h0 hn
  · exact firstOf_at b o cap cs key w hl hb h2 hg h3

def ansF (r : Ent × Nat) : Value := .tuple #[entV r.1, .int .i64 (r.2 : Int)]

set_option maxHeartbeats 4000000 in
theorem Find_any {w : World} {v : Value} {ts : List Tab} (n key : ByteArray) (h : TSl w v ts) (hl : ts.length ≤ 9223372036854775806) (hz : SzT ts) (hT : U8 w) : Calls Tryz.prog 16 #[.agg #[v], .string n, .string key] w fun e w' => e = .returned (ansF (findT ts n key)) ∧ Below w.heap.size w w' := by
  obtain ⟨WA, hWA⟩ : ∃ WA, WA = (w.alloc (.cells #[v] 24)).alloc (.cells #[.string ⟨#[]⟩, .int .i64 0, .string ⟨#[]⟩, .int .i64 0] 33) := ⟨_, rfl⟩
  have BA : Hid (Below w.heap.size w WA) := hide (by rw [hWA]; exact ((Below.refl _ _).alloc (Nat.le_refl _) _).alloc ((Below.refl _ _).alloc (Nat.le_refl _) _).size _)
  have Q1 : Hid (Blk WA w.heap.size #[v] 24) := hide (by rw [hWA]; exact (Blk.new _ _ _).alloc _)
  have Q2 : Hid (Blk WA (w.heap.size + 1) #[.string ⟨#[]⟩, .int .i64 0, .string ⟨#[]⟩, .int .i64 0] 33) := hide (by rw [hWA]; exact Blk.newAt _ _ (by simp) _ _)
  have HWA := hide hWA.symm
  have CH := hide (chainOf_any n (h.below BA.out) hl hz (hT.below BA.out))
  have CG : Hid (chE ts n = 0 → Good (chL ts n) ∧ (chL ts n).length ≤ 16 ∧ chL ts n ≠ [] ∧ checkT ts = 0) := hide ch_good
  have RE : Hid (findT ts n key = if chE ts n ≠ 0 then (Ent.zero, chE ts n) else findN (chL ts n) 9 key) := hide rfl
  generalize findT ts n key = R at *
  generalize chE ts n = C at *
  generalize chL ts n = cs at *
  obtain ⟨ao, cap, rfl, hcap, hat⟩ := h
  have q0 := Q1.out.cell 0
  clear hWA hT hz hat
  by_cases hC : C = 0
  · subst hC
    rw [if_neg (fun q => q rfl)] at RE
    obtain ⟨hg, hl16, hne, _⟩ := CG.out rfl
    have FO : Hid (∀ X v', TSl X v' cs → ∀ k, Calls Tryz.prog 41 #[v', .string k] X fun e w' => e = .returned (.tuple #[entV ((firstT cs k).getD Ent.zero), .bool (firstT cs k).isSome]) ∧ Below X.heap.size X w') := hide (fun X v' hX k => firstOf_any k hX hl16 hg hne)
    clear CG hg hl16 hne
    go_enter Tryz.func16, Tryz.ntmps16
    go_wp2_with (simp only [HWA.out])
    refine CH.out.mono ?_
    rintro e w1 ⟨v', rfl, hts, _, hb1⟩
    have TS := hide (hts trivial)
    have B1 := hide hb1
    clear hb1 hts CH
    go_wp2
    go_loopw [2, 22] (fun x y wr => ∃ (i : Nat) (k : ByteArray), i ≤ 9 ∧ x = .string k ∧ y = .int .i64 (i : Int) ∧ Hid (findN cs (9 - i) k = R) ∧ Hid (Below w1.heap.size w1 wr)) (fun _ y _ => 9 - (intOf y).toNat)
    case atStart => exact ⟨0, key, Nat.zero_le _, rfl, rfl, hide RE.out.symm, Below.refl _ _⟩
    case round =>
      obtain ⟨i, k, hi, rfl, rfl, HF, HW⟩ := hrel
      have BW := hide (B1.out.trans (HW.out.mono B1.out.size))
      have BT := hide (BA.out.trans (BW.out.mono BA.out.size))
      have QW := hide (Q2.out.below BW.out Q2.out.lt)
      by_cases hlt : i < 9
      · have hlt' : (i : Int) < 9 := by omega
        have FK := hide (FO.out wr v' (TS.out.below HW.out) k)
        have E1 : Hid (R = match firstT cs k with | none => (Ent.zero, 125) | some e => if e.kind = 2 then findN cs (9 - (i + 1)) e.text else (e, 0)) := hide (by
          rw [← HF.out, show 9 - i = (9 - (i + 1)) + 1 by omega]; rfl)
        clear HF
        cases hf : firstT cs k with
        | none =>
          rw [hf] at FK E1
          have EE : Hid (R = (Ent.zero, 125)) := hide E1.out
          clear E1 hf
          go_wp2_with fail
          refine FK.out.mono ?_
          rintro e w2 ⟨rfl, hb2⟩
          have QV := hide ((QW.out.below hb2 QW.out.lt).alloc (.cells #[.string ⟨#[]⟩, .int .i64 0, .string ⟨#[]⟩, .int .i64 0] 33))
          have BV := hide ((BT.out.trans (hb2.mono BT.out.size)).alloc (BT.out.trans (hb2.mono BT.out.size)).size (.cells #[.string ⟨#[]⟩, .int .i64 0, .string ⟨#[]⟩, .int .i64 0] 33))
          have f0 := QV.out.free 0
          have f1 := QV.out.free 1
          have f2 := QV.out.free 2
          have f3 := QV.out.free 3
          have y0 := QV.out.cell 0
          have y1 := QV.out.cell 1
          have y2 := QV.out.cell 2
          have y3 := QV.out.cell 3
          clear hb2 FK
          unfold entV Ent.zero
          simp only [Option.getD_none, Option.isSome_none]
          go_wp2
          refine bodyPost_ret (results_ent2 rfl _ _ _ _ _ _ _ rfl (QV.out.put4 _ _ _ _)) rfl ?_
          exact ⟨by rw [EE.out]; rfl, below_putE BV.out (Nat.le_succ _) _ _ _ _⟩
        | some g =>
          rw [hf] at FK E1
          have E1' : Hid (R = if g.kind = 2 then findN cs (9 - (i + 1)) g.text else (g, 0)) := hide E1.out
          obtain ⟨gk, gd, gt, gn⟩ := g
          clear E1 hf
          go_wp2_with fail
          refine FK.out.mono ?_
          rintro e w2 ⟨rfl, hb2⟩
          have QV := hide ((QW.out.below hb2 QW.out.lt).alloc (.cells #[.string gk, .int .i64 gd, .string gt, .int .i64 gn] 33))
          have BV := hide ((BT.out.trans (hb2.mono BT.out.size)).alloc (BT.out.trans (hb2.mono BT.out.size)).size (.cells #[.string gk, .int .i64 gd, .string gt, .int .i64 gn] 33))
          have BN := hide ((HW.out.trans (hb2.mono HW.out.size)).alloc (HW.out.trans (hb2.mono HW.out.size)).size (.cells #[.string gk, .int .i64 gd, .string gt, .int .i64 gn] 33))
          have f0 := QV.out.free 0
          have f1 := QV.out.free 1
          have f2 := QV.out.free 2
          have f3 := QV.out.free 3
          have y0 := QV.out.cell 0
          have y1 := QV.out.cell 1
          have y2 := QV.out.cell 2
          have y3 := QV.out.cell 3
          clear hb2 FK
          unfold entV
          simp only [Option.getD_some, Option.isSome_some]
          by_cases h2 : gd = 2
          · have EE : Hid (findN cs (9 - (i + 1)) gt = R) := hide (by rw [E1'.out, if_pos h2])
            have h2' : (gd == 2) = true := beq_iff_eq.2 h2
            have h2b : (gd != 2) = false := by rw [bne, h2']; rfl
            clear E1' h2
            go_wp2
            exact ⟨⟨i + 1, gt, by omega, rfl, by go_num, EE, BN⟩, by simp [intOf]; omega⟩
          · have EE : Hid (R = (⟨gk, gd, gt, gn⟩, 0)) := hide (by rw [E1'.out, if_neg h2])
            have h2' : (gd == 2) = false := beq_eq_false_iff_ne.2 h2
            have h2b : (gd != 2) = true := by rw [bne, h2']; rfl
            clear E1' h2
            go_wp2
            refine bodyPost_ret (results_ent2 rfl _ _ _ _ _ _ _ rfl (QV.out.put4 _ _ _ _)) rfl ?_
            exact ⟨by rw [EE.out]; rfl, below_putE BV.out (Nat.le_succ _) _ _ _ _⟩
      · obtain rfl : i = 9 := by omega
        have EE : Hid (R = (Ent.zero, 124)) := hide (by rw [← HF.out]; rfl)
        have f0 := QW.out.free 0
        have f1 := QW.out.free 1
        have f2 := QW.out.free 2
        have f3 := QW.out.free 3
        have y0 := QW.out.cell 0
        have y1 := QW.out.cell 1
        have y2 := QW.out.cell 2
        have y3 := QW.out.cell 3
        clear HF hlt
        go_wp2
        refine bodyPost_ret (results_ent2 rfl _ _ _ _ _ _ _ rfl (QW.out.put4 _ _ _ _)) rfl ?_
        exact ⟨by rw [EE.out]; rfl, below_putE BT.out (Nat.le_succ _) _ _ _ _⟩
  · have EE : Hid (R = (Ent.zero, C)) := hide (by rw [RE.out, if_pos hC])
    have hC' : ((C : Int) == 0) = false := beq_eq_false_iff_ne.2 (by omega)
    have hC2 : ((C : Int) != 0) = true := by rw [bne, hC']; rfl
    clear RE CG
    go_enter Tryz.func16, Tryz.ntmps16
    go_wp2_with (simp only [HWA.out])
    refine CH.out.mono ?_
    rintro e w1 ⟨v', rfl, _, _, hb1⟩
    have QV := hide (Q2.out.below hb1 Q2.out.lt)
    have BV := hide (BA.out.trans (hb1.mono BA.out.size))
    have f0 := QV.out.free 0
    have f1 := QV.out.free 1
    have f2 := QV.out.free 2
    have f3 := QV.out.free 3
    have y0 := QV.out.cell 0
    have y1 := QV.out.cell 1
    have y2 := QV.out.cell 2
    have y3 := QV.out.cell 3
    clear hb1 CH
    go_wp2
    refine bodyPost_ret (results_ent2 rfl _ _ _ _ _ _ _ rfl (QV.out.put4 _ _ _ _)) rfl ?_
    exact ⟨by rw [EE.out]; rfl, below_putE BV.out (Nat.le_succ _) _ _ _ _⟩

end Go.Proofs.YtihnakblcfealaaGreatDoor

namespace Go.Proofs.YtihnakblcfealaaGreatDoor
open Go.RowKit Go.Maps Go.Sort

def poolL (l : List ByteArray) : List (List UInt8) := (strKeys (setOf (H := Unit) (.agg []) (l.map litT))).mergeSort leB

theorem infoS : (Tryz.prog.info? 9).map (fun i => (i.zero, i.size, i.bytes)) = some (some (.string ⟨#[]⟩), 1, 16) := by kernel_rfl

def RowS (w : World) (base : Nat) (v : Value) (ss : List (List UInt8)) : Prop := w.ownsRow base 9 1 v ss.length (ss.map encStr)

set_option maxRecDepth 100000 in
set_option maxHeartbeats 2000000 in
theorem rising_any {w : World} {g n : Nat} {l : List ByteArray} (h : SetAt w g n l) (hl : poolS l ≤ 1000000) :
    Calls Tryz.prog 28 #[.map (some g)] w fun e w' => ∃ q cap, e = .returned (.slice (some ⟨q, 0, none⟩) (poolL l).length cap) ∧ RowS w' w.heap.size (.slice (some ⟨q, 0, none⟩) (poolL l).length cap) (poolL l) ∧ Below w.heap.size w w' := by
  obtain ⟨i0, hi, hz0, hz1, hz2⟩ := info_parts infoS
  have hown : w.ownsMap (H := Unit) Tryz.prog 9 (unitElem (H := Unit)) g n (setOf (.agg []) (l.map litT)) := h
  have hbl := h.lt
  have HPL : Hid (∀ ss : List (List UInt8), ss.Perm (strKeys (setOf (H := Unit) (.agg []) (l.map litT))) → ss.mergeSort leB = poolL l) := hide (fun ss hp => mergeSort_of_perm hp)
  have hpl : Maps.size (setOf (H := Unit) (.agg []) (l.map litT)) ≤ 1000000 := hl
  generalize setOf (H := Unit) (.agg []) (l.map litT) = D0 at *
  clear h hl
  go_enter Tryz.func28, Tryz.ntmps28
  go_wp2_with (first
    | (at_len; refine wpList_len_own _ rfl _ 74 rfl 9 _ Tryz.underlying74 _ g n _ rfl hown ?_)
    | (at_make; refine wpList_make_own _ rfl _ _ 38 rfl w.heap.size 9 i0 (.string ⟨#[]⟩) 1 Tryz.underlying38 hi hz0 hz1 _ _ _ (Maps.size D0) rfl rfl rfl (by rw [hz2]; omega) (by unfold maxLen; omega) (Nat.le_refl _) ?_; intro w1 hrow1 hg1)
    | (at_range; refine wpList_range_own _ rfl _ 74 rfl 9 _ keyS Tryz.underlying74 _ g n _ rfl (hown.kept hg1 (by simp)) ?_; intro w0 hrg0 hg0 hs0)
    | go_in)
  go_frame
  go_loopw [3] (fun v wr => ∃ (left : Lit → Bool) (cnt : Nat) (ss : List (List UInt8)), wr.ranges Tryz.prog 9 (unitElem (H := Unit)) g w1.heap.size n D0 left cnt ∧ ss.length + cnt ≤ Maps.size D0 ∧
      wr.ownsRow w.heap.size 9 1 v ss.length (ss.map encStr) ∧ v ≠ .slice none 0 0 ∧ Collected D0 left ss ∧ Below w.heap.size w wr)
    (fun _ wr => wr.rangeLeft g w1.heap.size)
  case atStart =>
    exact ⟨_, _, [], hrg0, by simp, hrow1.kept hg0 (Or.inr (by simp [Value.ownBlock])), by simp, Collected.start D0,
      ((Below.refl _ _).grown hg1 (Nat.le_refl _) (fun j hj => by cases hj)).grown hg0 hg1.size (fun j hj => by cases hj)⟩
  case round =>
    obtain ⟨left, cnt, ss, hrg, hcs, hrow, hnn, hC, hnx⟩ := hrel
    go_wp2_with (first
      | (at_next; refine wpList_next_ranges _ rfl _ rfl 9 keyS (unitElem (H := Unit)) encStr (fun (_ : Unit) => Value.agg #[]) (fun key kl hk => by obtain ⟨x, hx, _⟩ := Maps.keyOf_str Tryz.underlying9 hk; exact ⟨x, hx⟩) (fun v y hv => ⟨(), (unitElem_inv hv).1⟩) g w1.heap.size n _ _ _ rfl hrg ?_ ?_)
      | go_in)
    · intro hc0 hl0
      rcases hrow.2 with ⟨hnil, _⟩ | ⟨q, cap, cur, rfl, hbase, hb, h1, h2, h3, h4⟩
      · exact absurd hnil hnn
      have hH : Holds encStr wr q 0 ss.toArray := holds_of_block hb (by simpa using h4)
      have hgl : q < wr.heap.size := (Array.getElem?_eq_some_iff.1 hb).1
      have hc := Tryz.slices_Sort_string q 0 cap ss wr hH hgl (by omega)
      go_wp2_with (go_at_call 59; refine hc.mono ?_; rintro e w' ⟨rfl, nn, os, rfl⟩)
      go_ret
      have e1 := HPL.out ss (hC.perm hown keyS Tryz.underlying9 hl0)
      have e2 : (poolL l).length = ss.length := by rw [← e1]; simp
      rw [e2]
      refine ⟨q, cap, rfl, ?_, hnx.grown (grownBy_sorted _) hnx.size (fun j hj => by cases hj; exact hbase)⟩
      unfold RowS
      rw [e2, ← e1]
      exact ownsRow_sorted (by simp) hbase hb h1 h2 h3
    · intro x kl yd yp w2 cnt2 hkey hlk hv hat hrg2 hlt hg2 hs2 hen
      obtain ⟨x', ex, rfl, _⟩ := Maps.keyOf_str Tryz.underlying9 hkey
      obtain rfl : x = x' := encStr_inj ex
      have hrow2 := hrow.kept hg2 (Or.inr (row_ne_iter hrow hrg).symm)
      clear hs2
      go_wp2_with (first
        | (at_builtin; refine wpList_append_own _ rfl _ _ 38 rfl w.heap.size 9 i0 (.string ⟨#[]⟩) 1 16 Tryz.underlying38 hi hz0 hz1 hz2 rfl (by decide) _ _ _ rfl (hrow2.alloc _) ⟨w2.heap.size, 0, none⟩ 1 1 [encStr x] rfl rfl (cell_one_new _ _ _) (by simp [Value.oneCell', encStr]) (by unfold maxLen at *; omega) (by omega) (by have := hnx.size; have := hg2.size; simp; omega) ?_; intro v' w3 hown' hg3 hnil3; go_frame)
        | go_in)
      have hrg3 := (hrg2.alloc _).kept hg3 (row_ne_low hrow2 hbl) (row_ne_iter hrow2 hrg2)
      go_roundw
      case rel =>
        refine ⟨_, cnt2, ss ++ [x], hrg3, by simp; omega, by simpa using hown', fun hv' => by have := (hnil3.1 hv').2; omega, hC.step hlk hat, ?_⟩
        exact ((hnx.grown hg2 hnx.size (fun j hj => by cases hj; exact hg1.size)).alloc (by have := hnx.size; have := hg2.size; omega) _).grown hg3 (by have := hnx.size; have := hg2.size; simp; omega) (fun j hj => (hrow2.lt j hj).1)
      case measure => rw [hrg3.left_eq, hrg.left_eq]; exact hlt

end Go.Proofs.YtihnakblcfealaaGreatDoor

namespace Go.Proofs.YtihnakblcfealaaGreatDoor
open Go.RowKit Go.Maps

def begins (b s : ByteArray) : Bool := Lib.hasPrefix s.data.toList b.data.toList
def keysE (b : ByteArray) (es : List Ent) : List ByteArray := (es.filter (fun e => begins b e.key)).map Ent.key
def keysL (b : ByteArray) (cs : List Tab) : List ByteArray := cs.flatMap (fun t => keysE b t.ents)

theorem keysL_next (b : ByteArray) (ts : List Tab) (k : Nat) (hk : k < ts.length) : keysL b (ts.take (k + 1)) = keysL b (ts.take k) ++ keysE b (tabN ts k).ents := by
  rw [List.take_add_one, tabN_some hk]
  unfold keysL
  rw [List.flatMap_append]
  simp

theorem keysE_next (b : ByteArray) (es : List Ent) (j : Nat) (hj : j < es.length) : keysE b (es.take (j + 1)) = keysE b (es.take j) ++ (if begins b (entN es j).key = true then [(entN es j).key] else []) := by
  rw [List.take_add_one, entN_some hj]
  unfold keysE
  rw [List.filter_append, List.map_append]
  congr 1
  by_cases h : begins b (entN es j).key = true <;> simp [h]

theorem keysE_len (b : ByteArray) (es : List Ent) : (keysE b es).length ≤ es.length := by
  unfold keysE
  rw [List.length_map]
  exact List.length_filter_le _ _

theorem keysL_len (b : ByteArray) : ∀ (cs : List Tab), (∀ t ∈ cs, t.ents.length ≤ 1024) → (keysL b cs).length ≤ cs.length * 1024
  | [], _ => by simp [keysL]
  | t :: r, h => by
    have h1 := keysL_len b r (fun t ht => h t (List.mem_cons_of_mem _ ht))
    have h2 := keysE_len b t.ents
    have h3 := h t (List.mem_cons_self ..)
    unfold keysL at *
    rw [List.flatMap_cons, List.length_append, List.length_cons]
    omega

theorem mem_tabN {ts : List Tab} {t : Tab} (h : t ∈ ts) : ∃ k, k < ts.length ∧ t = tabN ts k := by
  obtain ⟨k, hk, rfl⟩ := List.getElem_of_mem h
  exact ⟨k, hk, (tabN_get (List.getElem?_eq_getElem hk)).symm⟩

theorem ch_size {ts : List Tab} {n : ByteArray} (hz : SzT ts) (h : chE ts n = 0) : SzT (chL ts n) := by
  intro k
  have hc := (ch_good h).2.2.2
  have hd := check_down hc
  unfold tabN
  cases e : (chL ts n)[k]? with
  | none => exact ⟨Nat.zero_le _, Nat.zero_le _, fun i => ⟨Nat.zero_le _, Nat.zero_le _⟩⟩
  | some t =>
    have hp : placeT ts n < ts.length := by
      rcases placeT_range ts n with q | ⟨p, hp, hpe, _⟩
      · rw [q]; omega
      · rw [hpe]; omega
    obtain ⟨i, hi, rfl⟩ := chainP_mem hd _ (placeT ts n) (Nat.le_refl _) hp t (List.mem_of_getElem? e)
    exact hz i

def AnsK (C : Nat) (ps : List (List UInt8)) (w : World) (e : Ending) (w' : World) : Prop :=
  (C = 0 → ∃ q cap, e = .returned (.tuple #[.slice (some ⟨q, 0, none⟩) ps.length cap, .int .i64 0]) ∧ RowS w' w.heap.size (.slice (some ⟨q, 0, none⟩) ps.length cap) ps) ∧ (C ≠ 0 → e = .returned (.tuple #[.slice none 0 0, .int .i64 (C : Int)])) ∧ Below w.heap.size w w'
theorem AnsK.ok {ps : List (List UInt8)} {w w' : World} {e : Ending} (q cap : Nat) (h : e = .returned (.tuple #[.slice (some ⟨q, 0, none⟩) ps.length cap, .int .i64 0])) (h2 : RowS w' w.heap.size (.slice (some ⟨q, 0, none⟩) ps.length cap) ps) (h3 : Below w.heap.size w w') : AnsK 0 ps w e w' := ⟨fun _ => ⟨q, cap, h, h2⟩, fun q => absurd rfl q, h3⟩
theorem AnsK.no {C : Nat} {ps : List (List UInt8)} {w w' : World} {e : Ending} (hC : C ≠ 0) (h : e = .returned (.tuple #[.slice none 0 0, .int .i64 (C : Int)])) (h3 : Below w.heap.size w w') : AnsK C ps w e w' := ⟨fun q => absurd q hC, fun _ => h, h3⟩

theorem RowS.base {w : World} {B B' : Nat} {v : Value} {ss : List (List UInt8)} (h : RowS w B' v ss) (hB : B ≤ B') : RowS w B v ss := by
  refine ⟨h.1, ?_⟩
  rcases h.2 with q | ⟨g, cap, cur, h1, h2, h3⟩
  · exact .inl q
  · exact .inr ⟨g, cap, cur, h1, Nat.le_trans hB h2, h3⟩

set_option maxRecDepth 100000 in
set_option maxHeartbeats 4000000 in
theorem Keys_any {w : World} {v : Value} {ts : List Tab} (n bg : ByteArray) (h : TSl w v ts) (hl : ts.length ≤ 9223372036854775806) (hz : SzT ts) (hT : U8 w) : Calls Tryz.prog 18 #[.agg #[v], .string n, .string bg] w fun e w' => AnsK (chE ts n) (poolL (keysL bg (chL ts n))) w e w' := by
  have hmm := @run_makeMap Tryz.prog
  obtain ⟨WA, hWA⟩ : ∃ WA, WA = w.alloc (.cells #[v] 24) := ⟨_, rfl⟩
  have BA : Hid (Below w.heap.size w WA) := hide (by rw [hWA]; exact (Below.refl _ _).alloc (Nat.le_refl _) _)
  have Q1 : Hid (Blk WA w.heap.size #[v] 24) := hide (by rw [hWA]; exact Blk.newAt w w.heap.size rfl _ _)
  have HWA := hide hWA.symm
  have CH := hide (chainOf_any n (h.below BA.out) hl hz (hT.below BA.out))
  have CG : Hid (chE ts n = 0 → Good (chL ts n) ∧ (chL ts n).length ≤ 16 ∧ chL ts n ≠ [] ∧ checkT ts = 0) := hide ch_good
  have CZ : Hid (chE ts n = 0 → SzT (chL ts n)) := hide (ch_size hz)
  generalize chE ts n = C at *
  generalize chL ts n = cs at *
  obtain ⟨ao, cap, rfl, hcap, hat⟩ := h
  have q0 := Q1.out.cell 0
  clear hWA hT hz hat
  by_cases hC : C = 0
  · subst hC
    rw [show ((0 : Nat) : Int) = 0 from rfl] at CH
    obtain ⟨hg, hl16, hne, _⟩ := CG.out rfl
    have HZ := hide (CZ.out rfl)
    have HE : Hid (∀ k, (tabN cs k).ents.length ≤ 1024) := hide (fun k => (hg k).1)
    have HP : Hid (poolS (keysL bg cs) ≤ 1000000) := hide (by
      have h1 := poolS_le (keysL bg cs)
      have h2 := keysL_len bg cs (fun t ht => by obtain ⟨k, _, rfl⟩ := mem_tabN ht; exact (hg k).1)
      omega)
    have HPX : Hid (∀ (s p : ByteArray) X, Calls Tryz.prog 42 #[.string s, .string p] X fun e w' => e = .returned (.bool (begins p s)) ∧ w' = X) := hide (fun s p X => Tryz.strings_HasPrefix s p X)
    obtain ⟨L, hL⟩ : ∃ L, L = cs.length := ⟨_, rfl⟩
    have HL := hide hL
    rw [← hL] at hl16
    clear CG CZ hg hL
    go_enter Tryz.func18, Tryz.ntmps18
    go_wp2_with (simp only [HWA.out])
    refine CH.out.mono ?_
    rintro e w1 ⟨v', rfl, hts, _, hb1⟩
    obtain ⟨ac, capc, rfl, hcc, hatc⟩ := hts trivial
    obtain ⟨b, o, rfl, hb, h3⟩ : ∃ b o, ac = some ⟨b, o, none⟩ ∧ b < w1.heap.size ∧ ∀ i, i < cs.length → TabAt w1 b o i (tabN cs i) := by
      rcases hatc with q | q
      · exact absurd q hne
      · exact q
    have H3 := hide h3
    have HBB := hide hb
    have B1 := hide (BA.out.trans (hb1.mono BA.out.size))
    rw [← HL.out] at hcc ⊢
    obtain ⟨G, hG⟩ : ∃ G, G = w1.heap.size := ⟨_, rfl⟩
    have HG := hide hG
    have S0 : Hid (SetAt (w1.alloc (.map #[] 0)) G 0 []) := hide (by rw [hG]; exact SetAt.made w1)
    have B0 : Hid (Below w1.heap.size w1 (w1.alloc (.map #[] 0))) := (Below.refl _ _).alloc (Nat.le_refl _) _
    clear hb1 hts CH hatc h3 hb hne hG
    go_wp2_with (simp only [← HG.out])
    go_loopw [27] (fun p wr => ∃ k m : Nat, k ≤ L ∧ p = .int .i64 (k : Int) ∧ m ≤ 1024 * k ∧ Hid (SetAt wr G m (keysL bg (cs.take k))) ∧ Hid (Below w1.heap.size w1 wr)) (fun p _ => L - (intOf p).toNat)
    case atStart => exact ⟨0, 0, Nat.zero_le _, rfl, Nat.zero_le _, S0, B0⟩
    case round =>
      obtain ⟨k, m, hk, rfl, hm, HS, HW⟩ := hrel
      by_cases hlt : k < L
      · have hlt' : (k : Int) < (L : Int) := by omega
        have hkt : k < cs.length := by rw [← HL.out]; exact hlt
        obtain ⟨d0, d1, ve, d2, hes⟩ := H3.out k hkt
        have c0 := (HW.out.cell HBB.out).trans d0
        have c1 := (HW.out.cell HBB.out).trans d1
        have c2 := (HW.out.cell HBB.out).trans d2
        clear d0 d1 d2
        have hem := HE.out k
        obtain ⟨_, _, zE⟩ := HZ.out k
        have NX := hide (keysL_next bg cs k hkt)
        obtain ⟨g, hg⟩ : ∃ g, g = tabN cs k := ⟨_, rfl⟩
        rw [← hg] at c0 c1 hem zE NX hes
        obtain ⟨a2, cap2, rfl, hc2, hE2⟩ := hes
        obtain ⟨M, hM⟩ : ∃ M, M = g.ents.length := ⟨_, rfl⟩
        rw [← hM] at c2 hem hc2
        have QB := hide (HW.out.alloc HW.out.size (.cells #[.string g.name, .int .i64 g.parent, .slice a2 M cap2] 31))
        have SB := hide (HS.out.alloc (.cells #[.string g.name, .int .i64 g.parent, .slice a2 M cap2] 31))
        have HE2 := hide hE2
        have HZ2 := hide zE
        have HM := hide hM
        clear hM hg zE hkt HS hE2 HW
        go_wp2
        go_loopw [34] (fun p wq => ∃ j r : Nat, j ≤ M ∧ p = .int .i64 (j : Int) ∧ r ≤ 1024 * k + j ∧ Hid (SetAt wq G r (keysL bg (cs.take k) ++ keysE bg (g.ents.take j))) ∧ Hid (Below w1.heap.size w1 wq)) (fun p _ => M - (intOf p).toNat)
        case atStart => exact ⟨0, m, Nat.zero_le _, rfl, by omega, hide (by rw [List.take_zero]; simpa [keysE] using SB.out), QB⟩
        case round =>
          obtain ⟨j, r, hj, rfl, hr, HS, HV⟩ := hrel
          obtain ⟨wq, hwq⟩ : ∃ x, x = wr := ⟨_, rfl⟩
          subst hwq
          by_cases hjl : j < M
          · have hjl' : (j : Int) < (M : Int) := by omega
            have hjt : j < g.ents.length := by rw [← HM.out]; exact hjl
            obtain ⟨b2, o2, ha2, hb2, hcl⟩ : ∃ b o, a2 = some ⟨b, o, none⟩ ∧ b < w1.heap.size ∧ ∀ i, i < g.ents.length → w1.cell? ⟨b, o + i * 4, none⟩ = some (.string (entN g.ents i).key) ∧ w1.cell? ⟨b, o + i * 4 + 1, none⟩ = some (.int .i64 (entN g.ents i).kind) ∧ w1.cell? ⟨b, o + i * 4 + 2, none⟩ = some (.string (entN g.ents i).text) ∧ w1.cell? ⟨b, o + i * 4 + 3, none⟩ = some (.int .i64 (entN g.ents i).num) := by
              rcases HE2.out with h | h
              · rw [h] at hjt; simp at hjt
              · exact h
            subst ha2
            obtain ⟨x0, x1, x2, x3⟩ := hcl j hjt
            have bc : ∀ i, wq.cell? ⟨b2, i, none⟩ = w1.cell? ⟨b2, i, none⟩ := fun i => HV.out.cell hb2
            rw [← bc] at x0 x1 x2 x3
            obtain ⟨zk, _⟩ := HZ2.out j
            have NE := hide (keysE_next bg g.ents j hjt)
            obtain ⟨e, he⟩ : ∃ e, e = entN g.ents j := ⟨_, rfl⟩
            rw [← he] at x0 x1 x2 x3 zk NE
            obtain ⟨WB, hWB⟩ : ∃ WB, WB = wq.alloc (.cells #[.string e.key, .int .i64 e.kind, .string e.text, .int .i64 e.num] 33) := ⟨_, rfl⟩
            have BB : Hid (Below wq.heap.size wq WB) := hide (by rw [hWB]; exact (Below.refl _ _).alloc (Nat.le_refl _) _)
            have QE := hide (Blk.newAt wq wq.heap.size rfl #[.string e.key, .int .i64 e.kind, .string e.text, .int .i64 e.num] 33)
            rw [← hWB] at QE
            have SB2 := hide (HS.out.below BB.out)
            have AD := hide (addS_any e.key SB2.out (by omega) zk)
            have W1 := hide (HV.out.trans (BB.out.mono HV.out.size))
            have HX := hide (HPX.out e.key bg WB)
            have HWB := hide hWB.symm
            have y0 := QE.out.cell 0
            clear he bc hcl hjt hWB zk HS BB HV hb2
            cases hbg : begins bg e.key with
            | false =>
              rw [hbg] at HX
              have SN : Hid (SetAt WB G r (keysL bg (cs.take k) ++ keysE bg (g.ents.take (j + 1)))) := hide (by
                rw [NE.out, hbg, if_neg (by decide), List.append_nil]; exact SB2.out)
              clear NE hbg AD
              go_wp2_with (simp only [HWB.out])
              refine HX.out.mono ?_
              rintro x w2 ⟨rfl, rfl⟩
              go_wp2
              go_roundw
              case rel => exact ⟨j + 1, r, by omega, by go_num, by omega, SN, W1⟩
              case measure => simp [intOf]; omega
            | true =>
              rw [hbg] at HX
              have NE2 : Hid (keysE bg (g.ents.take (j + 1)) = keysE bg (g.ents.take j) ++ [e.key]) := hide (by rw [NE.out, hbg, if_pos rfl])
              clear NE hbg
              go_wp2_with (simp only [HWB.out])
              refine HX.out.mono ?_
              rintro x w2 ⟨rfl, rfl⟩
              go_wp2_with fail
              refine AD.out.mono ?_
              rintro x w3 ⟨rfl, hs3, hb3⟩
              have B3 := hide (But.frame W1.out hb3 (by rw [HG.out]; exact Nat.le_refl _))
              have SN : Hid (SetAt w3 G (r + 1) (keysL bg (cs.take k) ++ keysE bg (g.ents.take (j + 1)))) := hide (by
                rw [NE2.out, ← List.append_assoc]; exact hs3)
              clear hs3 hb3 AD
              go_wp2
              go_roundw
              case rel => exact ⟨j + 1, r + 1, by omega, by go_num, by omega, SN, B3⟩
              case measure => simp [intOf]; omega
          · obtain rfl : j = M := by omega
            have hjl' : ¬ (j : Int) < (j : Int) := by omega
            have SN : Hid (SetAt wq G r (keysL bg (cs.take (k + 1)))) := hide (by
              have := HS.out
              rw [List.take_of_length_le (l := g.ents) (by rw [← HM.out]; exact Nat.le_refl _)] at this
              rw [NX.out]
              exact this)
            clear HS hjl
            go_wp2
            exact ⟨⟨k + 1, r, by omega, by go_num, by omega, SN, HV⟩, by simp [intOf]; omega⟩
      · obtain rfl : k = L := by omega
        have hlt' : ¬ (k : Int) < (k : Int) := by omega
        have S1 : Hid (SetAt wr G m (keysL bg cs)) := hide (by have := HS.out; rwa [List.take_of_length_le (l := cs) (by rw [← HL.out]; exact Nat.le_refl _)] at this)
        have RI := hide (rising_any S1.out HP.out)
        have BW := hide (B1.out.trans (HW.out.mono B1.out.size))
        clear HS hlt
        go_wp2_with fail
        refine RI.out.mono ?_
        rintro e w2 ⟨q, cp, rfl, hrow, hb2⟩
        have RW := hide (hrow.base (B := w.heap.size) BW.out.size)
        have BZ := hide (BW.out.trans (hb2.mono BW.out.size))
        clear hrow hb2 RI
        go_wp2
        go_ret2
        exact AnsK.ok q cp rfl RW.out BZ.out
  · have hC' : ((C : Int) == 0) = false := beq_eq_false_iff_ne.2 (by omega)
    have hC2 : ((C : Int) != 0) = true := by rw [bne, hC']; rfl
    clear CG CZ
    go_enter Tryz.func18, Tryz.ntmps18
    go_wp2_with (simp only [HWA.out])
    refine CH.out.mono ?_
    rintro e w1 ⟨v', rfl, _, _, hb1⟩
    have BV := hide (BA.out.trans (hb1.mono BA.out.size))
    clear hb1 CH
    go_wp2
    go_ret2
    exact AnsK.no hC rfl BV.out

end Go.Proofs.YtihnakblcfealaaGreatDoor

namespace Go.Proofs.YtihnakblcfealaaGreatDoor
open Go.RowKit

theorem bld_size : (Tryz.prog.info? 69).map (·.size) = some 2 := by kernel_rfl
theorem byte_info : (Tryz.prog.info? 5).map (fun i => (i.zero, i.size, i.bytes)) = some (some (.int .u8 0), 1, 1) := by kernel_rfl

end Go.Proofs.YtihnakblcfealaaGreatDoor
