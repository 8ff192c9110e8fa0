/-
  A set of texts in a map; what bundle's add and textsOf do.
  What bundle's tooManyTexts and Check answer.
  Chains: a table, its parent, and so on; what bundle's chainOf answers.
  The order of texts; what cmp.Compare, bundle's againstKey and slices.BinarySearchFunc answer.
-/
import Derived.Test.YtihnakblcfealaaGreatDoorEB2
import Derived.Maps.OwnSet
import Derived.OwnWalk
import Derived.Sort.Walk0
namespace Go.Proofs.YtihnakblcfealaaGreatDoor
open Go.RowKit Go.Maps

def litT (s : ByteArray) : Lit := .string s.data.toList

def SetAt (w : World) (g n : Nat) (l : List ByteArray) : Prop := w.ownsMap (H := Unit) Tryz.prog 9 (unitElem (H := Unit)) g n (setOf (.agg []) (l.map litT))

theorem keyS : Keyed Tryz.prog 9 := string_keyed Tryz.underlying9

theorem But.of_grown {w w' : World} {g : Nat} (h : w.grownBy w' (some g)) : But g w w' := ⟨h.os, h.tape, h.output, h.size, fun b hb hn => h.block b hb (by intro e; cases e; exact hn rfl)⟩

theorem But.to_grown {w w' : World} {g : Nat} (h : But g w w') {row : Option Nat} (hr : row = some g) : w.grownBy w' row := by
  subst hr
  exact ⟨h.os, h.tape, h.output, h.size, fun b hb hn => h.block b hb (fun e => hn (by rw [e]))⟩

theorem SetAt.made (w : World) : SetAt (w.alloc (.map #[] 0)) w.heap.size 0 [] := World.ownsMap_made _ _ _ _
theorem SetAt.lt {w : World} {g n : Nat} {l : List ByteArray} (h : SetAt w g n l) : g < w.heap.size := World.ownsMap.lt h
theorem SetAt.alloc {w : World} {g n : Nat} {l : List ByteArray} (h : SetAt w g n l) (o : Obj) : SetAt (w.alloc o) g n l := World.ownsMap.alloc h o
theorem SetAt.but {w w' : World} {g n D : Nat} {l : List ByteArray} (h : SetAt w g n l) (hb : But D w w') (hn : g ≠ D) : SetAt w' g n l := World.ownsMap.kept h (hb.to_grown rfl) (by intro e; cases e; exact hn rfl)
theorem SetAt.below {w w' : World} {g n : Nat} {l : List ByteArray} (h : SetAt w g n l) (hb : Below w.heap.size w w') : SetAt w' g n l := h.but (D := w.heap.size) (.of_below hb) (Nat.ne_of_lt h.lt)

set_option maxHeartbeats 1000000 in
theorem addS_any {w : World} {g n : Nat} {l : List ByteArray} (s : ByteArray) (h : SetAt w g n l) (hn : n < 1000000) (hs : s.size ≤ 140737488355328) :
    Calls Tryz.prog 43 #[.map (some g), .string s] w fun e w' => e = .returned (.tuple #[]) ∧ SetAt w' g (n + 1) (l ++ [s]) ∧ But g w w' := by
  have hkey : keyOf Tryz.prog 9 (.string s) = some (litT s) := WideMaps.keyOf_string_mk Tryz.underlying9 (by unfold maxLen; omega)
  have hown : w.ownsMap (H := Unit) Tryz.prog 9 (unitElem (H := Unit)) g n (setOf (.agg []) (l.map litT)) := h
  clear h
  go_enter Tryz.func43, Tryz.ntmps43
  go_wp2_with (first | (at_mapUpdate; refine wpList_mapUpdate_own _ rfl _ _ _ 74 rfl 9 _ keyS Tryz.underlying74 _ g n _ rfl hown (by unfold maxLen; omega) _ _ _ rfl rfl hkey _ [] unitElem_mk ?_; intro w1 hown1 hgrow1) | go_in)
  go_end0
  refine ⟨rfl, ?_, But.of_grown hgrow1⟩
  unfold SetAt
  rw [List.map_append, List.map_singleton, setOf_snoc]
  exact hown1

theorem texts_next (ts : List Tab) (k : Nat) (hk : k < ts.length) : textsL (ts.take (k + 1)) = textsL (ts.take k) ++ (tabN ts k).name :: (tabN ts k).ents.flatMap entL := by
  rw [List.take_add_one, tabN_some hk]
  unfold textsL
  rw [List.flatMap_append]
  simp [tabL]

theorem ents_next (es : List Ent) (j : Nat) (hj : j < es.length) : (es.take (j + 1)).flatMap entL = (es.take j).flatMap entL ++ entL (entN es j) := by
  rw [List.take_add_one, entN_some hj, List.flatMap_append]
  simp

set_option maxHeartbeats 4000000 in
theorem textsOf_at (b o cap : Nat) (ts : List Tab) (w : World) (hl : ts.length ≤ 16) (hb : b < w.heap.size) (hc : ts.length ≤ cap) (hz : SzT ts) (he : ∀ k, (tabN ts k).ents.length ≤ 1024) (h3 : ∀ i, i < ts.length → TabAt w b o i (tabN ts i)) :
    Calls Tryz.prog 27 #[.slice (some ⟨b, o, none⟩) ts.length cap] w fun e w' => e = .returned (.map (some w.heap.size)) ∧ (∃ n, SetAt w' w.heap.size n (textsL ts)) ∧ Below w.heap.size w w' := by
  have hmm := @run_makeMap Tryz.prog
  have H3 := hide h3
  have HZ := hide hz
  have HE := hide he
  have HBB := hide hb
  clear h3 hz he hb
  obtain ⟨L, hL⟩ : ∃ L, L = ts.length := ⟨_, rfl⟩
  rw [← hL] at hl hc ⊢
  have HL := hide hL
  clear hL
  obtain ⟨G, hG⟩ : ∃ G, G = w.heap.size := ⟨_, rfl⟩
  have HG := hide hG
  rw [← hG] at ⊢
  have S0 : Hid (SetAt (w.alloc (.map #[] 0)) G 0 []) := hide (by rw [hG]; exact SetAt.made w)
  have B0 : Hid (Below w.heap.size w (w.alloc (.map #[] 0))) := (Below.refl _ _).alloc (Nat.le_refl _) _
  clear hG
  go_enter Tryz.func27, Tryz.ntmps27
  go_wp2_with (simp only [← HG.out])
  go_loopw [11] (fun p wr => ∃ k n : Nat, k ≤ L ∧ p = .int .i64 (k : Int) ∧ n ≤ 2049 * k ∧ Hid (SetAt wr G n (textsL (ts.take k))) ∧ Hid (Below w.heap.size w wr)) (fun p _ => L - (intOf p).toNat)
  case atStart => exact ⟨0, 0, Nat.zero_le _, rfl, Nat.zero_le _, S0, B0⟩
  case round =>
    obtain ⟨k, n, hk, rfl, hn, HS, HW⟩ := hrel
    by_cases hlt : k < L
    · have hlt' : (k : Int) < (L : Int) := by omega
      have hkt : k < ts.length := by rw [← HL.out]; exact hlt
      obtain ⟨d0, d1, v, d2, hes⟩ := H3.out k hkt
      have c0 := (HW.out.cell HBB.out).trans d0
      have c1 := (HW.out.cell HBB.out).trans d1
      have c2 := (HW.out.cell HBB.out).trans d2
      clear d0 d1 d2
      have hem := HE.out k
      obtain ⟨zn, _, zE⟩ := HZ.out k
      have NX := hide (texts_next ts k hkt)
      obtain ⟨g, hg⟩ : ∃ g, g = tabN ts k := ⟨_, rfl⟩
      rw [← hg] at c0 c1 hem zn zE NX hes
      obtain ⟨a2, cap2, rfl, hc2, hE2⟩ := hes
      obtain ⟨WA, hWA⟩ : ∃ WA, WA = wr.alloc (.cells #[.string g.name, .int .i64 g.parent, .slice a2 g.ents.length cap2] 31) := ⟨_, rfl⟩
      have BA : Hid (Below wr.heap.size wr WA) := hide (by rw [hWA]; exact (Below.refl _ _).alloc (Nat.le_refl _) _)
      have Q := hide (Blk.newAt wr wr.heap.size rfl #[.string g.name, .int .i64 g.parent, .slice a2 g.ents.length cap2] 31)
      rw [← hWA] at Q
      have hGw := hide (Nat.ne_of_gt HS.out.lt)
      have AD := hide (addS_any g.name (HS.out.below BA.out) (by omega) zn)
      have W0 := hide (HW.out.trans (BA.out.mono HW.out.size))
      have HE2 := hide hE2
      have HZ2 := hide zE
      have HWA := hide hWA.symm
      have q0 := Q.out.cell 0
      obtain ⟨M, hM⟩ : ∃ M, M = g.ents.length := ⟨_, rfl⟩
      rw [← hM] at c2 hem hc2 HWA Q q0
      have HM := hide hM
      clear hM hg hWA zn zE hkt HS BA
      go_wp2_with (simp only [HWA.out])
      refine AD.out.mono ?_
      rintro e w1 ⟨rfl, hs1, hb1⟩
      have S1 := hide hs1
      have B1 := hide (But.frame W0.out hb1 (by rw [HG.out]; exact Nat.le_refl _))
      have q2 := (hb1.blk Q.out hGw.out).cell 2
      clear hs1 hb1 AD q0 HWA Q W0
      go_wp2
      go_loopw [22] (fun p wq => ∃ j m : Nat, j ≤ M ∧ p = .int .i64 (j : Int) ∧ m ≤ 2049 * k + 1 + 2 * j ∧ Hid (SetAt wq G m (textsL (ts.take k) ++ g.name :: (g.ents.take j).flatMap entL)) ∧ Hid (Below w.heap.size w wq)) (fun p _ => M - (intOf p).toNat)
      case atStart => exact ⟨0, n + 1, Nat.zero_le _, rfl, by omega, S1, B1⟩
      case round =>
        obtain ⟨j, m, hj, rfl, hm, HS, HV⟩ := hrel
        obtain ⟨wq, hwq⟩ : ∃ x, x = wr := ⟨_, rfl⟩
        subst hwq
        by_cases hjl : j < M
        · have hjl' : (j : Int) < (M : Int) := by omega
          have hjt : j < g.ents.length := by rw [← HM.out]; exact hjl
          obtain ⟨b2, o2, ha2, hb2, hcl⟩ : ∃ b o, a2 = some ⟨b, o, none⟩ ∧ b < w.heap.size ∧ ∀ i, i < g.ents.length → w.cell? ⟨b, o + i * 4, none⟩ = some (.string (entN g.ents i).key) ∧ w.cell? ⟨b, o + i * 4 + 1, none⟩ = some (.int .i64 (entN g.ents i).kind) ∧ w.cell? ⟨b, o + i * 4 + 2, none⟩ = some (.string (entN g.ents i).text) ∧ w.cell? ⟨b, o + i * 4 + 3, none⟩ = some (.int .i64 (entN g.ents i).num) := by
            rcases HE2.out with h | h
            · rw [h] at hjt; simp at hjt
            · exact h
          subst ha2
          obtain ⟨x0, x1, x2, x3⟩ := hcl j hjt
          have bc : ∀ i, wq.cell? ⟨b2, i, none⟩ = w.cell? ⟨b2, i, none⟩ := fun i => HV.out.cell hb2
          rw [← bc] at x0 x1 x2 x3
          obtain ⟨zk, zt⟩ := HZ2.out j
          have NE := hide (ents_next g.ents j hjt)
          obtain ⟨e, he⟩ : ∃ e, e = entN g.ents j := ⟨_, rfl⟩
          rw [← he] at x0 x1 x2 x3 zk zt NE
          obtain ⟨WB, hWB⟩ : ∃ WB, WB = wq.alloc (.cells #[.string e.key, .int .i64 e.kind, .string e.text, .int .i64 e.num] 33) := ⟨_, rfl⟩
          have BB : Hid (Below wq.heap.size wq WB) := hide (by rw [hWB]; exact (Below.refl _ _).alloc (Nat.le_refl _) _)
          have QE := hide (Blk.newAt wq wq.heap.size rfl #[.string e.key, .int .i64 e.kind, .string e.text, .int .i64 e.num] 33)
          rw [← hWB] at QE
          have hGq := hide (Nat.ne_of_gt HS.out.lt)
          have AD := hide (addS_any e.key (HS.out.below BB.out) (by omega) zk)
          have W1 := hide (HV.out.trans (BB.out.mono HV.out.size))
          have HWB := hide hWB.symm
          have y0 := QE.out.cell 0
          have HZT := hide zt
          clear he bc hcl hjt hWB zk zt HS BB HV hb2
          go_wp2_with (simp only [HWB.out])
          refine AD.out.mono ?_
          rintro x w2 ⟨rfl, hs2, hb2⟩
          have S2 := hide hs2
          have B2 := hide (But.frame W1.out hb2 (by rw [HG.out]; exact Nat.le_refl _))
          have Q2 := hide (hb2.blk QE.out hGq.out)
          have z1 := Q2.out.cell 1
          have z2 := Q2.out.cell 2
          clear hs2 hb2 AD y0 HWB QE W1
          by_cases hk1 : e.kind = 1
          · have SN : Hid (SetAt w2 G (m + 1) (textsL (ts.take k) ++ g.name :: (g.ents.take (j + 1)).flatMap entL)) := hide (by
              rw [NE.out]
              unfold entL at S2 ⊢
              rw [if_pos hk1]
              have := S2.out
              simpa using this)
            have hk1' : (e.kind != 1) = false := by rw [hk1]; rfl
            clear S2 NE hk1
            go_wp2
            exact ⟨⟨j + 1, m + 1, by omega, by go_num, by omega, SN, B2⟩, by simp [intOf]; omega⟩
          · have hk1' : (e.kind != 1) = true := by simpa [bne] using hk1
            have AD2 := hide (addS_any e.text S2.out (by omega) HZT.out)
            have EN : Hid (entL e = [e.key, e.text]) := hide (by unfold entL; rw [if_neg hk1])
            clear S2
            go_wp2_with fail
            refine AD2.out.mono ?_
            rintro x w3 ⟨rfl, hs3, hb3⟩
            have B3 := hide (But.frame B2.out hb3 (by rw [HG.out]; exact Nat.le_refl _))
            have SN : Hid (SetAt w3 G (m + 1 + 1) (textsL (ts.take k) ++ g.name :: (g.ents.take (j + 1)).flatMap entL)) := hide (by
              rw [NE.out, EN.out]
              simpa using hs3)
            clear hs3 hb3 AD2 EN NE
            go_wp2
            exact ⟨⟨j + 1, m + 1 + 1, by omega, by go_num, by omega, SN, B3⟩, by simp [intOf]; omega⟩
        · obtain rfl : j = M := by omega
          have hjl' : ¬ (j : Int) < (j : Int) := by omega
          have SN : Hid (SetAt wq G m (textsL (ts.take (k + 1)))) := hide (by
            have := HS.out
            rw [List.take_of_length_le (l := g.ents) (by rw [← HM.out]; exact Nat.le_refl _)] at this
            rw [NX.out]
            exact this)
          clear HS hjl
          go_wp2
          exact ⟨⟨k + 1, m, by omega, by go_num, by omega, SN, HV⟩, by simp [intOf]; omega⟩
    · obtain rfl : k = L := by omega
      have hlt' : ¬ (k : Int) < (k : Int) := by omega
      have S1 : Hid (SetAt wr G n (textsL ts)) := hide (by have := HS.out; rwa [List.take_of_length_le (by rw [← HL.out]; exact Nat.le_refl _)] at this)
      clear HS hlt
      go_wp2
      go_ret
      exact ⟨rfl, ⟨n, S1.out⟩, by rw [HG.out]; exact HW.out⟩

set_option maxHeartbeats 1000000 in
theorem textsOf_nil (ao : Option Addr) (cap : Nat) (w : World) : Calls Tryz.prog 27 #[.slice ao 0 cap] w fun e w' => e = .returned (.map (some w.heap.size)) ∧ (∃ n, SetAt w' w.heap.size n []) ∧ Below w.heap.size w w' := by
  have hmm := @run_makeMap Tryz.prog
  have S0 := hide (SetAt.made w)
  have B0 : Hid (Below w.heap.size w (w.alloc (.map #[] 0))) := (Below.refl _ _).alloc (Nat.le_refl _) _
  go_enter Tryz.func27, Tryz.ntmps27
  go_wp2
  go_loopw [11] (fun p wr => p = .int .i64 0 ∧ wr = w.alloc (.map #[] 0)) (fun p _ => 0)
  case atStart => exact ⟨rfl, rfl⟩
  case round =>
    obtain ⟨rfl, rfl⟩ := hrel
    go_wp2
    go_ret
    exact ⟨rfl, ⟨0, S0.out⟩, B0.out⟩

theorem textsOf_any {w : World} {v : Value} {ts : List Tab} (h : TSl w v ts) (hl : ts.length ≤ 16) (hz : SzT ts) (he : ∀ k, (tabN ts k).ents.length ≤ 1024) : Calls Tryz.prog 27 #[v] w fun e w' => e = .returned (.map (some w.heap.size)) ∧ (∃ n, SetAt w' w.heap.size n (textsL ts)) ∧ Below w.heap.size w w' := by
  obtain ⟨ao, cap, rfl, h2, h3⟩ := h
  rcases h3 with rfl | ⟨b, o, rfl, hb, h3⟩
  · exact textsOf_nil ao cap w
  · exact textsOf_at b o cap ts w hl hb h2 hz he h3

end Go.Proofs.YtihnakblcfealaaGreatDoor

namespace Go.Proofs.YtihnakblcfealaaGreatDoor
open Go.RowKit Go.Maps

def poolS (l : List ByteArray) : Nat := Maps.size (setOf (H := Unit) (.agg []) (l.map litT))

theorem keyLit (l : List ByteArray) : ∀ x ∈ l.map litT, WideAt.IsKeyLit x := by
  intro x hx
  obtain ⟨s, _, rfl⟩ := List.mem_map.1 hx
  trivial

theorem addKeys_len : ∀ (xs acc : List Lit), (xs.foldl addKey acc).length ≤ acc.length + xs.length
  | [], acc => by simp
  | x :: r, acc => by
    have h := addKeys_len r (addKey acc x)
    have h2 : (addKey acc x).length ≤ acc.length + 1 := by unfold addKey; split <;> simp
    simp only [List.foldl_cons, List.length_cons]
    omega

theorem poolS_le (l : List ByteArray) : poolS l ≤ l.length := by
  unfold poolS
  rw [size_setOf _ _ (keyLit l)]
  have := addKeys_len (l.map litT) []
  simpa using this

def mostN (ts : List Tab) : Nat := ts.length + (ts.map (fun t => 2 * t.ents.length)).sum

theorem entL_len (es : List Ent) : (es.flatMap entL).length ≤ 2 * es.length := by
  induction es with
  | nil => simp
  | cons e r ih =>
    rw [List.flatMap_cons, List.length_append, List.length_cons]
    have : (entL e).length ≤ 2 := by unfold entL; split <;> simp
    omega

theorem texts_le (ts : List Tab) : (textsL ts).length ≤ mostN ts := by
  unfold mostN
  induction ts with
  | nil => simp [textsL]
  | cons t r ih =>
    unfold textsL at *
    rw [List.flatMap_cons, List.length_append, List.length_cons, List.map_cons, List.sum_cons]
    have := entL_len t.ents
    simp only [tabL, List.length_cons]
    omega

theorem most_next (ts : List Tab) (k : Nat) (hk : k < ts.length) : ((ts.take (k + 1)).map (fun t => 2 * t.ents.length)).sum = ((ts.take k).map (fun t => 2 * t.ents.length)).sum + 2 * (tabN ts k).ents.length := by
  rw [List.take_add_one, tabN_some hk]
  simp

set_option maxHeartbeats 4000000 in
theorem tooMany_at (b o cap : Nat) (ts : List Tab) (w : World) (hl : ts.length ≤ 16) (hb : b < w.heap.size) (hc : ts.length ≤ cap) (hz : SzT ts) (he : ∀ k, (tabN ts k).ents.length ≤ 1024) (h3 : ∀ i, i < ts.length → TabAt w b o i (tabN ts i)) :
    Calls Tryz.prog 56 #[.slice (some ⟨b, o, none⟩) ts.length cap] w fun e w' => e = .returned (.bool (decide (4096 < poolS (textsL ts)))) ∧ Below w.heap.size w w' := by
  have H3 := hide h3
  have HE := hide he
  have HBB := hide hb
  have TX : Hid (∀ X, Below w.heap.size w X → Calls Tryz.prog 27 #[.slice (some ⟨b, o, none⟩) ts.length cap] X fun e w' => e = .returned (.map (some X.heap.size)) ∧ (∃ n, SetAt w' X.heap.size n (textsL ts)) ∧ Below X.heap.size X w') := hide (fun X hX => textsOf_any ⟨_, cap, rfl, hc, TAt.below (.inr ⟨b, o, rfl, hb, h3⟩) hX⟩ hl hz he)
  have PO : Hid (poolS (textsL ts) ≤ mostN ts) := hide (Nat.le_trans (poolS_le _) (texts_le _))
  have MO : Hid (mostN ts = ts.length + (ts.map (fun t => 2 * t.ents.length)).sum) := hide rfl
  clear h3 hz he hb
  obtain ⟨L, hL⟩ : ∃ L, L = ts.length := ⟨_, rfl⟩
  rw [← hL] at hl hc TX ⊢
  have HL := hide hL
  clear hL
  obtain ⟨Po, hPo⟩ : ∃ Po, Po = poolS (textsL ts) := ⟨_, rfl⟩
  rw [← hPo] at PO ⊢
  have HPo := hide hPo
  clear hPo
  go_enter Tryz.func56, Tryz.ntmps56
  go_wp2
  go_loopw [3, 10] (fun x p wr => ∃ k m : Nat, k ≤ L ∧ x = .int .i64 (m : Int) ∧ p = .int .i64 (k : Int) ∧ m ≤ L + 2048 * k ∧ Hid (m = L + ((ts.take k).map (fun t => 2 * t.ents.length)).sum) ∧ Hid (Below w.heap.size w wr)) (fun _ p _ => L - (intOf p).toNat)
  case atStart => exact ⟨0, L, Nat.zero_le _, rfl, rfl, by omega, hide (by simp), Below.refl _ _⟩
  case round =>
    obtain ⟨k, m, hk, rfl, rfl, hm, HM, HW⟩ := hrel
    by_cases hlt : k < L
    · have hlt' : (k : Int) < (L : Int) := by omega
      have hkt : k < ts.length := by rw [← HL.out]; exact hlt
      obtain ⟨c0, c1, v, c2, hes⟩ := (H3.out k hkt).below HBB.out HW.out
      obtain ⟨a2, cap2, rfl, _, _⟩ := hes
      have hem := HE.out k
      have NX := hide (most_next ts k hkt)
      obtain ⟨g, hg⟩ : ∃ g, g = tabN ts k := ⟨_, rfl⟩
      rw [← hg] at c0 c1 c2 hem NX
      obtain ⟨n, hn⟩ : ∃ n, n = g.ents.length := ⟨_, rfl⟩
      rw [← hn] at c2 hem NX
      have QB := hide (HW.out.alloc HW.out.size (.cells #[.string g.name, .int .i64 g.parent, .slice a2 n cap2] 31))
      have MM : Hid (m + 2 * n = L + ((ts.take (k + 1)).map (fun t => 2 * t.ents.length)).sum) := hide (by rw [NX.out, HM.out]; omega)
      clear hg hn hkt HW HM NX
      go_wp2
      exact ⟨⟨k + 1, m + 2 * n, by omega, by go_num, by go_num, by omega, MM, QB⟩, by simp [intOf]; omega⟩
    · obtain rfl : k = L := by omega
      have hlt' : ¬ (k : Int) < (k : Int) := by omega
      have ME : Hid (m = mostN ts) := hide (by rw [HM.out, MO.out, List.take_of_length_le (l := ts) (by rw [← HL.out]; exact Nat.le_refl _), ← HL.out])
      have PM : Po ≤ m := by rw [ME.out]; exact PO.out
      clear HM MO ME PO hlt
      by_cases hq : 4096 < m
      · have hq' : (4096 : Int) < (m : Int) := by omega
        have TC := hide (TX.out wr HW.out)
        clear TX
        go_wp2_with fail
        refine TC.out.mono ?_
        rintro e w1 ⟨rfl, ⟨n, hs⟩, hb1⟩
        have HB := hide (HW.out.trans (hb1.mono HW.out.size))
        have hlen : ∀ ty, (Builtin.len_ #[74] ty #[.map (some wr.heap.size)]).run Tryz.prog w1 = .ok (.int .i64 (Po : Int)) w1 := fun ty => by
          rw [HPo.out]; exact World.ownsMap.len hs Tryz.underlying74 ty
        clear hs hb1 TC HW
        go_wp2
        go_ret
        exact ⟨congrArg (fun b => Ending.returned (Value.bool b)) (decide_eq_decide.2 (by omega)), HB.out⟩
      · have hq' : ¬ (4096 : Int) < (m : Int) := by omega
        have hp : ¬ 4096 < Po := by omega
        clear TX
        go_wp2
        go_ret
        exact ⟨rfl, HW.out⟩

def checkT (ts : List Tab) : Nat := if countsOk ts = false then 121 else if tabsE ts ts.length 0 ≠ 0 then tabsE ts ts.length 0 else if 4096 < poolS (textsL ts) then 121 else 0

theorem counts_len {ts : List Tab} (h : countsOk ts = true) : 1 ≤ ts.length ∧ ts.length ≤ 16 ∧ ∀ k, (tabN ts k).ents.length ≤ 1024 := by
  unfold countsOk at h
  rw [Bool.and_eq_true] at h
  have h2 := of_decide_eq_true h.2
  refine ⟨h2.1, h2.2, fun k => ?_⟩
  unfold tabN
  cases e : ts[k]? with
  | none => exact Nat.zero_le _
  | some t => simpa using List.all_eq_true.1 h.1 t (List.mem_of_getElem? e)

theorem tabsE_step (ts : List Tab) (n k : Nat) : tabsE ts (n + 1) k = if tabE ts k ≠ 0 then tabE ts k else tabsE ts n (k + 1) := rfl

set_option maxHeartbeats 4000000 in
theorem Check_any {w : World} {v : Value} {ts : List Tab} (h : TSl w v ts) (hl : ts.length ≤ 9223372036854775806) (hz : SzT ts) (hT : U8 w) : Calls Tryz.prog 25 #[.agg #[v]] w fun e w' => e = .returned (.int .i64 (checkT ts : Int)) ∧ Below w.heap.size w w' := by
  obtain ⟨WA, hWA⟩ : ∃ WA, WA = w.alloc (.cells #[v] 24) := ⟨_, rfl⟩
  have BA : Hid (Below w.heap.size w WA) := hide (by rw [hWA]; exact (Below.refl _ _).alloc (Nat.le_refl _) _)
  have Q : Hid (Blk WA w.heap.size #[v] 24) := hide (by rw [hWA]; exact Blk.newAt w w.heap.size rfl _ _)
  have HWA := hide hWA.symm
  have TA := hide (hT.below BA.out)
  have SA := hide (h.below BA.out)
  have MC := hide (mayCounts_any SA.out hl hz)
  have q0 := Q.out.cell 0
  have RE : Hid (checkT ts = if countsOk ts = false then 121 else if tabsE ts ts.length 0 ≠ 0 then tabsE ts ts.length 0 else if 4096 < poolS (textsL ts) then 121 else 0) := hide rfl
  obtain ⟨R, hR⟩ : ∃ R, R = checkT ts := ⟨_, rfl⟩
  rw [← hR] at RE ⊢
  obtain ⟨ao, cap, rfl, hcap, hat⟩ := h
  have HAT := hide hat
  clear hWA hR hT hat
  cases hco : countsOk ts with
  | false =>
    rw [hco] at MC
    have EE : Hid (R = 121) := hide (by rw [RE.out, if_pos hco])
    clear RE hco
    go_enter Tryz.func25, Tryz.ntmps25
    go_wp2_with (simp only [HWA.out])
    refine MC.out.mono ?_
    rintro e w1 ⟨rfl, hb1⟩
    have HB := hide (BA.out.trans (hb1.mono BA.out.size))
    clear hb1 MC
    go_wp2
    go_ret
    exact ⟨by rw [EE.out]; rfl, HB.out⟩
  | true =>
    rw [hco] at MC
    rw [if_neg (by rw [hco]; decide)] at RE
    obtain ⟨h1, h16, he⟩ := counts_len hco
    have CT : Hid (∀ k, k < ts.length → ∀ X, Below WA.heap.size WA X → Calls Tryz.prog 55 #[.slice ao ts.length cap, .int .i64 (k : Int)] X fun e w' => e = .returned (.int .i64 (tabE ts k : Int)) ∧ Below X.heap.size X w') := hide (fun k hk X hX => checkTable_any k (SA.out.below hX) hk h16 hz (he k) (TA.out.below hX))
    have TM : Hid (∀ X, Below WA.heap.size WA X → Calls Tryz.prog 56 #[.slice ao ts.length cap] X fun e w' => e = .returned (.bool (decide (4096 < poolS (textsL ts)))) ∧ Below X.heap.size X w') := hide (fun X hX => by
      obtain ⟨ao', cap', e1, h2, h3⟩ := SA.out.below hX
      simp only [Value.slice.injEq] at e1
      obtain ⟨rfl, _, rfl⟩ := e1
      rcases h3 with h0 | ⟨b, o, rfl, hb, h3⟩
      · rw [h0] at h1; simp at h1
      · exact tooMany_at b o _ ts X h16 hb h2 hz he h3)
    obtain ⟨L, hL⟩ : ∃ L, L = ts.length := ⟨_, rfl⟩
    rw [← hL] at h1 h16 hl hcap CT TM RE Q MC HWA q0
    rw [← hL]
    have KP : Hid (∀ X, Below WA.heap.size WA X → Blk X w.heap.size #[.slice ao L cap] 24) := hide (fun X hX => Q.out.below hX Q.out.lt)
    have HL := hide hL
    clear hco he hL hz
    generalize hTS : tabsE ts L 0 = Te at *
    have HTS := hide hTS
    clear hTS
    obtain ⟨tm, htm⟩ : ∃ tm, tm = decide (4096 < poolS (textsL ts)) := ⟨_, rfl⟩
    rw [← htm] at TM
    have RE2 : Hid (Te = 0 → R = if tm = true then 121 else 0) := hide (fun h0 => by rw [RE.out, if_neg (fun h => h h0), htm]; by_cases h : 4096 < poolS (textsL ts) <;> simp [h])
    have RE1 : Hid (Te ≠ 0 → R = Te) := hide (fun h0 => by rw [RE.out, if_pos h0])
    clear RE htm
    go_enter Tryz.func25, Tryz.ntmps25
    go_wp2_with (simp only [HWA.out])
    refine MC.out.mono ?_
    rintro e w1 ⟨rfl, hb1⟩
    have p0 := (KP.out w1 hb1).cell 0
    have B1 := hide hb1
    clear hb1 MC
    go_wp2
    go_loopw [12] (fun p wr => ∃ k : Nat, k ≤ L ∧ p = .int .i64 (k : Int) ∧ Hid (tabsE ts (L - k) k = Te) ∧ Hid (Below WA.heap.size WA wr)) (fun p _ => L - (intOf p).toNat)
    case atStart => exact ⟨0, Nat.zero_le _, rfl, hide HTS.out, B1⟩
    case round =>
      obtain ⟨k, hk, rfl, HF, HW⟩ := hrel
      have r0 := (KP.out wr HW.out).cell 0
      by_cases hlt : k < L
      · have hlt' : (k : Int) < (L : Int) := by omega
        have CK := hide (CT.out k hlt wr HW.out)
        have ST : Hid (Te = if tabE ts k ≠ 0 then tabE ts k else tabsE ts (L - (k + 1)) (k + 1)) := hide (by
          rw [← HF.out, show L - k = (L - (k + 1)) + 1 by omega, tabsE_step])
        generalize tabE ts k = te at *
        clear HF
        by_cases h0 : te = 0
        · subst h0
          have EE : Hid (tabsE ts (L - (k + 1)) (k + 1) = Te) := hide (by rw [ST.out, if_neg (fun h => h rfl)])
          clear ST
          go_wp2_with fail
          refine CK.out.mono ?_
          rintro e w2 ⟨rfl, hb2⟩
          have HB2 := hide (HW.out.trans (hb2.mono HW.out.size))
          clear hb2 CK
          go_wp2
          exact ⟨⟨k + 1, by omega, by go_num, EE, HB2⟩, by simp [intOf]; omega⟩
        · have EE : Hid (R = te) := hide (by
            have : Te = te := by rw [ST.out, if_pos h0]
            rw [RE1.out (by rw [this]; exact h0), this])
          have h0' : ((te : Int) == 0) = false := beq_eq_false_iff_ne.2 (by omega)
          have h1' : ((te : Int) != 0) = true := by rw [bne, h0']; rfl
          clear ST
          go_wp2_with fail
          refine CK.out.mono ?_
          rintro e w2 ⟨rfl, hb2⟩
          have HB2 := hide (BA.out.trans ((HW.out.trans (hb2.mono HW.out.size)).mono BA.out.size))
          clear hb2 CK
          go_wp2
          go_ret
          exact ⟨by rw [EE.out]; rfl, HB2.out⟩
      · obtain rfl : k = L := by omega
        have hlt' : ¬ (k : Int) < (k : Int) := by omega
        have T0 : Te = 0 := by rw [← HF.out, Nat.sub_self]; rfl
        have EE : Hid (R = if tm = true then 121 else 0) := hide (RE2.out T0)
        have TC := hide (TM.out wr HW.out)
        clear HF hlt T0
        go_wp2_with fail
        refine TC.out.mono ?_
        rintro e w2 ⟨rfl, hb2⟩
        have HB2 := hide (BA.out.trans ((HW.out.trans (hb2.mono HW.out.size)).mono BA.out.size))
        clear hb2 TC
        cases tm
        · go_wp2
          go_ret
          exact ⟨by rw [EE.out]; rfl, HB2.out⟩
        · go_wp2
          go_ret
          exact ⟨by rw [EE.out]; rfl, HB2.out⟩

end Go.Proofs.YtihnakblcfealaaGreatDoor

namespace Go.Proofs.YtihnakblcfealaaGreatDoor
open Go.RowKit

def Down (ts : List Tab) : Prop := ∀ k, k < ts.length → -1 ≤ (tabN ts k).parent ∧ (tabN ts k).parent < (k : Int)

def chainF (ts : List Tab) : Nat → Int → List Tab
  | 0, _ => []
  | f + 1, p => if p < 0 then [] else tabN ts p.toNat :: chainF ts f (tabN ts p.toNat).parent

def chainP (ts : List Tab) (p : Int) : List Tab := chainF ts (p + 1).toNat p

theorem chainF_fuel {ts : List Tab} (hd : Down ts) : ∀ (f : Nat) (p : Int), p < ts.length → (p + 1).toNat ≤ f → chainF ts f p = chainP ts p := by
  intro f
  induction f using Nat.strongRecOn with
  | _ f ih =>
    intro p hp hf
    unfold chainP
    rcases Int.lt_or_le p 0 with h | h
    · have e : (p + 1).toNat = 0 := by omega
      rw [e]
      cases f with
      | zero => rfl
      | succ f => simp only [chainF]; rw [if_pos h]
    · obtain ⟨n, rfl⟩ : ∃ n : Nat, p = (n : Int) := ⟨p.toNat, by omega⟩
      have hn : n < ts.length := by omega
      obtain ⟨h1, h2⟩ := hd n hn
      rw [show ((n : Int) + 1).toNat = n + 1 by omega]
      cases f with
      | zero => omega
      | succ f =>
        simp only [chainF]
        rw [if_neg (by omega), if_neg (by omega), Int.toNat_natCast]
        congr 1
        rw [ih f (by omega) _ (by omega) (by omega)]
        rcases Nat.lt_or_ge n f with hlt | hge
        · rw [ih n (by omega) _ (by omega) (by omega)]
        · obtain rfl : f = n := by omega
          rw [ih f (by omega) _ (by omega) (by omega)]

theorem chainP_none (ts : List Tab) : chainP ts (-1) = [] := rfl
theorem chainP_step {ts : List Tab} (hd : Down ts) (k : Nat) (hk : k < ts.length) : chainP ts (k : Int) = tabN ts k :: chainP ts (tabN ts k).parent := by
  obtain ⟨h1, h2⟩ := hd k hk
  have e : chainP ts (k : Int) = chainF ts (k + 1) (k : Int) := by unfold chainP; rw [show ((k : Int) + 1).toNat = k + 1 by omega]
  rw [e]
  simp only [chainF]
  rw [if_neg (by omega), Int.toNat_natCast, chainF_fuel hd k _ (by omega) (by omega)]

theorem chainP_len {ts : List Tab} (hd : Down ts) : ∀ (n : Nat) (p : Int), (p + 1).toNat ≤ n → p < ts.length → (chainP ts p).length ≤ (p + 1).toNat := by
  intro n
  induction n with
  | zero =>
    intro p hp _
    have : (p + 1).toNat = 0 := by omega
    unfold chainP
    rw [this]
    exact Nat.zero_le _
  | succ n ih =>
    intro p hp hl
    rcases Int.lt_or_le p 0 with h | h
    · have : (p + 1).toNat = 0 := by omega
      unfold chainP
      rw [this]
      exact Nat.zero_le _
    · obtain ⟨k, rfl⟩ : ∃ k : Nat, p = (k : Int) := ⟨p.toNat, by omega⟩
      obtain ⟨h1, h2⟩ := hd k (by omega)
      rw [chainP_step hd k (by omega), List.length_cons]
      have := ih (tabN ts k).parent (by omega) (by omega)
      omega

theorem tabsE_zero {ts : List Tab} : ∀ n k, tabsE ts n k = 0 → ∀ i, k ≤ i → i < k + n → tabE ts i = 0 := by
  intro n
  induction n with
  | zero => intro k _ i h1 h2; omega
  | succ n ih =>
    intro k h i h1 h2
    rw [tabsE_step] at h
    by_cases h0 : tabE ts k ≠ 0
    · rw [if_pos h0] at h; exact absurd h h0
    · rw [if_neg h0] at h
      by_cases e : i = k
      · subst e; exact Decidable.not_not.1 h0
      · exact ih (k + 1) h i (by omega) (by omega)

theorem check_zero {ts : List Tab} (h : checkT ts = 0) : countsOk ts = true ∧ (∀ k, k < ts.length → tabE ts k = 0) ∧ poolS (textsL ts) ≤ 4096 := by
  unfold checkT at h
  by_cases h1 : countsOk ts = false
  · rw [if_pos h1] at h; cases h
  · rw [if_neg h1] at h
    by_cases h2 : tabsE ts ts.length 0 ≠ 0
    · rw [if_pos h2] at h; exact absurd h h2
    · rw [if_neg h2] at h
      refine ⟨by simpa using h1, fun k hk => tabsE_zero _ 0 (Decidable.not_not.1 h2) k (Nat.zero_le _) (by omega), ?_⟩
      by_cases h3 : 4096 < poolS (textsL ts)
      · rw [if_pos h3] at h; cases h
      · omega

theorem tabE_zero {ts : List Tab} {k : Nat} (h : tabE ts k = 0) : mayName (tabN ts k).name = true ∧ placeT (ts.take k) (tabN ts k).name = -1 ∧ -1 ≤ (tabN ts k).parent ∧ (tabN ts k).parent < (k : Int) ∧ entsE ⟨#[]⟩ (tabN ts k).ents = 0 := by
  unfold tabE at h
  by_cases h1 : mayName (tabN ts k).name = false
  · rw [if_pos h1] at h; cases h
  · rw [if_neg h1] at h
    by_cases h2 : placeT (ts.take k) (tabN ts k).name ≠ -1 ∨ (tabN ts k).parent < -1 ∨ (k : Int) ≤ (tabN ts k).parent
    · rw [if_pos h2] at h; cases h
    · rw [if_neg h2] at h
      refine ⟨by simpa using h1, Decidable.not_not.1 (fun q => h2 (.inl q)), Int.not_lt.1 (fun q => h2 (.inr (.inl q))), Int.not_le.1 (fun q => h2 (.inr (.inr q))), h⟩

theorem check_down {ts : List Tab} (h : checkT ts = 0) : Down ts := fun k hk => by
  obtain ⟨_, _, h1, h2, _⟩ := tabE_zero ((check_zero h).2.1 k hk)
  exact ⟨h1, h2⟩

theorem placeF_range (n : ByteArray) : ∀ (ts : List Tab) (k : Nat), placeF n k ts = -1 ∨ ∃ i, i < ts.length ∧ placeF n k ts = ((k + i : Nat) : Int) ∧ (tabN ts i).name = n
  | [], k => .inl rfl
  | t :: r, k => by
    unfold placeF
    by_cases h : t.name = n
    · rw [if_pos h]
      exact .inr ⟨0, by simp, rfl, h⟩
    · rw [if_neg h]
      rcases placeF_range n r (k + 1) with h1 | ⟨i, h1, h2, h3⟩
      · exact .inl h1
      · exact .inr ⟨i + 1, by simpa using h1, by rw [h2]; congr 1; omega, h3⟩
theorem placeT_range (ts : List Tab) (n : ByteArray) : placeT ts n = -1 ∨ ∃ i : Nat, i < ts.length ∧ placeT ts n = (i : Int) ∧ (tabN ts i).name = n := by
  rcases placeF_range n ts 0 with h | ⟨i, h1, h2, h3⟩
  · exact .inl h
  · exact .inr ⟨i, h1, by unfold placeT; rw [h2]; congr 1; omega, h3⟩

def chE (ts : List Tab) (n : ByteArray) : Nat := if checkT ts ≠ 0 then checkT ts else if placeT ts n = -1 then 123 else 0
def chL (ts : List Tab) (n : ByteArray) : List Tab := chainP ts (placeT ts n)

def cellsTb (cs : List (Tab × Value)) : List Value := cs.flatMap fun c => [.string c.1.name, .int .i64 c.1.parent, c.2]

theorem cellsTb_len (cs : List (Tab × Value)) : (cellsTb cs).length = cs.length * 3 := by
  induction cs with
  | nil => rfl
  | cons c r ih =>
    have : cellsTb (c :: r) = [.string c.1.name, .int .i64 c.1.parent, c.2] ++ cellsTb r := rfl
    rw [this, List.length_append, ih, List.length_cons]
    simp; omega
theorem cellsTb_app (a b : List (Tab × Value)) : cellsTb (a ++ b) = cellsTb a ++ cellsTb b := by unfold cellsTb; rw [List.flatMap_append]

theorem cellsTb_get (cs : List (Tab × Value)) : ∀ i c, cs[i]? = some c → (cellsTb cs)[i * 3]? = some (.string c.1.name) ∧ (cellsTb cs)[i * 3 + 1]? = some (.int .i64 c.1.parent) ∧ (cellsTb cs)[i * 3 + 2]? = some c.2 := by
  induction cs with
  | nil => intro i c h; simp at h
  | cons d t ih =>
    intro i c h
    have e : cellsTb (d :: t) = [.string d.1.name, .int .i64 d.1.parent, d.2] ++ cellsTb t := rfl
    rw [e]
    rcases i with _ | i
    · simp at h; subst h; exact ⟨rfl, rfl, rfl⟩
    · obtain ⟨h0, h1, h2⟩ := ih i c (by simpa using h)
      refine ⟨?_, ?_, ?_⟩
      · rw [List.getElem?_append_right (by simp; omega), ← h0]; congr 1; simp; omega
      · rw [List.getElem?_append_right (by simp; omega), ← h1]; congr 1; simp; omega
      · rw [List.getElem?_append_right (by simp; omega), ← h2]; congr 1; simp; omega

theorem infoT : (Tryz.prog.info? 31).map (fun i => (i.zero, i.size, i.bytes)) = some (some (.agg #[.string ⟨#[]⟩, .int .i64 0, .slice none 0 0]), 3, 48) := by kernel_rfl

theorem cell_three_new (w : World) (a b c : Value) (t : TypeId) : ∀ j u, [a, b, c][j]? = some u → (w.alloc (.cells #[a, b, c] t)).cell? ((⟨w.heap.size, 0, none⟩ : Addr).add j) = some u := by
  intro j u hj
  have h : Blk (w.alloc (.cells #[a, b, c] t)) w.heap.size #[a, b, c] t := Blk.newAt w w.heap.size rfl _ _
  rw [Addr.add_lit, Nat.zero_add, h.cell j]
  match j, hj with
  | 0, hj => exact hj
  | 1, hj => exact hj
  | 2, hj => exact hj

theorem TSl.of_own {w w0 : World} {B : Nat} {v : Value} {cs : List (Tab × Value)} (h : w.ownsRow B 31 3 v cs.length (cellsTb cs)) (hc : ∀ c ∈ cs, ESl w0 c.2 c.1.ents) (hb : Below w0.heap.size w0 w) : TSl w v (cs.map Prod.fst) := by
  rcases h.2 with ⟨rfl, h0⟩ | ⟨g, cap, cur, rfl, hg, hh, hn, hm, hsz, ht⟩
  · obtain rfl := List.length_eq_zero_iff.1 h0
    exact ⟨none, 0, rfl, Nat.le_refl _, .inl rfl⟩
  · refine ⟨some ⟨g, 0, none⟩, cap, by rw [List.length_map], by rw [List.length_map]; exact hn, .inr ⟨g, 0, rfl, lt_of_block hh, fun i hi => ?_⟩⟩
    rw [List.length_map] at hi
    have hci : cs[i]? = some cs[i] := List.getElem?_eq_getElem hi
    have e : tabN (cs.map Prod.fst) i = cs[i].1 := tabN_get (by rw [List.getElem?_map, hci]; rfl)
    obtain ⟨g0, g1, g2⟩ := cellsTb_get cs i _ hci
    have hcl := World.ownsRow.cells h (g := g) rfl
    have k0 := hcl _ _ g0
    have k1 := hcl _ _ g1
    have k2 := hcl _ _ g2
    rw [Addr.add_lit] at k0 k1 k2
    rw [e]
    exact ⟨k0, by rw [Nat.add_assoc]; exact k1, cs[i].2, by rw [Nat.add_assoc]; exact k2, (hc _ (List.getElem_mem hi)).below hb⟩

set_option maxRecDepth 100000 in
set_option maxHeartbeats 4000000 in
theorem chainOf_any {w : World} {v : Value} {ts : List Tab} (n : ByteArray) (h : TSl w v ts) (hl : ts.length ≤ 9223372036854775806) (hz : SzT ts) (hT : U8 w) : Calls Tryz.prog 40 #[.agg #[v], .string n] w fun e w' => ∃ v', e = .returned (.tuple #[v', .int .i64 (chE ts n : Int)]) ∧ (chE ts n = 0 → TSl w' v' (chL ts n)) ∧ (chE ts n ≠ 0 → v' = .slice none 0 0) ∧ Below w.heap.size w w' := by
  obtain ⟨i0, hi, hz0, hz1, hz2⟩ := info_parts infoT
  obtain ⟨WA, hWA⟩ : ∃ WA, WA = w.alloc (.cells #[v] 24) := ⟨_, rfl⟩
  have BA : Hid (Below w.heap.size w WA) := hide (by rw [hWA]; exact (Below.refl _ _).alloc (Nat.le_refl _) _)
  have Q : Hid (Blk WA w.heap.size #[v] 24) := hide (by rw [hWA]; exact Blk.newAt w w.heap.size rfl _ _)
  have HWA := hide hWA.symm
  have SA := hide (h.below BA.out)
  have CK := hide (Check_any SA.out hl hz (hT.below BA.out))
  have PL : Hid (∀ X, Below WA.heap.size WA X → Calls Tryz.prog 67 #[v, .string n] X fun e w' => e = .returned (.int .i64 (placeT ts n)) ∧ Below X.heap.size X w') := hide (fun X hX => placeOf_any n (SA.out.below hX) hl)
  have KP : Hid (∀ X, Below WA.heap.size WA X → Blk X w.heap.size #[v] 24) := hide (fun X hX => Q.out.below hX Q.out.lt)
  have q0 := Q.out.cell 0
  have CD : Hid (checkT ts = 0 → Down ts) := hide check_down
  have L16 : Hid (checkT ts = 0 → ts.length ≤ 16) := hide (fun q => (counts_len (check_zero q).1).2.1)
  have RE : Hid (chE ts n = if checkT ts ≠ 0 then checkT ts else if placeT ts n = -1 then 123 else 0) := hide rfl
  have RL : Hid (chL ts n = chainP ts (placeT ts n)) := hide rfl
  have PR := hide (placeT_range ts n)
  generalize chE ts n = R at *
  generalize chL ts n = RS at *
  generalize checkT ts = C at *
  generalize placeT ts n = P at *
  obtain ⟨ao, cap, rfl, hcap, hat⟩ := h
  have HAT := hide hat
  clear hat hWA hT hz Q SA
  by_cases hC : C = 0
  · subst hC
    have HD := hide (CD.out rfl)
    rw [if_neg (fun q => q rfl)] at RE
    by_cases hP : P = -1
    · subst hP
      rw [if_pos rfl] at RE
      have R3 : R = 123 := RE.out
      subst R3
      clear RE HD
      go_enter Tryz.func40, Tryz.ntmps40
      go_wp2_with (simp only [HWA.out])
      refine CK.out.mono ?_
      rintro e w1 ⟨rfl, hb1⟩
      have B1 := hide (BA.out.trans (hb1.mono BA.out.size))
      have p0 := (KP.out w1 hb1).cell 0
      have PL1 := hide (PL.out w1 hb1)
      clear hb1 CK PL KP q0
      go_wp2_with fail
      refine PL1.out.mono ?_
      rintro e w2 ⟨rfl, hb2⟩
      have B2 := hide (B1.out.trans (hb2.mono B1.out.size))
      clear hb2 PL1 B1
      go_wp2
      go_ret2
      exact ⟨_, rfl, fun q => by simp at q, fun _ => rfl, B2.out⟩
    · rw [if_neg hP] at RE
      have R3 : R = 0 := RE.out
      subst R3
      obtain ⟨p, hp, hpe, _⟩ : ∃ i : Nat, i < ts.length ∧ P = (i : Int) ∧ (tabN ts i).name = n := by
        rcases PR.out with q | q
        · exact absurd q hP
        · exact q
      subst hpe
      have hl16 := L16.out rfl
      obtain ⟨b, o, rfl, hb, hcl⟩ : ∃ b o, ao = some ⟨b, o, none⟩ ∧ b < w.heap.size ∧ ∀ i, i < ts.length → TabAt w b o i (tabN ts i) := by
        rcases HAT.out with q | q
        · rw [q] at hp; simp at hp
        · exact q
      have HCL := hide hcl
      have HBB := hide hb
      obtain ⟨L, hL⟩ : ∃ L, L = ts.length := ⟨_, rfl⟩
      rw [← hL] at hl hl16 hcap hp KP PL HWA q0 CK
      rw [← hL]
      have HL := hide hL
      have hWs : w.heap.size < WA.heap.size := by rw [← HWA.out]; simp
      have HWs := hide hWs
      clear RE PR hP CD L16 HAT hcl hb hL hWs
      go_enter Tryz.func40, Tryz.ntmps40
      go_wp2_with (simp only [HWA.out])
      refine CK.out.mono ?_
      rintro e w1 ⟨rfl, hb1⟩
      have B1 := hide hb1
      have p0 := (KP.out w1 hb1).cell 0
      have PL1 := hide (PL.out w1 hb1)
      clear hb1 CK PL q0
      go_wp2_with fail
      refine PL1.out.mono ?_
      rintro e w2 ⟨rfl, hb2⟩
      have B2 := hide (B1.out.trans (hb2.mono B1.out.size))
      clear hb2 PL1 B1 p0
      have hpn : ((p : Int) == -1) = false := beq_eq_false_iff_ne.2 (by omega)
      go_wp2
      go_loopw [7, 8] (fun x y wr => ∃ (q : Int) (cs : List (Tab × Value)), x = .int .i64 q ∧ -1 ≤ q ∧ q < (L : Int) ∧ cs.length + (q + 1).toNat ≤ 16 ∧ Hid (wr.ownsRow WA.heap.size 31 3 y cs.length (cellsTb cs)) ∧ Hid (∀ c ∈ cs, ESl w c.2 c.1.ents) ∧ Hid (cs.map Prod.fst ++ chainP ts q = RS) ∧ Hid (Below WA.heap.size WA wr)) (fun x _ _ => (intOf x + 1).toNat)
      case atStart => exact ⟨(p : Int), [], rfl, by omega, by omega, by simp; omega, hide (World.ownsRow_nil _ _ _ _), hide (fun c hc => by simp at hc), hide (by rw [RL.out]; rfl), B2⟩
      case round =>
        obtain ⟨q, cs, rfl, hq1, hq2, hcs, HO, HE, HR, HW⟩ := hrel
        have r0 := (KP.out wr HW.out).cell 0
        have HWW := hide (BA.out.trans (HW.out.mono BA.out.size))
        by_cases hq : q = -1
        · subst hq
          have TR : Hid (TSl wr u8 RS) := hide (by rw [← HR.out, chainP_none, List.append_nil]; exact TSl.of_own HO.out HE.out HWW.out)
          clear HO HE HR hcs
          go_wp2
          go_ret2
          exact ⟨_, rfl, fun _ => TR.out, fun q => absurd rfl q, HWW.out⟩
        · obtain ⟨k, rfl⟩ : ∃ k : Nat, q = (k : Int) := ⟨q.toNat, by omega⟩
          have hqn : ((k : Int) == -1) = false := beq_eq_false_iff_ne.2 (by omega)
          have hqm : ((k : Int) != -1) = true := by rw [bne, hqn]; rfl
          have hk : k < L := by omega
          have hk' : (k : Int) < (L : Int) := by omega
          have hkt : k < ts.length := by rw [← HL.out]; exact hk
          obtain ⟨d0, d1, ve, d2, hes⟩ := HCL.out k hkt
          obtain ⟨pd1, pd2⟩ := HD.out k hkt
          have CS := hide (chainP_step HD.out k hkt)
          obtain ⟨g, hg⟩ : ∃ g, g = tabN ts k := ⟨_, rfl⟩
          rw [← hg] at d0 d1 hes pd1 pd2 CS
          have c0 := (HWW.out.cell HBB.out).trans d0
          have c1 := (HWW.out.cell HBB.out).trans d1
          have c2 := (HWW.out.cell HBB.out).trans d2
          have HES := hide hes
          have ONE : Hid (∀ u ∈ [Value.string g.name, Value.int .i64 g.parent, ve], u.oneCell' = true) := hide (by
            obtain ⟨a2, cp2, rfl, _, _⟩ := hes
            intro u hu
            simp only [List.mem_cons, List.not_mem_nil, or_false] at hu
            rcases hu with rfl | rfl | rfl <;> rfl)
          have HO2 := hide (HO.out.alloc (.cells #[.string g.name, .int .i64 g.parent, ve] 31))
          have hsz := HW.out.size
          have D0 := hide d0
          have D1 := hide d1
          have D2 := hide d2
          clear hg hkt HO d0 d1 d2 hes hq
          go_wp2_with (at_builtin; refine wpList_append_own _ rfl _ _ 22 rfl WA.heap.size 31 i0 (.agg #[.string ⟨#[]⟩, .int .i64 0, .slice none 0 0]) 3 48 Tryz.underlying22 hi hz0 hz1 hz2 rfl (by decide) _ cs.length (cellsTb cs) rfl HO2.out ⟨wr.heap.size, 0, none⟩ 1 1 [.string g.name, .int .i64 g.parent, ve] rfl rfl (cell_three_new _ _ _ _ _) ONE.out (by unfold maxLen; omega) (by omega) (by simp; omega) ?_
                       intro v' w3 hown' hg3 hnil3
                       have B3 := hide ((HW.out.alloc hsz (.cells #[.string g.name, .int .i64 g.parent, ve] 31)).grown hg3 (by simp; omega) (fun j hj => (HO2.out.lt j hj).1))
                       have O3 := hide hown'
                       have z0 := (KP.out w3 B3.out).cell 0
                       have z1 := ((BA.out.trans (B3.out.mono BA.out.size)).cell HBB.out).trans D1.out
                       clear hg3 hnil3 hown')
          refine ⟨⟨g.parent, cs ++ [(g, ve)], rfl, by omega, by omega, by simp; omega, hide (by rw [List.length_append, cellsTb_app]; exact O3.out), hide (fun c hc => ?_), hide (by rw [← HR.out, CS.out]; simp), B3⟩, by simp [intOf]; omega⟩
          rcases List.mem_append.1 hc with q | q
          · exact HE.out c q
          · simp at q; subst q; exact HES.out
  · have R3 : R = C := by rw [RE.out, if_pos hC]
    subst R3
    have hC' : ((R : Int) == 0) = false := beq_eq_false_iff_ne.2 (by omega)
    have hC2 : ((R : Int) != 0) = true := by rw [bne, hC']; rfl
    clear RE CD RL PR PL KP
    go_enter Tryz.func40, Tryz.ntmps40
    go_wp2_with (simp only [HWA.out])
    refine CK.out.mono ?_
    rintro e w1 ⟨rfl, hb1⟩
    have B1 := hide (BA.out.trans (hb1.mono BA.out.size))
    clear hb1 CK
    go_wp2
    go_ret2
    exact ⟨_, rfl, fun q => absurd q hC, fun _ => rfl, B1.out⟩

end Go.Proofs.YtihnakblcfealaaGreatDoor

namespace Go.Proofs.YtihnakblcfealaaGreatDoor
open Go.RowKit

theorem ltT_iff (a b : ByteArray) : ltT a b = decide (bys a < bys b) := by unfold ltT; rw [sl, sl, Go.Proofs.bytesLess_eq]
theorem leT_iff (a b : ByteArray) : leT a b = decide (bys a ≤ bys b) := by
  unfold leT
  rw [sl, sl, Go.Proofs.bytesLess_eq]
  by_cases h : bys a = bys b
  · rw [h]; simp
  · have hb : (bys a == bys b) = false := by simpa using h
    rw [hb, Bool.or_false]
    refine decide_eq_decide.2 ⟨fun q => List.le_of_lt q, fun q => ?_⟩
    exact Decidable.byContradiction fun hn => h (List.le_antisymm q (List.not_lt.1 hn))
theorem bys_inj {a b : ByteArray} (h : bys a = bys b) : a = b := by
  cases a with | mk x => cases b with | mk y => exact congrArg _ (Array.toList_inj.1 h)

def cmpT (a b : ByteArray) : Int := if ltT a b = true then -1 else if leT a b = true then 0 else 1

theorem cmpT_neg (a b : ByteArray) : cmpT a b < 0 ↔ bys a < bys b := by
  unfold cmpT
  rw [ltT_iff, leT_iff]
  by_cases h : bys a < bys b
  · simp [h]
  · by_cases h2 : bys a ≤ bys b <;> simp [h, h2]
theorem cmpT_zero (a b : ByteArray) : cmpT a b = 0 ↔ a = b := by
  unfold cmpT
  rw [ltT_iff, leT_iff]
  by_cases h : bys a < bys b
  · simp only [h, decide_true, if_true]
    refine ⟨fun q => absurd q (by decide), fun q => ?_⟩
    rw [q] at h
    exact absurd h (List.lt_irrefl _)
  · by_cases h2 : bys a ≤ bys b
    · simp only [h, h2, decide_true, decide_false, if_true]
      refine ⟨fun _ => bys_inj ?_, fun _ => rfl⟩
      exact List.le_antisymm h2 (List.not_lt.1 h)
    · simp only [h, h2, decide_false]
      refine ⟨fun q => absurd q (by decide), fun q => ?_⟩
      rw [q] at h2
      exact absurd (List.le_refl _) h2

set_option maxHeartbeats 1000000 in
theorem isNaN_any (a : ByteArray) (w : World) : Calls Tryz.prog 107 #[.string a] w fun e w' => e = .returned (.bool false) ∧ w = w' := by
  go_enter Tryz.func107, Tryz.ntmps107
  go_wp2
  go_ret
  exact ⟨rfl, rfl⟩

set_option maxHeartbeats 1000000 in
theorem Compare_any (a b : ByteArray) (w : World) : Calls Tryz.prog 89 #[.string a, .string b] w fun e w' => e = .returned (.int .i64 (cmpT a b)) ∧ w = w' := by
  have HA := hide (isNaN_any a w)
  have HB := hide (isNaN_any b w)
  cases h1 : ltT a b with
  | true =>
    have E : Hid (cmpT a b = -1) := hide (by unfold cmpT; rw [if_pos h1])
    have h1' : Op.bytesLess a.toList b.toList = true := h1
    clear h1
    go_enter Tryz.func89, Tryz.ntmps89
    go_wp2_with fail
    refine HA.out.mono ?_
    rintro e w1 ⟨rfl, rfl⟩
    go_wp2_with fail
    refine HB.out.mono ?_
    rintro e w1 ⟨rfl, rfl⟩
    go_wp2
    go_ret
    exact ⟨by rw [E.out]; rfl, rfl⟩
  | false =>
    have h1' : Op.bytesLess a.toList b.toList = false := h1
    cases h2 : leT a b with
    | true =>
      have E : Hid (cmpT a b = 0) := hide (by unfold cmpT; rw [if_neg (by rw [h1]; decide), if_pos h2])
      have h2' : (Op.bytesLess a.toList b.toList || a.toList == b.toList) = true := h2
      have h2b : (a.toList == b.toList) = true := by rw [h1'] at h2'; simpa using h2'
      clear h1 h2 h2'
      go_enter Tryz.func89, Tryz.ntmps89
      go_wp2_with fail
      refine HA.out.mono ?_
      rintro e w1 ⟨rfl, rfl⟩
      go_wp2_with fail
      refine HB.out.mono ?_
      rintro e w1 ⟨rfl, rfl⟩
      go_wp2
      go_ret
      exact ⟨by rw [E.out]; rfl, rfl⟩
    | false =>
      have E : Hid (cmpT a b = 1) := hide (by unfold cmpT; rw [if_neg (by rw [h1]; decide), if_neg (by rw [h2]; decide)])
      have h2' : (Op.bytesLess a.toList b.toList || a.toList == b.toList) = false := h2
      have h2b : (a.toList == b.toList) = false := by rw [h1'] at h2'; simpa using h2'
      clear h1 h2 h2'
      go_enter Tryz.func89, Tryz.ntmps89
      go_wp2_with fail
      refine HA.out.mono ?_
      rintro e w1 ⟨rfl, rfl⟩
      go_wp2_with fail
      refine HB.out.mono ?_
      rintro e w1 ⟨rfl, rfl⟩
      go_wp2
      go_ret
      exact ⟨by rw [E.out]; rfl, rfl⟩

set_option maxHeartbeats 1000000 in
theorem against_any (k t : ByteArray) (d n : Int) (key : ByteArray) (w : World) : Calls Tryz.prog 69 #[.agg #[.string k, .int .i64 d, .string t, .int .i64 n], .string key] w fun e w' => e = .returned (.int .i64 (cmpT k key)) ∧ Below w.heap.size w w' := by
  have HB0 : Hid (Below w.heap.size w (w.alloc (.cells #[.string k, .int .i64 d, .string t, .int .i64 n] 33))) := (Below.refl _ _).alloc (Nat.le_refl _) _
  have HC := hide (Compare_any k key (w.alloc (.cells #[.string k, .int .i64 d, .string t, .int .i64 n] 33)))
  generalize cmpT k key = R at *
  go_enter Tryz.func69, Tryz.ntmps69
  go_wp2_with fail
  refine HC.out.mono ?_
  rintro e w1 ⟨rfl, rfl⟩
  go_wp2
  go_ret
  exact ⟨rfl, HB0.out⟩

def Rises (es : List Ent) : Prop := ∀ i j, i < j → j < es.length → bys (entN es i).key < bys (entN es j).key

def FoundE (es : List Ent) (key : ByteArray) (i : Nat) (b : Bool) : Prop := (b = true → i < es.length ∧ (entN es i).key = key) ∧ (b = false → ∀ j, j < es.length → (entN es j).key ≠ key)

theorem found_at {es : List Ent} {key : ByteArray} {lo : Nat} (hr : Rises es) (h1 : ∀ j, j < lo → j < es.length → bys (entN es j).key < bys key) (h2 : ∀ j, lo ≤ j → j < es.length → ¬ bys (entN es j).key < bys key) : FoundE es key lo (decide (lo < es.length) && decide (cmpT (entN es lo).key key = 0)) := by
  constructor
  · intro h
    rw [Bool.and_eq_true, decide_eq_true_eq, decide_eq_true_eq, cmpT_zero] at h
    exact h
  · intro h j hj e
    rcases Nat.lt_or_ge j lo with q | q
    · have := h1 j q hj
      rw [e] at this
      exact List.lt_irrefl _ this
    · have hlo : lo < es.length := by omega
      rw [decide_eq_true hlo, Bool.true_and, decide_eq_false_iff_not, cmpT_zero] at h
      by_cases hjl : j = lo
      · subst hjl; exact h e
      · have := hr lo j (by omega) hj
        rw [e] at this
        exact h2 lo (Nat.le_refl _) hlo this

end Go.Proofs.YtihnakblcfealaaGreatDoor
