/-
  What quipuref16's Before and Same answer.
  Variables of three, six and fourteen cells, all cells at once; what is answered by a function that hands back digits that are shown.
  What width's small tests do.
-/
import Derived.Test.YtionbkmbhhlmjaaGreatDoorPB16
import Derived.Laws.StructEq
import Derived.Test.YtionbkmbhhlmjaaGreatDoorPB2
import Derived.Test.YtionbkmbhhlmjaaGreatDoorPB5
import Derived.Laws.EntriesVeiled
namespace Go.Proofs.YtionbkmbhhlmjaaGreatDoor
open Go.RowKit

set_option maxRecDepth 100000 in
set_option maxHeartbeats 4000000 in
theorem rBefore_any (k n : Nat) (first further least : Int) (w : World) (hk : k ≤ n) (hn : n ≤ 100000) (hf : first ≤ 9223372036854775807) (hu : further ≤ 9223372036854775807) :
    Calls Tryz.prog 20 #[.int .i64 (k : Int), .int .i64 (n : Int), .int .i64 first, .int .i64 further, .int .i64 least] w fun e w' => e = .returned (.bool (befB n first further least (k : Int))) ∧ w' = w := by
  have MX := maxI_run 1 least
  have EB : Hid (befB n first further least (k : Int) = (decide (0 < first) && (decide (max 1 least ≤ (n : Int) - first) && (decide (first ≤ (k : Int)) && (decide ((k : Int) < n) && decide (((k : Int) - first) % furR first further = 0)))))) := hide (by
    have e : decide (Grp n first least) = (decide (0 < first) && decide (max 1 least ≤ (n : Int) - first)) := by
      by_cases q1 : 0 < first
      · by_cases q2 : max 1 least ≤ (n : Int) - first
        · rw [decide_eq_true q1, decide_eq_true q2, decide_eq_true (show Grp n first least from ⟨q1, q2⟩)]; rfl
        · rw [decide_eq_false q2, decide_eq_false (fun h : Grp n first least => q2 h.2), Bool.and_false]
      · rw [decide_eq_false q1, decide_eq_false (fun h : Grp n first least => q1 h.1), Bool.false_and]
    unfold befB
    rw [e, Bool.and_assoc])
  obtain ⟨m, hm⟩ : ∃ m, m = max 1 least := ⟨_, rfl⟩
  rw [← hm] at MX EB
  clear hm
  obtain ⟨R, hR⟩ : ∃ R, R = befB n first further least (k : Int) := ⟨_, rfl⟩
  rw [← hR] at EB ⊢
  clear hR
  by_cases h1 : first ≤ 0
  · have ER : Hid (R = false) := hide (by rw [EB.out, decide_eq_false (show ¬ 0 < first by omega)]; rfl)
    clear EB
    go_enter Tryz.func20, Tryz.ntmps20
    go_wp2
    go_ret
    exact ⟨by rw [ER.out]; rfl, rfl⟩
  · have h1' : 0 < first := by omega
    by_cases h2 : (k : Int) < first
    · have ER : Hid (R = false) := hide (by rw [EB.out, decide_eq_false (show ¬ first ≤ (k : Int) by omega)]; simp)
      clear EB
      go_enter Tryz.func20, Tryz.ntmps20
      go_wp2
      go_ret
      exact ⟨by rw [ER.out]; rfl, rfl⟩
    · by_cases h3 : k = n
      · subst h3
        have ER : Hid (R = false) := hide (by rw [EB.out, decide_eq_false (show ¬ (k : Int) < (k : Int) by omega)]; simp)
        have h3' : (k : Int) ≤ (k : Int) := Int.le_refl _
        clear EB
        go_enter Tryz.func20, Tryz.ntmps20
        go_wp2
        go_ret
        exact ⟨by rw [ER.out]; rfl, rfl⟩
      · have h3' : ¬ (n : Int) ≤ (k : Int) := by omega
        have hw1 : IntKind.i64.wrap ((n : Int) - first) = (n : Int) - first := by rw [IntKind.wrap_i64]; omega
        by_cases h4 : (n : Int) - first < m
        · have ER : Hid (R = false) := hide (by rw [EB.out, decide_eq_false (show ¬ m ≤ (n : Int) - first by omega)]; simp)
          clear EB
          go_enter Tryz.func20, Tryz.ntmps20
          go_wp2
          go_ret
          exact ⟨by rw [ER.out]; rfl, rfl⟩
        · have ER : Hid (R = decide (((k : Int) - first) % furR first further = 0)) := hide (by rw [EB.out, decide_eq_true h1', decide_eq_true (show m ≤ (n : Int) - first by omega), decide_eq_true (show first ≤ (k : Int) by omega), decide_eq_true (show (k : Int) < n by omega)]; rfl)
          obtain ⟨d, hd⟩ : ∃ d, d = (k : Int) - first := ⟨_, rfl⟩
          rw [← hd] at ER
          have hw2 : IntKind.i64.wrap ((k : Int) - first) = d := by rw [IntKind.wrap_i64]; omega
          have hd0 : 0 ≤ d := by omega
          have hdb : d ≤ 100000 := by omega
          by_cases h5 : further ≤ 0
          · have eF : furR first further = first := by unfold furR; rw [if_pos h5]
            rw [eF] at ER
            have ht : Int.tmod d first = d % first := Int.tmod_eq_emod_of_nonneg hd0
            have hz : ¬ first = 0 := by omega
            have b1 := Int.emod_nonneg d hz
            have b2 := Int.emod_lt_of_pos d h1'
            obtain ⟨r, hr⟩ : ∃ r, r = d % first := ⟨_, rfl⟩
            rw [← hr] at ht b1 b2 ER
            have hwr : IntKind.i64.wrap r = r := by rw [IntKind.wrap_i64]; omega
            have ER2 : Hid (R = (r == 0)) := hide (by rw [ER.out]; rfl)
            clear EB hd hr eF ER
            go_enter Tryz.func20, Tryz.ntmps20
            go_wp2
            go_ret
            exact ⟨by rw [ER2.out]; rfl, rfl⟩
          · have eF : furR first further = further := by unfold furR; rw [if_neg h5]
            rw [eF] at ER
            have ht : Int.tmod d further = d % further := Int.tmod_eq_emod_of_nonneg hd0
            have hz : ¬ further = 0 := by omega
            have b1 := Int.emod_nonneg d hz
            have b2 := Int.emod_lt_of_pos d (show 0 < further by omega)
            obtain ⟨r, hr⟩ : ∃ r, r = d % further := ⟨_, rfl⟩
            rw [← hr] at ht b1 b2 ER
            have hwr : IntKind.i64.wrap r = r := by rw [IntKind.wrap_i64]; omega
            have ER2 : Hid (R = (r == 0)) := hide (by rw [ER.out]; rfl)
            clear EB hd hr eF ER
            go_enter Tryz.func20, Tryz.ntmps20
            go_wp2
            go_ret
            exact ⟨by rw [ER2.out]; rfl, rfl⟩

def pcV (p : Pc) : Value := .agg #[.string p.text, .int .i64 p.field]
def PAt (w : World) (b : Nat) (ps : List Pc) : Prop := ∀ i, i < ps.length → w.cell? ⟨b, i * 2, none⟩ = some (.string (pcN ps i).text) ∧ w.cell? ⟨b, i * 2 + 1, none⟩ = some (.int .i64 (pcN ps i).field)
theorem PAt.below {w w' : World} {b : Nat} {ps : List Pc} (h : PAt w b ps) (hb : Below w.heap.size w w') : PAt w' b ps := fun i hi => ⟨cellD_on hb (h i hi).1, cellD_on hb (h i hi).2⟩
theorem PAt.own {w : World} {B g cap : Nat} {ps : List Pc} (h : w.ownsRow B 34 2 (.slice (some ⟨g, 0, none⟩) ps.length cap) ps.length (cellsP ps)) : PAt w g ps := fun i hi => by
  obtain ⟨h1, h2⟩ := cellsP_at ps i hi
  exact ⟨(h.cellAt (i * 2) (by omega)).trans h1, (h.cellAt (i * 2 + 1) (by omega)).trans h2⟩

theorem tlD_inj {x y : ByteArray} (h : x.toList = y.toList) : x = y := by
  rw [sl, sl] at h
  rw [← mkP_bys x, ← mkP_bys y, h]
theorem pc_eql (a b : Pc) (W : World) : (binOp .eql 34 (pcV a) (pcV b)).run Tryz.prog W = .ok (.bool (decide (a = b))) W := by
  obtain ⟨x, n⟩ := a
  obtain ⟨y, m⟩ := b
  unfold pcV
  by_cases h3 : x = y
  · by_cases h2 : n = m
    · subst h3; subst h2
      simp [go_sem, Tryz.underlying34, Tryz.underlying3, Tryz.underlying9, Program.fieldsOf]
    · subst h3
      simp [go_sem, Tryz.underlying34, Tryz.underlying3, Tryz.underlying9, Program.fieldsOf, h2]
  · have h3' : ¬ x.toList = y.toList := fun e => h3 (tlD_inj e)
    simp [go_sem, Tryz.underlying34, Tryz.underlying3, Tryz.underlying9, Program.fieldsOf, h3, h3']
theorem pc_neq (a b : Pc) (W : World) : (binOp .neq 34 (pcV a) (pcV b)).run Tryz.prog W = .ok (.bool (!decide (a = b))) W := by
  have h := pc_eql a b W
  unfold pcV at *
  rw [run_eql_struct] at h
  rw [run_neq_struct]
  generalize (Op.equalIn 10000 34 (Value.agg #[Value.string a.text, Value.int IntKind.i64 a.field]) (Value.agg #[Value.string b.text, Value.int IntKind.i64 b.field])).run Tryz.prog W = R at *
  cases R with
  | ok v w' =>
    simp only [Result.andThen, Result.ok.injEq, Value.bool.injEq] at h ⊢
    exact ⟨by rw [h.1], h.2⟩
  | _ => simp [Result.andThen] at h

def sameP : List Pc → List Pc → Bool
  | [], [] => true
  | a :: l, b :: m => decide (a = b) && sameP l m
  | _, _ => false
theorem sameP_eq : ∀ a b : List Pc, sameP a b = decide (a = b)
  | [], [] => rfl
  | [], _ :: _ => by simp [sameP]
  | _ :: _, [] => by simp [sameP]
  | a :: l, b :: m => by
    rw [sameP, sameP_eq l m]
    by_cases h : a = b <;> by_cases k : l = m <;> simp [h, k]
theorem pcN_drop {l : List Pc} {i : Nat} (h : i < l.length) : l.drop i = pcN l i :: l.drop (i + 1) := by
  rw [List.drop_eq_getElem_cons h]
  congr 1
  have := pcN_some h
  rw [List.getElem?_eq_getElem h] at this
  exact Option.some.inj this

set_option maxRecDepth 100000 in
set_option maxHeartbeats 2000000 in
theorem SameP_at (b cap b' cap' : Nat) (ts us : List Pc) (w : World) (hl : ts.length ≤ 140737488355328) (hc : ts.length ≤ cap) (hc' : us.length ≤ cap') (he : ts.length = us.length) (hA : PAt w b ts) (hB : PAt w b' us) :
    Calls Tryz.prog 9 #[.slice (some ⟨b, 0, none⟩) ts.length cap, .slice (some ⟨b', 0, none⟩) us.length cap'] w fun e w' => e = .returned (.bool (decide (ts = us))) ∧ Below w.heap.size w w' := by
  rw [← sameP_eq]
  have HA := hide hA
  have HB := hide hB
  have HE := hide he
  rw [← he] at hc' ⊢
  obtain ⟨L, hL⟩ : ∃ L, L = ts.length := ⟨_, rfl⟩
  rw [← hL] at hl hc hc' ⊢
  have HL := hide hL
  obtain ⟨R, hR⟩ : ∃ R, R = sameP ts us := ⟨_, rfl⟩
  rw [← hR]
  have HR := hide hR
  clear hR hL he hA hB
  go_enter Tryz.func9, Tryz.ntmps9
  go_wp2
  go_loopw [5] (fun q wr => ∃ k : Nat, k ≤ L ∧ q = .int .i64 (k : Int) ∧ Hid (sameP (ts.drop k) (us.drop k) = R) ∧ Hid (Below w.heap.size w wr)) (fun q _ => L - (intOf q).toNat)
  case atStart => exact ⟨0, Nat.zero_le _, rfl, hide (by rw [HR.out, List.drop_zero, List.drop_zero]), Below.refl _ _⟩
  case round =>
    obtain ⟨k, hk, rfl, HF, HW⟩ := hrel
    by_cases hlt : k < L
    · have hlt' : (k : Int) < (L : Int) := by omega
      have hkt : k < ts.length := by rw [← HL.out]; exact hlt
      have hku : k < us.length := by rw [← HE.out]; exact hkt
      obtain ⟨c0, c1⟩ := (HA.out.below HW.out) k hkt
      obtain ⟨d0, d1⟩ := (HB.out.below HW.out) k hku
      have e1 := HF.out
      rw [pcN_drop hkt, pcN_drop hku, sameP] at e1
      have E1 := hide e1
      have NQ : Hid (∀ W, (binOp .neq 34 (pcV (pcN ts k)) (pcV (pcN us k))).run Tryz.prog W = .ok (.bool (!decide (pcN ts k = pcN us k))) W) := hide (fun W => pc_neq _ _ W)
      generalize decide (pcN ts k = pcN us k) = Q at *
      generalize pcN ts k = t at *
      generalize pcN us k = u at *
      unfold pcV at NQ
      have nq := NQ.out
      clear HF e1 hkt hku NQ
      go_wp2_with fail
      go_region
      have HN := hide HW.out.drew
      cases Q
      · have E2 : Hid (R = false) := hide (by rw [← E1.out]; rfl)
        clear E1
        go_wp2
        go_ret
        exact ⟨by first | (rw [E2.out]; done) | (rw [E2.out]; rfl), HN.out⟩
      · have E2 : Hid (sameP (ts.drop (k + 1)) (us.drop (k + 1)) = R) := hide (by rw [← E1.out]; rfl)
        clear E1
        go_wp2
        exact ⟨⟨k + 1, by omega, by go_num, E2, HN⟩, by simp [intOf]; omega⟩
    · obtain rfl : k = L := by omega
      have hlt' : ¬ (k : Int) < (k : Int) := by omega
      have ER : Hid (R = true) := hide (by rw [← HF.out, List.drop_eq_nil_of_le (by rw [← HL.out]; exact Nat.le_refl _), List.drop_eq_nil_of_le (by rw [← HE.out, ← HL.out]; exact Nat.le_refl _)]; rfl)
      clear HF hlt
      go_wp2
      go_ret
      exact ⟨by first | (rw [ER.out]; done) | (rw [ER.out]; rfl), HW.out⟩

set_option maxHeartbeats 1000000 in
theorem SameP_len (ao ao' : Option Addr) (n m cap cap' : Nat) (w : World) (hn : n ≠ m) :
    Calls Tryz.prog 9 #[.slice ao n cap, .slice ao' m cap'] w fun e w' => e = .returned (.bool false) ∧ Below w.heap.size w w' := by
  have hn' : ((n : Int) == (m : Int)) = false := beq_eq_false_iff_ne.2 (by omega)
  have hn2 : ((n : Int) != (m : Int)) = true := by rw [bne, hn']; rfl
  have hn3 : ¬ (n : Int) = (m : Int) := by omega
  go_enter Tryz.func9, Tryz.ntmps9
  go_wp2
  go_ret
  exact ⟨rfl, Below.refl _ _⟩
set_option maxHeartbeats 1000000 in
theorem SameP_nil (ao ao' : Option Addr) (cap cap' : Nat) (w : World) :
    Calls Tryz.prog 9 #[.slice ao 0 cap, .slice ao' 0 cap'] w fun e w' => e = .returned (.bool true) ∧ Below w.heap.size w w' := by
  go_enter Tryz.func9, Tryz.ntmps9
  go_wp2
  go_loopw [5] (fun q wr => q = .int .i64 0 ∧ wr = w) (fun q _ => 0)
  case atStart => exact ⟨rfl, rfl⟩
  case round =>
    obtain ⟨rfl, rfl⟩ := hrel
    go_wp2
    go_ret
    exact ⟨rfl, Below.refl _ _⟩

theorem SameP_own {w : World} {B B' : Nat} {v v' : Value} {ts us : List Pc} (h : w.ownsRow B 34 2 v ts.length (cellsP ts)) (h' : w.ownsRow B' 34 2 v' us.length (cellsP us)) (hl : ts.length ≤ 140737488355328) :
    Calls Tryz.prog 9 #[v, v'] w fun e w' => e = .returned (.bool (decide (ts = us))) ∧ Below w.heap.size w w' := by
  by_cases hn : ts.length = us.length
  · by_cases h0 : ts.length = 0
    · obtain rfl : ts = [] := List.eq_nil_of_length_eq_zero h0
      obtain rfl : us = [] := List.eq_nil_of_length_eq_zero (by rw [← hn]; rfl)
      obtain ⟨ao, c, rfl⟩ := ownD_slice h
      obtain ⟨ao', c', rfl⟩ := ownD_slice h'
      exact SameP_nil ao ao' c c' w
    · obtain ⟨g, c, rfl, _, _, h3⟩ := ownD_some h h0
      obtain ⟨g', c', rfl, _, _, h3'⟩ := ownD_some h' (by omega)
      exact SameP_at g c g' c' ts us w hl h3 h3' hn (PAt.own h) (PAt.own h')
  · have : decide (ts = us) = false := decide_eq_false (fun e => hn (by rw [e]))
    rw [this]
    obtain ⟨ao, c, rfl⟩ := ownD_slice h
    obtain ⟨ao', c', rfl⟩ := ownD_slice h'
    exact SameP_len ao ao' _ _ c c' w hn

end Go.Proofs.YtionbkmbhhlmjaaGreatDoor

namespace Go.Proofs.YtionbkmbhhlmjaaGreatDoor
open Go.RowKit

theorem Blk.six {w : World} {b : Nat} {x0 x1 x2 x3 x4 x5 : Value} {t : TypeId} (h : Blk w b #[x0, x1, x2, x3, x4, x5] t) : w.cell? ⟨b, 0, none⟩ = some x0 ∧ w.cell? ⟨b, 1, none⟩ = some x1 ∧ w.cell? ⟨b, 2, none⟩ = some x2 ∧ w.cell? ⟨b, 3, none⟩ = some x3 ∧ w.cell? ⟨b, 4, none⟩ = some x4 ∧ w.cell? ⟨b, 5, none⟩ = some x5 := ⟨h.cell 0, h.cell 1, h.cell 2, h.cell 3, h.cell 4, h.cell 5⟩
end Go.Proofs.YtionbkmbhhlmjaaGreatDoor

namespace Go.Proofs.YtionbkmbhhlmjaaGreatDoor
open Go.RowKit

set_option maxHeartbeats 1000000 in
theorem within_t (n lo hi : Int) (w : World) (h1 : lo ≤ n) (h2 : n ≤ hi) : Calls Tryz.prog 50 #[.int .i64 n, .int .i64 lo, .int .i64 hi] w fun e w' => e = .returned (.bool true) ∧ Below w.heap.size w w' := by
  go_enter Tryz.func50, Tryz.ntmps50
  go_wp2
  go_ret
  exact ⟨rfl, Below.refl _ _⟩

set_option maxHeartbeats 1000000 in
theorem within_f1 (n lo hi : Int) (w : World) (h1 : n < lo) : Calls Tryz.prog 50 #[.int .i64 n, .int .i64 lo, .int .i64 hi] w fun e w' => e = .returned (.bool false) ∧ Below w.heap.size w w' := by
  go_enter Tryz.func50, Tryz.ntmps50
  go_wp2
  go_ret
  exact ⟨rfl, Below.refl _ _⟩

set_option maxHeartbeats 1000000 in
theorem within_f2 (n lo hi : Int) (w : World) (h1 : lo ≤ n) (h2 : hi < n) : Calls Tryz.prog 50 #[.int .i64 n, .int .i64 lo, .int .i64 hi] w fun e w' => e = .returned (.bool false) ∧ Below w.heap.size w w' := by
  go_enter Tryz.func50, Tryz.ntmps50
  go_wp2
  go_ret
  exact ⟨congrArg (fun b => Ending.returned (Value.bool b)) (show decide (n ≤ hi) = false by simp; omega), Below.refl _ _⟩

theorem within_f (n lo hi : Int) (w : World) (h : ¬ (lo ≤ n ∧ n ≤ hi)) : Calls Tryz.prog 50 #[.int .i64 n, .int .i64 lo, .int .i64 hi] w fun e w' => e = .returned (.bool false) ∧ Below w.heap.size w w' := by
  by_cases h1 : lo ≤ n
  · exact within_f2 n lo hi w h1 (by omega)
  · exact within_f1 n lo hi w (by omega)

end Go.Proofs.YtionbkmbhhlmjaaGreatDoor
