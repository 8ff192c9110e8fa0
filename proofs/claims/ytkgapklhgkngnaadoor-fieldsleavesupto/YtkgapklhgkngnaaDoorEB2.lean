/-
  A variable of several cells, in a block by itself.
  Spans: what comparing two answers.
  What compare of two spans answers.
  A heap in a list: what a step up and a step down leaves; lists in one order.
  Ranked spans in memory, in a list that the call owns.
  What the queue's methods answer: Len, Less.
  What the queue's methods do: Swap.
  What the queue's methods do: Push, Pop.
  What heap.up does to the queue.
-/
import Derived.Test.YtkgapklhgkngnaaDoorENorm
import Derived.Handy
import Derived.Test.YtkgapklhgkngnaaDoorEMem
import Derived.Deep.RegionHeld3
import Derived.Deep.Upon
import Derived.Deep.DrawnRows
import Derived.Laws.OwnMore
import Derived.Deep.RegionLaw
import Derived.Deep.AppendLies
import Derived.Laws.AppendOwnNone
namespace Go.Proofs.YtkgapklhgkngnaaDoor
open Go.RowKit

def Blk (w : World) (b : Nat) (cs : Array Value) (t : TypeId) : Prop := w.heap[b]? = some (.cells cs t (0, 0))

section
variable {w w' : World} {b : Nat} {cs : Array Value} {t : TypeId}

theorem Blk.cell (h : Blk w b cs t) (i : Nat) : w.cell? ⟨b, i, none⟩ = cs[i]? := by unfold Blk at h; simp [World.cell?, h]
theorem Blk.free (h : Blk w b cs t) (i : Nat) : w.frozen? ⟨b, i, none⟩ = false := by unfold Blk at h; simp [World.frozen?, h]
theorem Blk.new (w : World) (cs : Array Value) (t : TypeId) : Blk (w.alloc (.cells cs t)) w.heap.size cs t := heap_alloc_new _ _
theorem Blk.newAt (w : World) (n : Nat) (hn : w.heap.size = n) (cs : Array Value) (t : TypeId) : Blk (w.alloc (.cells cs t)) n cs t := by subst hn; exact Blk.new _ _ _
theorem Blk.lt (h : Blk w b cs t) : b < w.heap.size := lt_of_block h
theorem Blk.below (h : Blk w b cs t) {B : Nat} (hb : Below B w w') (hg : b < B) : Blk w' b cs t := by
  unfold Blk at *
  rw [hb.block b hg]; exact h
theorem Blk.alloc (h : Blk w b cs t) (o : Obj) : Blk (w.alloc o) b cs t := by
  have hlt := h.lt
  unfold Blk at *
  rw [Below.heap_alloc _ _ _ hlt]; exact h
end

end Go.Proofs.YtkgapklhgkngnaaDoor

namespace Go.Proofs.YtkgapklhgkngnaaDoor
open Go.RowKit

attribute [local go_sem ↓] Go.wp_at_zero Go.wp_at_succ

structure Sp where
  f : Int
  a : Int
  b : Int
deriving DecidableEq
def spC (s : Sp) : Array Value := #[.int .i64 s.f, .int .i64 s.a, .int .i64 s.b]

def cmpZ (x y : Int) : Int := if x < y then -1 else if y < x then 1 else 0
def orZ (x y : Int) : Int := if x = 0 then y else x
def cmpS (s t : Sp) : Int := orZ (cmpZ s.a t.a) (cmpZ t.b s.b)

set_option maxHeartbeats 1000000 in
theorem isNaN_any (x : Int) (w : World) : Calls Tryd.prog 60 #[.int .i64 x] w fun e w' => e = .returned (.bool false) ∧ w' = w := by
  have h1 : ((x : Int) != x) = false := by simp
  go_enter Tryd.func60, Tryd.ntmps60
  go_wp2
  go_ret
  exact ⟨rfl, rfl⟩

set_option maxHeartbeats 2000000 in
theorem cmpZ_any (x y : Int) (w : World) : Calls Tryd.prog 54 #[.int .i64 x, .int .i64 y] w fun e w' => e = .returned (.int .i64 (cmpZ x y)) ∧ w' = w := by
  obtain ⟨r, hr⟩ : ∃ r, r = cmpZ x y := ⟨_, rfl⟩
  rw [← hr]
  unfold cmpZ at hr
  by_cases h1 : x < y
  · rw [if_pos h1] at hr
    subst hr
    go_enter Tryd.func54, Tryd.ntmps54
    go_wp2_with (go_at_call 60; refine (isNaN_any _ _).mono ?_; rintro e w' ⟨rfl, rfl⟩)
    go_ret
    exact ⟨rfl, rfl⟩
  · rw [if_neg h1] at hr
    by_cases h2 : y < x
    · rw [if_pos h2] at hr
      subst hr
      go_enter Tryd.func54, Tryd.ntmps54
      go_wp2_with (go_at_call 60; refine (isNaN_any _ _).mono ?_; rintro e w' ⟨rfl, rfl⟩)
      go_ret
      exact ⟨rfl, rfl⟩
    · rw [if_neg h2] at hr
      subst hr
      go_enter Tryd.func54, Tryd.ntmps54
      go_wp2_with (go_at_call 60; refine (isNaN_any _ _).mono ?_; rintro e w' ⟨rfl, rfl⟩)
      go_ret
      exact ⟨rfl, rfl⟩

set_option maxHeartbeats 2000000 in
theorem orZ_any (x y : Int) (g : Nat) (w : World) (c0 : w.cell? ⟨g, 0, none⟩ = some (.int .i64 x)) (c1 : w.cell? ⟨g, 1, none⟩ = some (.int .i64 y)) :
    Calls Tryd.prog 53 #[.slice (some ⟨g, 0, none⟩) 2 2] w fun e w' => e = .returned (.int .i64 (orZ x y)) ∧ w' = w := by
  obtain ⟨r, hr⟩ : ∃ r, r = orZ x y := ⟨_, rfl⟩
  rw [← hr]
  unfold orZ at hr
  by_cases h1 : x = 0
  · rw [if_pos h1] at hr
    subst h1
    by_cases h2 : y = 0
    · subst h2
      subst hr
      go_enter Tryd.func53, Tryd.ntmps53
      go_wp2
      go_loop [8] (fun k => k = .int .i64 0 ∨ k = .int .i64 1 ∨ k = .int .i64 2) (fun k => 2 - (intOf k).toNat)
      case atStart => exact .inl rfl
      case round =>
        rcases hrel with rfl | rfl | rfl
        · go_wp2
          go_round
          case rel => exact .inr (.inl rfl)
          case measure => simp [intOf]
        · go_wp2
          go_round
          case rel => exact .inr (.inr rfl)
          case measure => simp [intOf]
        · go_wp2
          go_ret
          exact ⟨rfl, rfl⟩
    · have h3 : (y == 0) = false := by simpa using h2
      have h4 : (y != 0) = true := by simpa using h2
      subst hr
      go_enter Tryd.func53, Tryd.ntmps53
      go_wp2
      go_loop [8] (fun k => k = .int .i64 0 ∨ k = .int .i64 1) (fun k => 2 - (intOf k).toNat)
      case atStart => exact .inl rfl
      case round =>
        rcases hrel with rfl | rfl
        · go_wp2
          go_round
          case rel => exact .inr rfl
          case measure => simp [intOf]
        · go_wp2
          go_ret
          exact ⟨rfl, rfl⟩
  · rw [if_neg h1] at hr
    have h3 : (x == 0) = false := by simpa using h1
    have h4 : (x != 0) = true := by simpa using h1
    subst hr
    go_enter Tryd.func53, Tryd.ntmps53
    go_wp2
    go_loop [8] (fun k => k = .int .i64 0) (fun k => 2 - (intOf k).toNat)
    case atStart => exact rfl
    case round =>
      obtain rfl := hrel
      go_wp2
      go_ret
      exact ⟨rfl, rfl⟩
end Go.Proofs.YtkgapklhgkngnaaDoor

namespace Go.Proofs.YtkgapklhgkngnaaDoor
open Go.RowKit

attribute [local go_sem ↓] Go.wp_at_zero Go.wp_at_succ

theorem new_cell (W : World) (cs : Array Value) (t : TypeId) (i b : Nat) (hb : W.heap.size = b) : (W.alloc (.cells cs t)).drew.cell? ⟨b, i, none⟩ = cs[i]? := by
  subst hb
  exact (Blk.new W cs t).cell i

theorem new_cell0 (W : World) (cs : Array Value) (t : TypeId) (i b : Nat) (hb : W.heap.size = b) : (W.alloc (.cells cs t)).cell? ⟨b, i, none⟩ = cs[i]? := by
  subst hb
  exact (Blk.new W cs t).cell i

set_option maxRecDepth 100000 in
set_option maxHeartbeats 8000000 in
theorem compare_any (s t : Sp) (w : World) : Calls Tryd.prog 37 #[.agg (spC s), .agg (spC t)] w fun e w' => e = .returned (.int .i64 (cmpS s t)) ∧ Below w.heap.size w w' := by
  obtain ⟨f, a, b⟩ := s
  obtain ⟨f2, a2, b2⟩ := t
  unfold cmpS spC
  simp only []
  go_enter Tryd.func37, Tryd.ntmps37
  go_wp2_with fail
  go_region_held3 (fun X => X.cell? ⟨w.heap.size, 1, none⟩ = some (.int .i64 a) ∧ X.cell? ⟨w.heap.size, 2, none⟩ = some (.int .i64 b) ∧ X.cell? ⟨w.heap.size + 1, 1, none⟩ = some (.int .i64 a2) ∧ X.cell? ⟨w.heap.size + 1, 2, none⟩ = some (.int .i64 b2)) (go_keep)
    (first | (go_at_call 54; refine (cmpZ_any _ _ _).mono ?_; rintro e w' ⟨rfl, rfl⟩) | (go_at_call 53; refine (orZ_any _ _ _ _ ((new_cell _ _ _ 0 _ (by simp)).trans rfl) ((new_cell _ _ _ 1 _ (by simp)).trans rfl)).mono ?_; rintro e w' ⟨rfl, rfl⟩))
  all_goals
    go_wp2
    go_ret
    exact ⟨rfl, ((((Below.refl _ _).alloc (Nat.le_refl _) _).alloc (by simp) _).alloc (by simp <;> omega) _).drew⟩
end Go.Proofs.YtkgapklhgkngnaaDoor

namespace Go.Proofs.YtkgapklhgkngnaaDoor

def gN {α : Type} (d : α) (l : List α) (i : Nat) : α := l[i]?.getD d
theorem gN_some {α : Type} {d : α} {l : List α} {i : Nat} (h : i < l.length) : l[i]? = some (gN d l i) := by unfold gN; rw [List.getElem?_eq_getElem h]; rfl
theorem gN_mem {α : Type} {d : α} {l : List α} {i : Nat} (h : i < l.length) : gN d l i ∈ l := List.mem_of_getElem? (gN_some h)
def swL {α : Type} (d : α) (l : List α) (i j : Nat) : List α := (l.set i (gN d l j)).set j (gN d l i)
theorem swL_len {α : Type} (d : α) (l : List α) (i j : Nat) : (swL d l i j).length = l.length := by simp [swL]
theorem swL_at {α : Type} {d : α} {l : List α} {i j : Nat} (hi : i < l.length) (hj : j < l.length) (k : Nat) : gN d (swL d l i j) k = if k = j then gN d l i else if k = i then gN d l j else gN d l k := by
  unfold swL
  conv => lhs; unfold gN
  rw [List.getElem?_set]
  by_cases h1 : k = j
  · rw [if_pos h1.symm, if_pos h1, if_pos (by simpa using hj)]; rfl
  · rw [if_neg (fun h => h1 h.symm), if_neg h1, List.getElem?_set]
    by_cases h2 : k = i
    · rw [if_pos h2.symm, if_pos h2, if_pos hi]; rfl
    · rw [if_neg (fun h => h2 h.symm), if_neg h2]; rfl
theorem swL_perm {α : Type} {d : α} {l : List α} {i j : Nat} (hi : i < l.length) (hj : j < l.length) : (swL d l i j).Perm l := by
  have e1 : gN d l i = l[i] := by unfold gN; rw [List.getElem?_eq_getElem hi]; rfl
  have e2 : gN d l j = l[j] := by unfold gN; rw [List.getElem?_eq_getElem hj]; rfl
  unfold swL
  rw [e1, e2]
  exact List.set_set_perm hi hj

structure Ord {α : Type} (lt : α → α → Prop) : Prop where
  tr : ∀ a b c, lt a b → lt b c → lt a c
  sy : ∀ a b, lt a b → ¬ lt b a
  ct : ∀ a b c, ¬ lt b a → ¬ lt c b → ¬ lt c a
theorem Ord.lt_le {α : Type} {lt : α → α → Prop} (h : Ord lt) {a b c : α} (h1 : lt a b) (h2 : ¬ lt c b) : ¬ lt c a := h.ct a b c (h.sy _ _ h1) h2

def par (i : Nat) : Nat := (i - 1) / 2
theorem par_lt {i : Nat} (h : 0 < i) : par i < i := by unfold par; omega
def HeapN {α : Type} (lt : α → α → Prop) (d : α) (l : List α) (n : Nat) : Prop := ∀ i, 0 < i → i < n → ¬ lt (gN d l i) (gN d l (par i))
def UpI {α : Type} (lt : α → α → Prop) (d : α) (l : List α) (n j : Nat) : Prop := (∀ i, 0 < i → i < n → i ≠ j → ¬ lt (gN d l i) (gN d l (par i))) ∧ (0 < j → ∀ c, 0 < c → c < n → par c = j → ¬ lt (gN d l c) (gN d l (par j)))
def DnI {α : Type} (lt : α → α → Prop) (d : α) (l : List α) (n j : Nat) : Prop := (∀ i, 0 < i → i < n → par i ≠ j → ¬ lt (gN d l i) (gN d l (par i))) ∧ (0 < j → ∀ c, 0 < c → c < n → par c = j → ¬ lt (gN d l c) (gN d l (par j)))

theorem up_begin {α : Type} {lt : α → α → Prop} {d : α} {l : List α} {n : Nat} (x : α) (hn : n = l.length) (h : HeapN lt d l n) : UpI lt d (l ++ [x]) (n + 1) n := by
  have e : ∀ k, k < n → gN d (l ++ [x]) k = gN d l k := fun k hk => by unfold gN; rw [List.getElem?_append_left (by omega)]
  refine ⟨fun i h0 h1 h2 => ?_, fun h0 c hc0 hc1 hp => ?_⟩
  · have := par_lt h0
    rw [e i (by omega), e (par i) (by omega)]
    exact h i h0 (by omega)
  · have := par_lt hc0
    omega
theorem up_done {α : Type} {lt : α → α → Prop} {d : α} {l : List α} {n j : Nat} (h : UpI lt d l n j) (hj : j = 0 ∨ ¬ lt (gN d l j) (gN d l (par j))) : HeapN lt d l n := fun i h0 h1 => by
  by_cases e : i = j
  · subst e
    rcases hj with q | q
    · omega
    · exact q
  · exact h.1 i h0 h1 e
theorem up_step {α : Type} {lt : α → α → Prop} (ho : Ord lt) {d : α} {l : List α} {n j : Nat} (hn : n ≤ l.length) (hj : j < n) (h0 : 0 < j) (h : UpI lt d l n j) (hl : lt (gN d l j) (gN d l (par j))) : UpI lt d (swL d l (par j) j) n (par j) := by
  have hp := par_lt h0
  have A := fun k => swL_at (d := d) (l := l) (i := par j) (j := j) (by omega) (by omega) k
  refine ⟨fun i hi0 hi1 hi2 => ?_, fun hp0 c hc0 hc1 hc2 => ?_⟩
  · have hpi := par_lt hi0
    rw [A i, A (par i)]
    by_cases e1 : i = j
    · subst e1
      rw [if_pos rfl, if_neg (by omega), if_pos rfl]
      exact ho.sy _ _ hl
    · rw [if_neg e1, if_neg hi2]
      by_cases e2 : par i = j
      · rw [if_pos e2]
        exact h.2 h0 i hi0 hi1 e2
      · rw [if_neg e2]
        by_cases e3 : par i = par j
        · rw [if_pos e3]
          have q := h.1 i hi0 hi1 e1
          rw [e3] at q
          exact ho.lt_le hl q
        · rw [if_neg e3]
          exact h.1 i hi0 hi1 e1
  · have q1 := par_lt hc0
    have q2 := par_lt hp0
    have qp := h.1 (par j) hp0 (by omega) (by omega)
    rw [A c, A (par (par j)), if_neg (show par (par j) ≠ j by omega), if_neg (show par (par j) ≠ par j by omega)]
    by_cases e1 : c = j
    · rw [if_pos e1]; exact qp
    · rw [if_neg e1, if_neg (by omega)]
      have q := h.1 c hc0 hc1 e1
      rw [hc2] at q
      exact ho.ct _ _ _ qp q

theorem dn_begin {α : Type} {lt : α → α → Prop} {d : α} {l : List α} {n : Nat} (hn : n + 1 = l.length) (h : HeapN lt d l (n + 1)) : DnI lt d (swL d l 0 n) n 0 := by
  refine ⟨fun i h0 h1 h2 => ?_, fun h => by omega⟩
  have := par_lt h0
  rw [swL_at (by omega) (by omega), swL_at (by omega) (by omega), if_neg (by omega), if_neg (by omega), if_neg (by omega), if_neg (by omega)]
  exact h i h0 (by omega)
theorem dn_done {α : Type} {lt : α → α → Prop} {d : α} {l : List α} {n j : Nat} (h : DnI lt d l n j) (hc : ∀ c, 0 < c → c < n → par c = j → ¬ lt (gN d l c) (gN d l j)) : HeapN lt d l n := fun i h0 h1 => by
  by_cases e : par i = j
  · rw [e]; exact hc i h0 h1 e
  · exact h.1 i h0 h1 e
theorem dn_step {α : Type} {lt : α → α → Prop} (ho : Ord lt) {d : α} {l : List α} {n j c : Nat} (hn : n ≤ l.length) (h : DnI lt d l n j) (hc0 : 0 < c) (hcn : c < n) (hcp : par c = j) (hl : lt (gN d l c) (gN d l j))
    (hm : ∀ k, 0 < k → k < n → par k = j → ¬ lt (gN d l k) (gN d l c)) : DnI lt d (swL d l j c) n c := by
  have hp := par_lt hc0
  rw [hcp] at hp
  have A := fun k => swL_at (d := d) (l := l) (i := j) (j := c) (by omega) (by omega) k
  refine ⟨fun i hi0 hi1 hi2 => ?_, fun _ k hk0 hk1 hk2 => ?_⟩
  · have hpi := par_lt hi0
    rw [A i, A (par i), if_neg hi2]
    by_cases e1 : i = c
    · subst e1
      rw [if_pos rfl, if_pos hcp]
      exact ho.sy _ _ hl
    · rw [if_neg e1]
      by_cases e2 : i = j
      · rw [if_pos e2, if_neg (show par i ≠ j by omega)]
        subst e2
        exact h.2 hi0 c hc0 hcn hcp
      · rw [if_neg e2]
        by_cases e3 : par i = j
        · rw [if_pos e3]
          exact hm i hi0 hi1 e3
        · rw [if_neg e3]
          exact h.1 i hi0 hi1 e3
  · have q1 := par_lt hk0
    rw [A k, A (par c), hcp, if_neg (by omega), if_neg (by omega), if_neg (by omega), if_pos rfl]
    have q := h.1 k hk0 hk1 (by omega)
    rw [hk2] at q
    exact q

theorem heap_root {α : Type} {lt : α → α → Prop} (ho : Ord lt) {d : α} {l : List α} {n : Nat} (h : HeapN lt d l n) : ∀ i, i < n → ¬ lt (gN d l i) (gN d l 0) := by
  intro i
  induction i using Nat.strongRecOn with
  | _ i ih =>
    intro hi
    by_cases h0 : i = 0
    · subst h0
      intro q
      exact ho.sy _ _ q q
    · have hp := par_lt (show 0 < i by omega)
      exact ho.ct _ _ _ (ih (par i) hp (by omega)) (h i (by omega) hi)

theorem perm_uniq {α : Type} {R : α → α → Prop} : ∀ {a b : List α}, a.Perm b → a.Pairwise R → b.Pairwise R → (∀ x ∈ a, ∀ y ∈ a, R x y → R y x → x = y) → a = b
  | [], b, hp, _, _, _ => (List.Perm.nil_eq hp)
  | x :: a, b, hp, ha, hb, hu => by
    cases b with
    | nil => exact absurd hp.length_eq (by simp)
    | cons y b =>
      have hxy : x = y := by
        have hx : x ∈ y :: b := hp.mem_iff.1 (by simp)
        have hy : y ∈ x :: a := hp.mem_iff.2 (by simp)
        rcases List.mem_cons.1 hx with e | e
        · exact e
        · rcases List.mem_cons.1 hy with e2 | e2
          · exact e2.symm
          · exact hu x (by simp) y (by simp [e2]) ((List.pairwise_cons.1 ha).1 y e2) ((List.pairwise_cons.1 hb).1 x e)
      subst hxy
      rw [perm_uniq (List.Perm.cons_inv hp) (List.pairwise_cons.1 ha).2 (List.pairwise_cons.1 hb).2 (fun p hp q hq => hu p (by simp [hp]) q (by simp [hq]))]
end Go.Proofs.YtkgapklhgkngnaaDoor

namespace Go.Proofs.YtkgapklhgkngnaaDoor
open Go.RowKit

structure Rk where
  s : Sp
  r : Int
deriving DecidableEq
def rkZ : Rk := ⟨⟨0, 0, 0⟩, 0⟩
def ltB (x y : Rk) : Bool := decide (orZ (cmpS x.s y.s) (cmpZ x.r y.r) < 0)
def rkV (x : Rk) : Value := .agg #[.int .i64 x.s.f, .int .i64 x.s.a, .int .i64 x.s.b, .int .i64 x.r]
def cellsK : List Rk → List Value
  | [] => []
  | x :: l => .int .i64 x.s.f :: .int .i64 x.s.a :: .int .i64 x.s.b :: .int .i64 x.r :: cellsK l
theorem cellsK_app : ∀ a b : List Rk, cellsK (a ++ b) = cellsK a ++ cellsK b
  | [], b => rfl
  | p :: a, b => by rw [List.cons_append, cellsK, cellsK_app a b, cellsK]; rfl
theorem cellsK_at : ∀ (l : List Rk) (i : Nat), i < l.length → (cellsK l)[i * 4]? = some (.int .i64 (gN rkZ l i).s.f) ∧ (cellsK l)[i * 4 + 1]? = some (.int .i64 (gN rkZ l i).s.a) ∧ (cellsK l)[i * 4 + 2]? = some (.int .i64 (gN rkZ l i).s.b) ∧ (cellsK l)[i * 4 + 3]? = some (.int .i64 (gN rkZ l i).r)
  | [], i, h => by simp at h
  | p :: l, 0, _ => ⟨rfl, rfl, rfl, rfl⟩
  | p :: l, i + 1, h => by
    have q := cellsK_at l i (by simpa using h)
    have e : gN rkZ (p :: l) (i + 1) = gN rkZ l i := by simp [gN]
    rw [cellsK, e, show (i + 1) * 4 = i * 4 + 1 + 1 + 1 + 1 by omega]
    simpa using q
theorem cellsK_set : ∀ (l : List Rk) (i : Nat) (x : Rk), i < l.length → ((((cellsK l).set (i * 4) (.int .i64 x.s.f)).set (i * 4 + 1) (.int .i64 x.s.a)).set (i * 4 + 2) (.int .i64 x.s.b)).set (i * 4 + 3) (.int .i64 x.r) = cellsK (l.set i x)
  | [], i, _, h => by simp at h
  | p :: l, 0, _, _ => rfl
  | p :: l, i + 1, x, h => by
    have q := cellsK_set l i x (by simpa using h)
    rw [List.set_cons_succ, cellsK, cellsK, ← q, show (i + 1) * 4 = i * 4 + 1 + 1 + 1 + 1 by omega]
    rfl
theorem cellsK_take : ∀ (l : List Rk) (n : Nat), (cellsK l).take (n * 4) = cellsK (l.take n)
  | [], n => by simp [cellsK]
  | p :: l, 0 => rfl
  | p :: l, n + 1 => by
    rw [List.take_succ_cons, cellsK, cellsK, ← cellsK_take l n, show (n + 1) * 4 = n * 4 + 1 + 1 + 1 + 1 by omega]
    rfl

theorem own_put {w : World} {B e k n : Nat} {v : Value} {xs : List Value} (h : w.ownsRow B e k v n xs) {g : Nat} (hg : v.ownBlock = some g) (p : Nat) (u : Value) : (w.setCell ⟨g, p, none⟩ u).ownsRow B e k v n (xs.set p u) := by
  obtain ⟨h1, h2⟩ := h
  refine ⟨by rw [List.length_set]; exact h1, ?_⟩
  rcases h2 with ⟨rfl, _⟩ | ⟨g', cap, cur, rfl, h3, h4, h5, h6, h7, h8⟩
  · simp [Value.ownBlock] at hg
  · obtain rfl : g' = g := by simpa [Value.ownBlock] using hg
    refine .inr ⟨g', cap, cur.setIfInBounds p u, rfl, h3, ?_, h5, h6, by simpa using h7, ?_⟩
    · simp only [World.setCell, Array.getElem?_modify, if_true, h4, Option.map_some]
      rfl
    · rw [← h8]
      simp [List.take_set]
theorem own_get {w : World} {B e k n : Nat} {g cap : Nat} {xs : List Value} (h : w.ownsRow B e k (.slice (some ⟨g, 0, none⟩) n cap) n xs) (p : Nat) (hp : p < n * k) : w.cell? ⟨g, p, none⟩ = xs[p]? ∧ w.frozen? ⟨g, p, none⟩ = false := by
  obtain ⟨h1, h2⟩ := h
  rcases h2 with ⟨h3, _⟩ | ⟨g', cap', cur, h3, _, h4, h5, h6, h7, h8⟩
  · simp at h3
  · obtain ⟨rfl, rfl⟩ : g = g' ∧ cap = cap' := by simpa using h3
    refine ⟨?_, by simp [World.frozen?, h4]⟩
    rw [← h8]
    simp [World.cell?, h4, hp]
theorem own_less {w : World} {B e k n : Nat} {g cap : Nat} {xs : List Value} (h : w.ownsRow B e k (.slice (some ⟨g, 0, none⟩) n cap) n xs) (m : Nat) (hm : m ≤ n) : w.ownsRow B e k (.slice (some ⟨g, 0, none⟩) m cap) m (xs.take (m * k)) := by
  obtain ⟨h1, h2⟩ := h
  have hmk : m * k ≤ n * k := Nat.mul_le_mul_right _ hm
  refine ⟨by rw [List.length_take, h1]; omega, ?_⟩
  rcases h2 with ⟨h3, _⟩ | ⟨g', cap', cur, h3, h4, h5, h6, h7, h8, h9⟩
  · simp at h3
  · obtain ⟨rfl, rfl⟩ : g = g' ∧ cap = cap' := by simpa using h3
    refine .inr ⟨g, cap, cur, rfl, h4, h5, by omega, h7, h8, ?_⟩
    rw [← h9, List.take_take, Nat.min_eq_left hmk]
end Go.Proofs.YtkgapklhgkngnaaDoor

namespace Go.Proofs.YtkgapklhgkngnaaDoor
open Go.RowKit

attribute [local go_sem ↓] Go.wp_at_zero Go.wp_at_succ

set_option maxHeartbeats 1000000 in
theorem qlen_any (ao : Option Addr) (n cap : Nat) (w : World) : Calls Tryd.prog 48 #[.slice ao n cap] w fun e w' => e = .returned (.int .i64 (n : Int)) ∧ w' = w := by
  go_enter Tryd.func48, Tryd.ntmps48
  go_wp2
  go_ret
  exact ⟨rfl, rfl⟩

def RkAt (w : World) (g i : Nat) (x : Rk) : Prop := w.cell? ⟨g, i * 4, none⟩ = some (.int .i64 x.s.f) ∧ w.cell? ⟨g, i * 4 + 1, none⟩ = some (.int .i64 x.s.a) ∧ w.cell? ⟨g, i * 4 + 2, none⟩ = some (.int .i64 x.s.b) ∧ w.cell? ⟨g, i * 4 + 3, none⟩ = some (.int .i64 x.r)
theorem RkAt.below {w w' : World} {g i : Nat} {x : Rk} (h : RkAt w g i x) (hb : Below w.heap.size w w') : RkAt w' g i x := by
  have hg : g < w.heap.size := by
    rcases Nat.lt_or_ge g w.heap.size with h' | h'
    · exact h'
    · have := h.1
      simp [World.cell?, Array.getElem?_eq_none h'] at this
  exact ⟨(hb.cell (p := ⟨g, i * 4, none⟩) hg).trans h.1, (hb.cell (p := ⟨g, i * 4 + 1, none⟩) hg).trans h.2.1, (hb.cell (p := ⟨g, i * 4 + 2, none⟩) hg).trans h.2.2.1, (hb.cell (p := ⟨g, i * 4 + 3, none⟩) hg).trans h.2.2.2⟩

set_option maxRecDepth 100000 in
set_option maxHeartbeats 8000000 in
theorem qless_any (g n cap i j : Nat) (x y : Rk) (w : World) (hi : i < n) (hj : j < n) (hx : RkAt w g i x) (hy : RkAt w g j y) :
    Calls Tryd.prog 79 #[.slice (some ⟨g, 0, none⟩) n cap, .int .i64 (i : Int), .int .i64 (j : Int)] w fun e w' => e = .returned (.bool (ltB x y)) ∧ Below w.heap.size w w' := by
  obtain ⟨⟨xf, xa, xb⟩, xr⟩ := x
  obtain ⟨⟨yf, ya, yb⟩, yr⟩ := y
  have HX := hide hx
  have HY := hide hy
  have i1 : (i : Int) < (n : Int) := by omega
  have j1 : (j : Int) < (n : Int) := by omega
  have hi := hide hi
  have hj := hide hj
  unfold ltB
  simp only []
  obtain ⟨p, hp⟩ : ∃ p, p = cmpS ⟨xf, xa, xb⟩ ⟨yf, ya, yb⟩ := ⟨_, rfl⟩
  obtain ⟨q, hq⟩ : ∃ q, q = cmpZ xr yr := ⟨_, rfl⟩
  obtain ⟨r, hr⟩ : ∃ r, r = orZ p q := ⟨_, rfl⟩
  rw [← hp, ← hq, ← hr]
  have hP := hide hp
  have hQ := hide hq
  have hR := hide hr
  clear hp hq hr
  have CC : Hid (∀ X, Hid (Below w.heap.size w X) → Calls Tryd.prog 37 #[.agg #[.int .i64 xf, .int .i64 xa, .int .i64 xb], .agg #[.int .i64 yf, .int .i64 ya, .int .i64 yb]] X fun e w' => e = .returned (.int .i64 p) ∧ Hid (Below w.heap.size w w')) := hide (fun X hX => by
    rw [hP.out]
    refine (compare_any ⟨xf, xa, xb⟩ ⟨yf, ya, yb⟩ X).mono ?_
    rintro e w' ⟨q1, q2⟩
    exact ⟨q1, hide (hX.out.trans (q2.mono hX.out.size))⟩)
  have CZ : Hid (∀ X, Calls Tryd.prog 54 #[.int .i64 xr, .int .i64 yr] X fun e w' => e = .returned (.int .i64 q) ∧ w' = X) := hide (fun X => by rw [hQ.out]; exact cmpZ_any _ _ X)
  have CO : Hid (∀ X b, X.cell? ⟨b, 0, none⟩ = some (.int .i64 p) → X.cell? ⟨b, 1, none⟩ = some (.int .i64 q) → Calls Tryd.prog 53 #[.slice (some ⟨b, 0, none⟩) 2 2] X fun e w' => e = .returned (.int .i64 r) ∧ w' = X) := hide (fun X b h0 h1 => by rw [hR.out]; exact orZ_any _ _ _ X h0 h1)
  have KX : Hid (∀ X, Hid (Below w.heap.size w X) → RkAt X g i ⟨⟨xf, xa, xb⟩, xr⟩) := hide (fun X hX => HX.out.below hX.out)
  have KY : Hid (∀ X, Hid (Below w.heap.size w X) → RkAt X g j ⟨⟨yf, ya, yb⟩, yr⟩) := hide (fun X hX => HY.out.below hX.out)
  have hB0 : Hid (Below w.heap.size w w.drew) := hide (Below.refl _ _).drew
  clear hx hy HX HY hP hQ hR
  go_enter Tryd.func79, Tryd.ntmps79
  go_wp2_with fail
  refine wp_region_held_drew (S := (fun X => Hid (Below w.heap.size w X))) (by kernel_rfl) ?_ (fun hHeld => ?_)
  · assumption
  refine wpAnyH_take (i := 0) (oi := Oper.mk (some 7) _ _ _ _ _) (v := .slice (some ⟨g, 0, none⟩) n cap) rfl (by kernel_rfl) (by kernel_rfl) (by kernel_rfl) (fun _ _ _ h => h) (Or.inl ⟨by rfl, ?_⟩) (by assumption) ?_
  · intro wX hSw
    (try dsimp only at hSw)
    go_simp
  simp only [Act.put, List.setIfInBounds_toArray, List.set_cons_succ, List.set_cons_zero]
  refine wpAnyH_take (i := 1) (oi := Oper.mk (some 8) _ _ _ _ _) (v := .int .i64 (i : Int)) rfl (by kernel_rfl) (by kernel_rfl) (by kernel_rfl) (fun _ _ _ h => h) (Or.inl ⟨by rfl, ?_⟩) (by assumption) ?_
  · intro wX hSw
    (try dsimp only at hSw)
    go_simp
  simp only [Act.put, List.setIfInBounds_toArray, List.set_cons_succ, List.set_cons_zero]
  refine wpAnyH_take (i := 2) (oi := Oper.mk (some 9) _ _ _ _ _) (v := .pointer (some ⟨g, i * 4, none⟩)) rfl (by kernel_rfl) (by kernel_rfl) (by kernel_rfl) (fun _ _ _ h => h) (Or.inl ⟨by rfl, ?_⟩) (by assumption) ?_
  · intro wX hSw
    (try dsimp only at hSw)
    go_simp
  simp only [Act.put, List.setIfInBounds_toArray, List.set_cons_succ, List.set_cons_zero]
  refine wpAnyH_take (i := 3) (oi := Oper.mk (some 10) _ _ _ _ _) (v := .pointer (some ⟨g, i * 4, none⟩)) rfl (by kernel_rfl) (by kernel_rfl) (by kernel_rfl) (fun _ _ _ h => h) (Or.inl ⟨by rfl, ?_⟩) (by assumption) ?_
  · intro wX hSw
    (try dsimp only at hSw)
    go_simp
  simp only [Act.put, List.setIfInBounds_toArray, List.set_cons_succ, List.set_cons_zero]
  refine wpAnyH_take (i := 4) (oi := Oper.mk (some 11) _ _ _ _ _) (v := .agg #[.int .i64 xf, .int .i64 xa, .int .i64 xb]) rfl (by kernel_rfl) (by kernel_rfl) (by kernel_rfl) (fun _ _ _ h => h) (Or.inl ⟨by rfl, ?_⟩) (by assumption) ?_
  · intro wX hSw
    (try dsimp only at hSw)
    obtain ⟨q0, q1, q2, q3⟩ := KX.out wX hSw
    go_simp
  simp only [Act.put, List.setIfInBounds_toArray, List.set_cons_succ, List.set_cons_zero]
  refine wpAnyH_take (i := 5) (oi := Oper.mk (some 12) _ _ _ _ _) (v := .slice (some ⟨g, 0, none⟩) n cap) rfl (by kernel_rfl) (by kernel_rfl) (by kernel_rfl) (fun _ _ _ h => h) (Or.inl ⟨by rfl, ?_⟩) (by assumption) ?_
  · intro wX hSw
    (try dsimp only at hSw)
    go_simp
  simp only [Act.put, List.setIfInBounds_toArray, List.set_cons_succ, List.set_cons_zero]
  refine wpAnyH_take (i := 6) (oi := Oper.mk (some 13) _ _ _ _ _) (v := .int .i64 (j : Int)) rfl (by kernel_rfl) (by kernel_rfl) (by kernel_rfl) (fun _ _ _ h => h) (Or.inl ⟨by rfl, ?_⟩) (by assumption) ?_
  · intro wX hSw
    (try dsimp only at hSw)
    go_simp
  simp only [Act.put, List.setIfInBounds_toArray, List.set_cons_succ, List.set_cons_zero]
  refine wpAnyH_take (i := 7) (oi := Oper.mk (some 14) _ _ _ _ _) (v := .pointer (some ⟨g, j * 4, none⟩)) rfl (by kernel_rfl) (by kernel_rfl) (by kernel_rfl) (fun _ _ _ h => h) (Or.inl ⟨by rfl, ?_⟩) (by assumption) ?_
  · intro wX hSw
    (try dsimp only at hSw)
    go_simp
  simp only [Act.put, List.setIfInBounds_toArray, List.set_cons_succ, List.set_cons_zero]
  refine wpAnyH_take (i := 8) (oi := Oper.mk (some 15) _ _ _ _ _) (v := .pointer (some ⟨g, j * 4, none⟩)) rfl (by kernel_rfl) (by kernel_rfl) (by kernel_rfl) (fun _ _ _ h => h) (Or.inl ⟨by rfl, ?_⟩) (by assumption) ?_
  · intro wX hSw
    (try dsimp only at hSw)
    go_simp
  simp only [Act.put, List.setIfInBounds_toArray, List.set_cons_succ, List.set_cons_zero]
  refine wpAnyH_take (i := 9) (oi := Oper.mk (some 16) _ _ _ _ _) (v := .agg #[.int .i64 yf, .int .i64 ya, .int .i64 yb]) rfl (by kernel_rfl) (by kernel_rfl) (by kernel_rfl) (fun _ _ _ h => h) (Or.inl ⟨by rfl, ?_⟩) (by assumption) ?_
  · intro wX hSw
    (try dsimp only at hSw)
    obtain ⟨q0, q1, q2, q3⟩ := KY.out wX hSw
    go_simp
  simp only [Act.put, List.setIfInBounds_toArray, List.set_cons_succ, List.set_cons_zero]
  refine wpAnyH_take (i := 11) (oi := Oper.mk (some 18) _ _ _ _ _) (v := .slice (some ⟨g, 0, none⟩) n cap) rfl (by kernel_rfl) (by kernel_rfl) (by kernel_rfl) (fun _ _ _ h => h) (Or.inl ⟨by rfl, ?_⟩) (by assumption) ?_
  · intro wX hSw
    (try dsimp only at hSw)
    go_simp
  simp only [Act.put, List.setIfInBounds_toArray, List.set_cons_succ, List.set_cons_zero]
  refine wpAnyH_take (i := 12) (oi := Oper.mk (some 19) _ _ _ _ _) (v := .int .i64 (i : Int)) rfl (by kernel_rfl) (by kernel_rfl) (by kernel_rfl) (fun _ _ _ h => h) (Or.inl ⟨by rfl, ?_⟩) (by assumption) ?_
  · intro wX hSw
    (try dsimp only at hSw)
    go_simp
  simp only [Act.put, List.setIfInBounds_toArray, List.set_cons_succ, List.set_cons_zero]
  refine wpAnyH_take (i := 13) (oi := Oper.mk (some 20) _ _ _ _ _) (v := .pointer (some ⟨g, i * 4, none⟩)) rfl (by kernel_rfl) (by kernel_rfl) (by kernel_rfl) (fun _ _ _ h => h) (Or.inl ⟨by rfl, ?_⟩) (by assumption) ?_
  · intro wX hSw
    (try dsimp only at hSw)
    go_simp
  simp only [Act.put, List.setIfInBounds_toArray, List.set_cons_succ, List.set_cons_zero]
  refine wpAnyH_take (i := 14) (oi := Oper.mk (some 21) _ _ _ _ _) (v := .pointer (some ⟨g, i * 4 + 3, none⟩)) rfl (by kernel_rfl) (by kernel_rfl) (by kernel_rfl) (fun _ _ _ h => h) (Or.inl ⟨by rfl, ?_⟩) (by assumption) ?_
  · intro wX hSw
    (try dsimp only at hSw)
    go_simp
  simp only [Act.put, List.setIfInBounds_toArray, List.set_cons_succ, List.set_cons_zero]
  refine wpAnyH_take (i := 15) (oi := Oper.mk (some 22) _ _ _ _ _) (v := .int .i64 xr) rfl (by kernel_rfl) (by kernel_rfl) (by kernel_rfl) (fun _ _ _ h => h) (Or.inl ⟨by rfl, ?_⟩) (by assumption) ?_
  · intro wX hSw
    (try dsimp only at hSw)
    obtain ⟨q0, q1, q2, q3⟩ := KX.out wX hSw
    go_simp
  simp only [Act.put, List.setIfInBounds_toArray, List.set_cons_succ, List.set_cons_zero]
  refine wpAnyH_take (i := 16) (oi := Oper.mk (some 23) _ _ _ _ _) (v := .slice (some ⟨g, 0, none⟩) n cap) rfl (by kernel_rfl) (by kernel_rfl) (by kernel_rfl) (fun _ _ _ h => h) (Or.inl ⟨by rfl, ?_⟩) (by assumption) ?_
  · intro wX hSw
    (try dsimp only at hSw)
    go_simp
  simp only [Act.put, List.setIfInBounds_toArray, List.set_cons_succ, List.set_cons_zero]
  refine wpAnyH_take (i := 17) (oi := Oper.mk (some 24) _ _ _ _ _) (v := .int .i64 (j : Int)) rfl (by kernel_rfl) (by kernel_rfl) (by kernel_rfl) (fun _ _ _ h => h) (Or.inl ⟨by rfl, ?_⟩) (by assumption) ?_
  · intro wX hSw
    (try dsimp only at hSw)
    go_simp
  simp only [Act.put, List.setIfInBounds_toArray, List.set_cons_succ, List.set_cons_zero]
  refine wpAnyH_take (i := 18) (oi := Oper.mk (some 25) _ _ _ _ _) (v := .pointer (some ⟨g, j * 4, none⟩)) rfl (by kernel_rfl) (by kernel_rfl) (by kernel_rfl) (fun _ _ _ h => h) (Or.inl ⟨by rfl, ?_⟩) (by assumption) ?_
  · intro wX hSw
    (try dsimp only at hSw)
    go_simp
  simp only [Act.put, List.setIfInBounds_toArray, List.set_cons_succ, List.set_cons_zero]
  refine wpAnyH_take (i := 19) (oi := Oper.mk (some 26) _ _ _ _ _) (v := .pointer (some ⟨g, j * 4 + 3, none⟩)) rfl (by kernel_rfl) (by kernel_rfl) (by kernel_rfl) (fun _ _ _ h => h) (Or.inl ⟨by rfl, ?_⟩) (by assumption) ?_
  · intro wX hSw
    (try dsimp only at hSw)
    go_simp
  simp only [Act.put, List.setIfInBounds_toArray, List.set_cons_succ, List.set_cons_zero]
  refine wpAnyH_take (i := 20) (oi := Oper.mk (some 27) _ _ _ _ _) (v := .int .i64 yr) rfl (by kernel_rfl) (by kernel_rfl) (by kernel_rfl) (fun _ _ _ h => h) (Or.inl ⟨by rfl, ?_⟩) (by assumption) ?_
  · intro wX hSw
    (try dsimp only at hSw)
    obtain ⟨q0, q1, q2, q3⟩ := KY.out wX hSw
    go_simp
  simp only [Act.put, List.setIfInBounds_toArray, List.set_cons_succ, List.set_cons_zero]
  refine wpAnyH_ready (rs := [10]) (by kernel_rfl) (by simp) ?_
  refine AllReadyH.cons (o := Oper.mk (some 17) _ _ _ _ _) rfl (fun K hK => ?_) AllReadyH.nil
  go_simp
  refine (CC.out _ (by assumption)).mono ?_
  rintro e w1 ⟨rfl, b1⟩
  refine hK.out _ _ ?_ (fun hHeld => ?_)
  · assumption
  clear hK K
  refine wpAnyH_ready (rs := [21]) (by kernel_rfl) (by simp) ?_
  refine AllReadyH.cons (o := Oper.mk (some 28) _ _ _ _ _) rfl (fun K hK => ?_) AllReadyH.nil
  go_simp
  refine (CZ.out _).mono ?_
  rintro e w' ⟨rfl, rfl⟩
  refine hK.out _ _ ?_ (fun hHeld => ?_)
  · assumption
  clear hK K
  refine wpAnyH_ready (rs := [22]) (by kernel_rfl) (by simp) ?_
  refine AllReadyH.cons (o := Oper.mk (some 29) _ _ _ _ _) rfl (fun K hK => ?_) AllReadyH.nil
  go_simp
  refine hK.out _ _ ?_ (fun hHeld => ?_)
  · exact hide (b1.out.alloc b1.out.size _)
  clear hK K
  refine wpAnyH_ready (rs := [23]) (by kernel_rfl) (by simp) ?_
  refine AllReadyH.cons (o := Oper.mk (some 30) _ _ _ _ _) rfl (fun K hK => ?_) AllReadyH.nil
  go_simp
  refine (CO.out _ _ ((new_cell0 _ _ _ 0 _ rfl).trans rfl) ((new_cell0 _ _ _ 1 _ rfl).trans rfl)).mono ?_
  rintro e w' ⟨rfl, rfl⟩
  refine hK.out _ _ ?_ (fun hHeld => ?_)
  · assumption
  clear hK K
  refine wpAnyH_take (i := 24) (oi := Oper.mk (some 31) _ _ _ _ _) (v := .bool (decide (r < 0))) rfl (by kernel_rfl) (by kernel_rfl) (by kernel_rfl) (fun _ _ _ h => h) (Or.inl ⟨by rfl, ?_⟩) (by assumption) ?_
  · intro wX hSw
    (try dsimp only at hSw)
    go_simp
  simp only [Act.put, List.setIfInBounds_toArray, List.set_cons_succ, List.set_cons_zero]
  refine wpAnyH_take (i := 25) (oi := Oper.mk (some 6) _ _ _ _ _) (v := .bool (decide (r < 0))) rfl (by kernel_rfl) (by kernel_rfl) (by kernel_rfl) (fun _ _ _ h => h) (Or.inl ⟨by rfl, ?_⟩) (by assumption) ?_
  · intro wX hSw
    (try dsimp only at hSw)
    go_simp
  simp only [Act.put, List.setIfInBounds_toArray, List.set_cons_succ, List.set_cons_zero]
  refine wpAnyH_done (by kernel_rfl) ?_ _
  go_wp2
  go_ret
  exact ⟨rfl, hHeld.out⟩
end Go.Proofs.YtkgapklhgkngnaaDoor

namespace Go.Proofs.YtkgapklhgkngnaaDoor
open Go.RowKit

attribute [local go_sem ↓] Go.wp_at_zero Go.wp_at_succ

def OnlyB (g : Nat) (w w' : World) : Prop := w'.heap.size = w.heap.size ∧ ∀ b, b ≠ g → w'.heap[b]? = w.heap[b]?
theorem OnlyB.refl (g : Nat) (w : World) : OnlyB g w w := ⟨rfl, fun _ _ => rfl⟩
theorem OnlyB.set {g : Nat} {w w' : World} (h : OnlyB g w w') (p : Nat) (v : Value) : OnlyB g w (w'.setCell ⟨g, p, none⟩ v) :=
  ⟨by simpa [World.setCell] using h.1, fun b hb => by
    rw [← h.2 b hb]
    simp only [World.setCell, Array.getElem?_modify]
    rw [if_neg (fun e => hb e.symm)]⟩

theorem OnlyB.drew {g : Nat} {w w' : World} (h : OnlyB g w w') : OnlyB g w w'.drew := ⟨h.1, h.2⟩
theorem own_drew {w : World} {B e k n : Nat} {v : Value} {xs : List Value} (h : w.ownsRow B e k v n xs) : w.drew.ownsRow B e k v n xs := h
theorem own_ex {w : World} {B e k n g cap : Nat} {xs : List Value} (h : w.ownsRow B e k (.slice (some ⟨g, 0, none⟩) n cap) n xs) (p : Nat) (hp : p < n * k) : ∃ u, w.cell? ⟨g, p, none⟩ = some u := by
  rw [(own_get h p hp).1]
  exact ⟨_, List.getElem?_eq_getElem (by rw [h.1]; exact hp)⟩

set_option maxRecDepth 100000 in
set_option maxHeartbeats 8000000 in
theorem qswap_any (B g n cap i j : Nat) (q : List Rk) (w : World) (hq : q.length = n) (hi : i < n) (hj : j < n) (ho : w.ownsRow B 92 4 (.slice (some ⟨g, 0, none⟩) n cap) n (cellsK q)) :
    Calls Tryd.prog 80 #[.slice (some ⟨g, 0, none⟩) n cap, .int .i64 (i : Int), .int .i64 (j : Int)] w fun e w' => e = .returned (.tuple #[]) ∧ w'.ownsRow B 92 4 (.slice (some ⟨g, 0, none⟩) n cap) n (cellsK (swL rkZ q i j)) ∧ Below g w w' ∧ OnlyB g w w' := by
  have i1 : (i : Int) < (n : Int) := by omega
  have j1 : (j : Int) < (n : Int) := by omega
  have A := cellsK_at q i (by omega)
  have A' := cellsK_at q j (by omega)
  obtain ⟨a0, a1, a2, a3⟩ := A
  obtain ⟨b0, b1, b2, b3⟩ := A'
  have x0 := (own_get ho (i * 4) (by omega)).1.trans a0
  have x1 := (own_get ho (i * 4 + 1) (by omega)).1.trans a1
  have x2 := (own_get ho (i * 4 + 2) (by omega)).1.trans a2
  have x3 := (own_get ho (i * 4 + 3) (by omega)).1.trans a3
  have y0 := (own_get ho (j * 4) (by omega)).1.trans b0
  have y1 := (own_get ho (j * 4 + 1) (by omega)).1.trans b1
  have y2 := (own_get ho (j * 4 + 2) (by omega)).1.trans b2
  have y3 := (own_get ho (j * 4 + 3) (by omega)).1.trans b3
  have f0 := (own_get ho (i * 4) (by omega)).2
  have f1 := (own_get ho (i * 4 + 1) (by omega)).2
  have f2 := (own_get ho (i * 4 + 2) (by omega)).2
  have f3 := (own_get ho (i * 4 + 3) (by omega)).2
  have g0 := (own_get ho (j * 4) (by omega)).2
  have g1 := (own_get ho (j * 4 + 1) (by omega)).2
  have g2 := (own_get ho (j * 4 + 2) (by omega)).2
  have g3 := (own_get ho (j * 4 + 3) (by omega)).2
  obtain ⟨x, hx⟩ : ∃ x, x = gN rkZ q i := ⟨_, rfl⟩
  obtain ⟨y, hy⟩ : ∃ y, y = gN rkZ q j := ⟨_, rfl⟩
  rw [← hx] at x0 x1 x2 x3
  rw [← hy] at y0 y1 y2 y3
  obtain ⟨u0, z0⟩ := own_ex (own_put ho rfl (i * 4) (.int .i64 y.s.f)) (j * 4) (by omega)
  obtain ⟨u1, z1⟩ := own_ex (own_put (own_put ho rfl (i * 4) (.int .i64 y.s.f)) rfl (i * 4 + 1) (.int .i64 y.s.a)) (j * 4 + 1) (by omega)
  obtain ⟨u2, z2⟩ := own_ex (own_put (own_put (own_put ho rfl (i * 4) (.int .i64 y.s.f)) rfl (i * 4 + 1) (.int .i64 y.s.a)) rfl (i * 4 + 2) (.int .i64 y.s.b)) (j * 4 + 2) (by omega)
  obtain ⟨u3, z3⟩ := own_ex (own_put (own_put (own_put (own_put ho rfl (i * 4) (.int .i64 y.s.f)) rfl (i * 4 + 1) (.int .i64 y.s.a)) rfl (i * 4 + 2) (.int .i64 y.s.b)) rfl (i * 4 + 3) (.int .i64 y.r)) (j * 4 + 3) (by omega)
  have HX := hide hx
  have HY := hide hy
  have HO := hide ho
  have HQ := hide hq
  have HI := hide hi
  have HJ := hide hj
  clear hx hy ho a0 a1 a2 a3 b0 b1 b2 b3 hq hi hj
  go_enter Tryd.func80, Tryd.ntmps80
  go_wp2_with fail
  go_region
  go_end0
  have e1 := cellsK_set q i y (by have := HI.out; have := HQ.out; omega)
  have e2 := cellsK_set (q.set i y) j x (by rw [List.length_set]; have := HJ.out; have := HQ.out; omega)
  have OW := own_put (own_put (own_put (own_put (own_put (own_put (own_put (own_put HO.out rfl (i * 4) (.int .i64 y.s.f)) rfl (i * 4 + 1) (.int .i64 y.s.a)) rfl (i * 4 + 2) (.int .i64 y.s.b)) rfl (i * 4 + 3) (.int .i64 y.r)) rfl (j * 4) (.int .i64 x.s.f)) rfl (j * 4 + 1) (.int .i64 x.s.a)) rfl (j * 4 + 2) (.int .i64 x.s.b)) rfl (j * 4 + 3) (.int .i64 x.r)
  rw [e1, e2] at OW
  have e3 : swL rkZ q i j = (q.set i y).set j x := by rw [HX.out, HY.out]; rfl
  rw [e3]
  have hg : g < w.heap.size := by
    rcases Nat.lt_or_ge g w.heap.size with h' | h'
    · exact h'
    · simp [World.cell?, Array.getElem?_eq_none h'] at x0
  exact ⟨rfl, own_drew OW, ((((((((((Below.refl g w).setCell (Nat.le_refl _) _).setCell (Nat.le_refl _) _).setCell (Nat.le_refl _) _).setCell (Nat.le_refl _) _).setCell (Nat.le_refl _) _).setCell (Nat.le_refl _) _).setCell (Nat.le_refl _) _).setCell (Nat.le_refl _) _).drew), (((((((((OnlyB.refl g w).set _ _).set _ _).set _ _).set _ _).set _ _).set _ _).set _ _).set _ _).drew⟩
end Go.Proofs.YtkgapklhgkngnaaDoor

namespace Go.Proofs.YtkgapklhgkngnaaDoor
open Go.RowKit

attribute [local go_sem ↓] Go.wp_at_zero Go.wp_at_succ

theorem infoRk : (Tryd.prog.info? 92).map (fun i => (i.zero, i.size, i.bytes)) = some (some (.agg #[.int .i64 0, .int .i64 0, .int .i64 0, .int .i64 0]), 4, 32) := by kernel_rfl
theorem info_parts {i? : Option TypeInfo} {z : Value} {s b : Nat} (h : i?.map (fun i => (i.zero, i.size, i.bytes)) = some (some z, s, b)) : ∃ i, i? = some i ∧ i.zero = some z ∧ i.size = s ∧ i.bytes = b := by
  cases i? with
  | none => simp at h
  | some i =>
    simp only [Option.map_some, Option.some.injEq, Prod.mk.injEq] at h
    exact ⟨i, rfl, h.1, h.2.1, h.2.2⟩

theorem assertRk (f a b r : Int) (X : World) : (Instr.typeAssert (.iface 92 (.agg #[.int .i64 f, .int .i64 a, .int .i64 b, .int .i64 r])) 20 92 false).run Tryd.prog X = .ok (.agg #[.int .i64 f, .int .i64 a, .int .i64 b, .int .i64 r]) X := by kernel_rfl
def QV (w : World) (D : Nat) (v : Value) (q : List Rk) : Prop := Blk w D #[v] 88 ∧ w.ownsRow (D + 1) 92 4 v q.length (cellsK q)
theorem ownF_below {w w' : World} {B n k : Nat} {e : TypeId} {v : Value} {xs : List Value} (h : w.ownsRow B e k v n xs) (hb : Below w.heap.size w w') : w'.ownsRow B e k v n xs :=
  World.ownsRow.kept h (row := none) ⟨hb.os, hb.tape, hb.output, hb.size, fun k hk _ => hb.block k hk⟩ (by cases v.ownBlock <;> simp)
theorem ownF_set {w : World} {B D i n k : Nat} {e : TypeId} {v u : Value} {xs : List Value} (h : w.ownsRow B e k v n xs) (hD : D < B) : (w.setCell ⟨D, i, none⟩ u).ownsRow B e k v n xs := ownsRow_setCell_below h (a := ⟨D, i, none⟩) hD u
theorem ownF_slice {w : World} {B n k : Nat} {e : TypeId} {v : Value} {xs : List Value} (h : w.ownsRow B e k v n xs) : ∃ ao cap, v = .slice ao n cap := by
  rcases h.2 with ⟨hv, hn⟩ | ⟨g, cap, cur, hv, _⟩
  · exact ⟨none, 0, by rw [hv, hn]⟩
  · exact ⟨_, _, hv⟩
theorem ownF_some {w : World} {B n k : Nat} {e : TypeId} {v : Value} {xs : List Value} (h : w.ownsRow B e k v n xs) (hn : n ≠ 0) : ∃ g cap, v = .slice (some ⟨g, 0, none⟩) n cap ∧ B ≤ g ∧ g < w.heap.size ∧ n ≤ cap := by
  rcases h.2 with ⟨hv, hn'⟩ | ⟨g, cap, cur, hv, h1, h2, h3, _⟩
  · exact absurd hn' hn
  · exact ⟨g, cap, hv, h1, lt_of_block h2, h3⟩
theorem QV.below {w w' : World} {D : Nat} {v : Value} {q : List Rk} (h : QV w D v q) (hb : Below w.heap.size w w') : QV w' D v q := ⟨h.1.below hb h.1.lt, ownF_below h.2 hb⟩
theorem Blk.set0of1 {w : World} {b : Nat} {x0 : Value} {t : TypeId} (h : Blk w b #[x0] t) (v : Value) : Blk (w.setCell ⟨b, 0, none⟩ v) b #[v] t := by
  unfold Blk at *
  simp only [World.setCell, Array.getElem?_modify, if_true, h, Option.map_some]
  rfl
def OthF (D : Nat) (r : Option Nat) (w w' : World) : Prop := w.heap.size ≤ w'.heap.size ∧ ∀ b, b < w.heap.size → b ≠ D → some b ≠ r → w'.heap[b]? = w.heap[b]?
theorem OthF.refl (D : Nat) (r : Option Nat) (w : World) : OthF D r w w := ⟨Nat.le_refl _, fun _ _ _ _ => rfl⟩
theorem OthF.below {D : Nat} {r : Option Nat} {w w' w'' : World} (h : OthF D r w w') (hb : Below w'.heap.size w' w'') : OthF D r w w'' :=
  ⟨Nat.le_trans h.1 hb.size, fun b h1 h2 h3 => by rw [hb.block b (Nat.lt_of_lt_of_le h1 h.1)]; exact h.2 b h1 h2 h3⟩
theorem OthF.only {D g : Nat} {r : Option Nat} {w w' w'' : World} (h : OthF D r w w') (ho : OnlyB g w' w'') (hr : g = D ∨ r = some g) : OthF D r w w'' :=
  ⟨by rw [ho.1]; exact h.1, fun b h1 h2 h3 => by
    rw [ho.2 b (fun e => by subst e; rcases hr with q | q; exact h2 q; exact h3 q.symm)]
    exact h.2 b h1 h2 h3⟩
theorem OthF.trans {D : Nat} {r : Option Nat} {w w' w'' : World} (h : OthF D r w w') (h2 : OthF D r w' w'') : OthF D r w w'' :=
  ⟨Nat.le_trans h.1 h2.1, fun b a1 a2 a3 => by rw [h2.2 b (Nat.lt_of_lt_of_le a1 h.1) a2 a3]; exact h.2 b a1 a2 a3⟩

set_option maxRecDepth 100000 in
set_option maxHeartbeats 8000000 in
theorem qpush_any {w : World} {D : Nat} {v : Value} (q : List Rk) (x : Rk) (h : QV w D v q) (hl : (q.length + 1) * 32 ≤ 140737488355328) :
    Calls Tryd.prog 82 #[.pointer (some ⟨D, 0, none⟩), .iface 92 (rkV x)] w fun e w' => e = .returned (.tuple #[]) ∧ (∃ v', QV w' D v' (q ++ [x])) ∧ Below D w w' := by
  obtain ⟨h1, h2⟩ := h
  obtain ⟨i0, hi, hz0, hz1, hz2⟩ := info_parts infoRk
  have hDw := h1.lt
  obtain ⟨ao, cap, rfl⟩ := ownF_slice h2
  obtain ⟨n, hn⟩ : ∃ n, n = q.length := ⟨_, rfl⟩
  obtain ⟨xs, hxs⟩ : ∃ xs, xs = cellsK q := ⟨_, rfl⟩
  rw [← hn] at hl h1 h2
  rw [← hxs] at h2
  have hx : rkV x = .agg #[.int .i64 x.s.f, .int .i64 x.s.a, .int .i64 x.s.b, .int .i64 x.r] := rfl
  rw [hx]
  have n1 : ¬ w.heap.size = D := by omega
  have n2 : ¬ D = w.heap.size := by omega
  have c0 := h1.cell 0
  have f0 := h1.free 0
  have BA : Hid (Below w.heap.size w (w.alloc (.cells #[.int .i64 x.s.f, .int .i64 x.s.a, .int .i64 x.s.b, .int .i64 x.r] 92)).drew) := hide ((Below.refl _ _).alloc (Nat.le_refl _) _).drew
  have M1a := hide (h1.below BA.out hDw)
  have OW : Hid ((w.alloc (.cells #[.int .i64 x.s.f, .int .i64 x.s.a, .int .i64 x.s.b, .int .i64 x.r] 92)).drew.ownsRow (D + 1) 92 4 (.slice ao n cap) n xs) := hide (ownF_below h2 BA.out)
  have NEWS : Hid (∀ (j : Nat) (u : Value), ([.int .i64 x.s.f, .int .i64 x.s.a, .int .i64 x.s.b, .int .i64 x.r] : List Value)[j]? = some u → (w.alloc (.cells #[.int .i64 x.s.f, .int .i64 x.s.a, .int .i64 x.s.b, .int .i64 x.r] 92)).drew.cell? ((⟨w.heap.size, 0, none⟩ : Addr).add j) = some u) := hide (by
    have q : (w.alloc (.cells #[.int .i64 x.s.f, .int .i64 x.s.a, .int .i64 x.s.b, .int .i64 x.r] 92)).drew.heap[w.heap.size]? = some (.cells #[.int .i64 x.s.f, .int .i64 x.s.a, .int .i64 x.s.b, .int .i64 x.r] 92 (0, 0)) := heap_alloc_new w _
    exact World.news_of_block q)
  have ONE : Hid (∀ u ∈ ([.int .i64 x.s.f, .int .i64 x.s.a, .int .i64 x.s.b, .int .i64 x.r] : List Value), u.oneCell' = true) := hide (fun u hu => by
    simp only [List.mem_cons, List.not_mem_nil, or_false] at hu
    rcases hu with rfl | rfl | rfl | rfl <;> rfl)
  have BASE : Hid (D + 1 ≤ (w.alloc (.cells #[.int .i64 x.s.f, .int .i64 x.s.a, .int .i64 x.s.b, .int .i64 x.r] 92)).drew.heap.size) := hide (by have := BA.out.size; omega)
  have GK : Hid (∀ w4, (w.alloc (.cells #[.int .i64 x.s.f, .int .i64 x.s.a, .int .i64 x.s.b, .int .i64 x.r] 92)).drew.grownBy w4 (Value.slice ao n cap).ownBlock → Blk w4 D #[.slice ao n cap] 88) := hide (fun w4 hg => by
    have q := M1a.out
    unfold Blk at *
    rw [hg.block D (Nat.lt_of_succ_le BASE.out) (fun e => by have := (World.ownsRow.lt h2 _ e.symm).1; omega)]
    exact q)
  have FR : Hid (∀ w4, (w.alloc (.cells #[.int .i64 x.s.f, .int .i64 x.s.a, .int .i64 x.s.b, .int .i64 x.r] 92)).drew.grownBy w4 (Value.slice ao n cap).ownBlock → Below D w w4) := hide (fun w4 hg => ((BA.out.mono (Nat.le_of_lt hDw))).grown hg (Nat.le_of_succ_le BASE.out) (fun q hq => Nat.le_of_lt (World.ownsRow.lt OW.out q hq).1))
  have G4 : Hid (n + 1 = (q ++ [x]).length) := hide (by rw [hn]; simp)
  have G5 : Hid (xs ++ [.int .i64 x.s.f, .int .i64 x.s.a, .int .i64 x.s.b, .int .i64 x.r] = cellsK (q ++ [x])) := hide (by rw [hxs, cellsK_app]; rfl)
  have z1 := (h1.alloc (.cells #[.int .i64 x.s.f, .int .i64 x.s.a, .int .i64 x.s.b, .int .i64 x.r] 92)).cell 0
  have TA := assertRk x.s.f x.s.a x.s.b x.r
  clear h1 h2 M1a BA hn hxs hx
  go_enter Tryd.func82, Tryd.ntmps82
  go_wp2_with fail
  go_region_law ((refine step_append_lies _ (by rfl) _ _ _ (by rfl) (D + 1) 92 i0 (.agg #[.int .i64 0, .int .i64 0, .int .i64 0, .int .i64 0]) 4 32 Tryd.underlying88 hi hz0 hz1 hz2 rfl (by decide) (.slice ao n cap) n xs rfl OW.out ⟨w.heap.size, 0, none⟩ 1 1 [.int .i64 x.s.f, .int .i64 x.s.a, .int .i64 x.s.b, .int .i64 x.r] rfl rfl NEWS.out ONE.out (by decide) (by unfold maxLen; omega) (by omega) BASE.out _ rfl ?_; intro g cp w4 hown hgr hat hlt; have z0 := (GK.out w4 hgr).cell 0; have z2 := (GK.out w4 hgr).free 0))
  all_goals
    have BL := FR.out w4 hgr
    have BK := (GK.out w4 hgr).set0of1 (.slice (some ⟨g, 0, none⟩) (n + 1) cp)
    have OK := ownF_set (i := 0) (u := .slice (some ⟨g, 0, none⟩) (n + 1) cp) hown (Nat.lt_succ_self D)
    clear hgr hat hlt z0 z2
    go_end0
    exact ⟨rfl, ⟨_, BK, by rw [← G4.out, ← G5.out]; exact OK⟩, BL.setCell (p := ⟨D, 0, none⟩) (Nat.le_refl _) _⟩

set_option maxRecDepth 100000 in
set_option maxHeartbeats 8000000 in
theorem qpop_any {w : World} {D g cap n : Nat} (q : List Rk) (x : Rk) (hn : n = q.length) (h1 : Blk w D #[.slice (some ⟨g, 0, none⟩) (n + 1) cap] 88) (h2 : w.ownsRow (D + 1) 92 4 (.slice (some ⟨g, 0, none⟩) (n + 1) cap) (n + 1) (cellsK (q ++ [x]))) (hl : (n + 1) * 32 ≤ 140737488355328) :
    Calls Tryd.prog 81 #[.pointer (some ⟨D, 0, none⟩)] w fun e w' => e = .returned (.iface 92 (rkV x)) ∧ QV w' D (.slice (some ⟨g, 0, none⟩) n cap) q ∧ Below D w w' ∧ OthF D none w w' := by
  have hDw := h1.lt
  obtain ⟨a0, a1, a2, a3⟩ := cellsK_at (q ++ [x]) n (by rw [List.length_append, List.length_singleton]; omega)
  have e0 : gN rkZ (q ++ [x]) n = x := by unfold gN; rw [hn, List.getElem?_append_right (Nat.le_refl _), Nat.sub_self]; rfl
  rw [e0] at a0 a1 a2 a3
  have x0 := (own_get h2 (n * 4) (by omega)).1.trans a0
  have x1 := (own_get h2 (n * 4 + 1) (by omega)).1.trans a1
  have x2 := (own_get h2 (n * 4 + 2) (by omega)).1.trans a2
  have x3 := (own_get h2 (n * 4 + 3) (by omega)).1.trans a3
  have hcap : n + 1 ≤ cap := by
    rcases h2.2 with ⟨hv, _⟩ | ⟨g', c', cur, hv, _, _, h3, _⟩
    · simp at hv
    · obtain ⟨_, rfl⟩ : g = g' ∧ cap = c' := by simpa using hv
      exact h3
  have OL := own_less h2 n (Nat.le_succ n)
  rw [cellsK_take, List.take_left' hn.symm] at OL
  have HOL := hide OL
  have hx : rkV x = .agg #[.int .i64 x.s.f, .int .i64 x.s.a, .int .i64 x.s.b, .int .i64 x.r] := rfl
  rw [hx]
  obtain ⟨N, hN⟩ : ∃ N, N = n + 1 := ⟨_, rfl⟩
  have k1 : IntKind.i64.wrap ((N : Int) - 1) = (n : Int) := by rw [show (N : Int) - 1 = (n : Int) by omega]; exact IntWalk.i64_in _ (by omega)
  have k2 : (n : Int) < (N : Int) := by omega
  have k3 : (n : Int) ≤ (cap : Int) := by omega
  have hgD := World.ownsRow.lt h2 g rfl
  have n3 : ¬ w.heap.size = g := by omega
  have n4 : ¬ g = w.heap.size := by omega
  have n5 : ¬ g = D := by omega
  have n6 : ¬ D = g := by omega
  have HN := hide hN
  have HH := hide hn
  rw [← hN] at h1 hcap hl
  have c0 := h1.cell 0
  have f0 := h1.free 0
  have n1 : ¬ w.heap.size = D := by omega
  have n2 : ¬ D = w.heap.size := by omega
  have H1 := hide h1
  clear h1 h2 hN hn a0 a1 a2 a3 OL hx e0
  go_enter Tryd.func81, Tryd.ntmps81
  go_wp2_with fail
  go_region
  go_wp2_with fail
  go_region
  go_wp2
  go_ret
  have Q1 : QV (w.setCell ⟨D, 0, none⟩ (.slice (some ⟨g, 0, none⟩) n cap)) D (.slice (some ⟨g, 0, none⟩) n cap) q := ⟨H1.out.set0of1 _, by rw [← HH.out]; exact ownF_set HOL.out (Nat.lt_succ_self D)⟩
  have B1 : Below D w (w.setCell ⟨D, 0, none⟩ (.slice (some ⟨g, 0, none⟩) n cap)) := (Below.refl D w).setCell (p := ⟨D, 0, none⟩) (Nat.le_refl _) _
  have O1 : OthF D none w (w.setCell ⟨D, 0, none⟩ (.slice (some ⟨g, 0, none⟩) n cap)) := (OthF.refl D none w).only ((OnlyB.refl D w).set _ _) (.inl rfl)
  have hs : (w.setCell ⟨D, 0, none⟩ (.slice (some ⟨g, 0, none⟩) n cap)).heap.size = w.heap.size := by simp [World.setCell]
  generalize w.setCell ⟨D, 0, none⟩ (.slice (some ⟨g, 0, none⟩) n cap) = W1 at *
  have B2 : ∀ o, Below W1.heap.size W1 (W1.alloc o).drew.drew := fun o => ((Below.refl _ _).alloc (Nat.le_refl _) _).drew.drew
  exact ⟨rfl, Q1.below (B2 _), B1.trans ((B2 _).mono (by rw [hs]; omega)), O1.below (B2 _)⟩
end Go.Proofs.YtkgapklhgkngnaaDoor

namespace Go.Proofs.YtkgapklhgkngnaaDoor
open Go.RowKit

attribute [local go_sem ↓] Go.wp_at_zero Go.wp_at_succ

theorem meth_less (D : Nat) (w : World) : (method 230 90 (.pointer (some ⟨D, 0, none⟩)) "Less").run Tryd.prog w = (Sem.load Mode.plain ⟨D, 0, none⟩ fun v => Sem.pure (79, v)).run Tryd.prog w := by kernel_rfl
theorem meth_swap (D : Nat) (w : World) : (method 230 90 (.pointer (some ⟨D, 0, none⟩)) "Swap").run Tryd.prog w = (Sem.load Mode.plain ⟨D, 0, none⟩ fun v => Sem.pure (80, v)).run Tryd.prog w := by kernel_rfl
theorem meth_len (D : Nat) (w : World) : (method 230 90 (.pointer (some ⟨D, 0, none⟩)) "Len").run Tryd.prog w = (Sem.load Mode.plain ⟨D, 0, none⟩ fun v => Sem.pure (48, v)).run Tryd.prog w := by kernel_rfl
theorem meth_push (D : Nat) (w : World) : (method 230 90 (.pointer (some ⟨D, 0, none⟩)) "Push").run Tryd.prog w = .ok (82, .pointer (some ⟨D, 0, none⟩)) w := by kernel_rfl
theorem meth_pop (D : Nat) (w : World) : (method 230 90 (.pointer (some ⟨D, 0, none⟩)) "Pop").run Tryd.prog w = .ok (81, .pointer (some ⟨D, 0, none⟩)) w := by kernel_rfl
theorem load_q {w : World} {D : Nat} {v : Value} {k : Nat} (h : Blk w D #[v] 88) : (Sem.load Mode.plain ⟨D, 0, none⟩ fun v => Sem.pure (k, v)).run Tryd.prog w = .ok (k, v) w := by
  have c0 := h.cell 0
  simp at c0
  unfold Sem.run
  rw [c0]
  rfl

def LtR (x y : Rk) : Prop := ltB x y = true

theorem orZ_lt {x y : Int} : orZ x y < 0 ↔ x < 0 ∨ (x = 0 ∧ y < 0) := by
  unfold orZ
  split
  · omega
  · omega
theorem cmpZ_lt {x y : Int} : cmpZ x y < 0 ↔ x < y := by unfold cmpZ; split <;> (try split) <;> omega
theorem cmpZ_eq {x y : Int} : cmpZ x y = 0 ↔ x = y := by unfold cmpZ; split <;> (try split) <;> omega
theorem orZ_eq {x y : Int} : orZ x y = 0 ↔ x = 0 ∧ y = 0 := by
  unfold orZ
  split
  · omega
  · omega
theorem cmpS_lt {s t : Sp} : cmpS s t < 0 ↔ s.a < t.a ∨ (s.a = t.a ∧ t.b < s.b) := by unfold cmpS; rw [orZ_lt, cmpZ_lt, cmpZ_eq, cmpZ_lt]
theorem cmpS_eq {s t : Sp} : cmpS s t = 0 ↔ s.a = t.a ∧ t.b = s.b := by unfold cmpS; rw [orZ_eq, cmpZ_eq, cmpZ_eq]
theorem LtR_iff {x y : Rk} : LtR x y ↔ (x.s.a < y.s.a ∨ (x.s.a = y.s.a ∧ y.s.b < x.s.b)) ∨ ((x.s.a = y.s.a ∧ y.s.b = x.s.b) ∧ x.r < y.r) := by
  unfold LtR ltB
  rw [decide_eq_true_iff, orZ_lt, cmpZ_lt, cmpS_lt, cmpS_eq]
theorem ordLt : Ord LtR := ⟨fun a b c => by rw [LtR_iff, LtR_iff, LtR_iff]; omega, fun a b => by rw [LtR_iff, LtR_iff]; omega, fun a b c => by rw [LtR_iff, LtR_iff, LtR_iff]; omega⟩

structure QG (W : World) (D g cap n : Nat) (q : List Rk) (w : World) : Prop where
  blk : Blk w D #[.slice (some ⟨g, 0, none⟩) n cap] 88
  own : w.ownsRow (D + 1) 92 4 (.slice (some ⟨g, 0, none⟩) n cap) n (cellsK q)
  len : q.length = n
  bel : Below D W w
  oth : OthF D (some g) W w
theorem QG.below {W w w' : World} {D g cap n : Nat} {q : List Rk} (h : QG W D g cap n q w) (hb : Below w.heap.size w w') : QG W D g cap n q w' :=
  ⟨h.blk.below hb h.blk.lt, ownF_below h.own hb, h.len, h.bel.trans (hb.mono (Nat.le_of_lt h.blk.lt)), h.oth.below hb⟩
theorem QG.at {W w : World} {D g cap n : Nat} {q : List Rk} (h : QG W D g cap n q w) (i : Nat) (hi : i < n) : RkAt w g i (gN rkZ q i) := by
  obtain ⟨a0, a1, a2, a3⟩ := cellsK_at q i (by rw [h.len]; exact hi)
  exact ⟨(own_get h.own (i * 4) (by omega)).1.trans a0, (own_get h.own (i * 4 + 1) (by omega)).1.trans a1, (own_get h.own (i * 4 + 2) (by omega)).1.trans a2, (own_get h.own (i * 4 + 3) (by omega)).1.trans a3⟩
theorem QG.less {W w : World} {D g cap n : Nat} {q : List Rk} (h : QG W D g cap n q w) (i j : Nat) (hi : i < n) (hj : j < n) :
    Calls Tryd.prog 79 #[.slice (some ⟨g, 0, none⟩) n cap, .int .i64 (i : Int), .int .i64 (j : Int)] w fun e w' => e = .returned (.bool (ltB (gN rkZ q i) (gN rkZ q j))) ∧ QG W D g cap n q w' :=
  (qless_any g n cap i j _ _ w hi hj (h.at i hi) (h.at j hj)).mono fun _ _ ⟨h1, h2⟩ => ⟨h1, h.below h2⟩
theorem QG.swap {W w : World} {D g cap n : Nat} {q : List Rk} (h : QG W D g cap n q w) (i j : Nat) (hi : i < n) (hj : j < n) :
    Calls Tryd.prog 80 #[.slice (some ⟨g, 0, none⟩) n cap, .int .i64 (i : Int), .int .i64 (j : Int)] w fun e w' => e = .returned (.tuple #[]) ∧ QG W D g cap n (swL rkZ q i j) w' :=
  (qswap_any (D + 1) g n cap i j q w h.len hi hj h.own).mono fun _ _ ⟨h1, h2, h3, h4⟩ => by
    have hg := World.ownsRow.lt h.own g rfl
    refine ⟨h1, ?_, h2, by rw [swL_len]; exact h.len, h.bel.trans (h3.mono (by omega)), h.oth.only h4 (.inr rfl)⟩
    have q1 := h.blk
    unfold Blk at *
    rw [h4.2 D (by omega)]
    exact q1

set_option maxRecDepth 100000 in
set_option maxHeartbeats 8000000 in
theorem up_any {W w : World} {D g cap n : Nat} (q : List Rk) (j : Nat) (h : QG W D g cap n q w) (hj : j < n) (hl : n * 32 ≤ 140737488355328) (hu : UpI LtR rkZ q n j) :
    Calls Tryd.prog 58 #[.iface 90 (.pointer (some ⟨D, 0, none⟩)), .int .i64 (j : Int)] w fun e w' => e = .returned (.tuple #[]) ∧ ∃ q', q'.Perm q ∧ HeapN LtR rkZ q' n ∧ QG W D g cap n q' w' := by
  have H0 := hide h
  have HU := hide hu
  clear h hu
  go_enter Tryd.func58, Tryd.ntmps58
  go_wp2_with fail
  go_loopw [1] (fun x wr => ∃ (k : Nat) (p : List Rk), x = .int .i64 (k : Int) ∧ k < n ∧ Hid (p.Perm q ∧ UpI LtR rkZ p n k) ∧ Hid (QG W D g cap n p wr)) (fun x _ => (intOf x).toNat)
  case atStart => exact ⟨j, q, rfl, hj, hide ⟨List.Perm.refl _, HU.out⟩, H0⟩
  case round =>
    obtain ⟨k, p, rfl, hk, HP, HQ⟩ := hrel
    clear H0 HU
    have bD := HQ.out.blk
    have c0 := bD.cell 0
    have f0 := bD.free 0
    clear bD
    by_cases h0 : k = 0
    · subst h0
      go_wp2
      go_end0
      exact ⟨rfl, p, HP.out.1, up_done HP.out.2 (.inl rfl), HQ.out⟩
    · obtain ⟨m, hm⟩ : ∃ m, m = par k := ⟨_, rfl⟩
      have hmk : m < k := by rw [hm]; exact par_lt (by omega)
      have hd : ((k : Int) - 1).tdiv 2 = (m : Int) := by rw [hm, Int.tdiv_eq_ediv_of_nonneg (by omega)]; unfold par; omega
      have hq : ((m : Int) == (k : Int)) = false := beq_eq_false_iff_ne.2 (by omega)
      have HM := hide hm
      have ML := (meth_less D wr).trans (load_q HQ.out.blk)
      have CL := hide (HQ.out.less k m hk (by omega))
      obtain ⟨b, hb⟩ : ∃ b, b = ltB (gN rkZ p k) (gN rkZ p m) := ⟨_, rfl⟩
      rw [← hb] at CL
      have HB := hide hb
      clear hb hm
      go_wp2_with fail
      refine CL.out.mono ?_
      rintro e w1 ⟨rfl, hq1⟩
      have HQ1 := hide hq1
      clear CL ML HQ hq1 c0 f0
      cases b
      · have E1 : Hid (HeapN LtR rkZ p n) := hide (up_done HP.out.2 (.inr (by unfold LtR; rw [← HM.out, ← HB.out]; simp)))
        clear HB HM
        go_wp2
        go_end0
        exact ⟨rfl, p, HP.out.1, E1.out, HQ1.out⟩
      · have E1 : Hid ((swL rkZ p m k).Perm q ∧ UpI LtR rkZ (swL rkZ p m k) n m) := hide (by
          have hlen := HQ1.out.len
          refine ⟨(swL_perm (by omega) (by omega)).trans HP.out.1, ?_⟩
          have q := up_step ordLt (by omega) hk (by omega) HP.out.2 (show LtR _ _ by unfold LtR; rw [← HM.out, ← HB.out])
          rw [← HM.out] at q
          exact q)
        have CS := hide (HQ1.out.swap m k (by omega) hk)
        have MS := (meth_swap D w1).trans (load_q HQ1.out.blk)
        clear HB HM HP HQ1
        go_wp2_with fail
        refine CS.out.mono ?_
        rintro e w2 ⟨rfl, hq2⟩
        have HQ2 := hide hq2
        clear CS MS hq2
        go_wp2
        exact ⟨⟨m, _, rfl, by omega, E1, HQ2⟩, by simp [intOf]; omega⟩
end Go.Proofs.YtkgapklhgkngnaaDoor
