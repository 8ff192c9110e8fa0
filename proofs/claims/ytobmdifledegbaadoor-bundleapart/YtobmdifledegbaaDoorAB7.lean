/-
  What quipulaw12's hides answers: a chain's entry of a key.
  What Find and Keys answer of a bundle's own names, as mathematics.
  BundleHides.
  BundleApart, plain data: a table behind all changes no chain of those ahead.
-/
import Derived.Test.YtobmdifledegbaaDoorAB6
import Derived.Test.YtobmdifledegbaaDoorAB3
import Derived.Test.YtobmdifledegbaaDoorAB4
namespace Go.Proofs.YtobmdifledegbaaDoor
open Go.RowKit

end Go.Proofs.YtobmdifledegbaaDoor

namespace Go.Proofs.YtobmdifledegbaaDoor
open Go.RowKit

theorem placeF_app (n : ByteArray) (t : Tab) (r : List Tab) : ∀ (a : List Tab) (k : Nat), placeF n k a = -1 → placeF n k (a ++ t :: r) = if t.name = n then ((k + a.length : Nat) : Int) else placeF n (k + a.length + 1) r
  | [], k, _ => by simp [placeF]
  | x :: a, k, h => by
    unfold placeF at h
    by_cases hx : x.name = n
    · rw [if_pos hx] at h; omega
    · rw [if_neg hx] at h
      show (if x.name = n then (k : Int) else placeF n (k + 1) (a ++ t :: r)) = _
      rw [if_neg hx, placeF_app n t r a (k + 1) h, List.length_cons, show k + 1 + a.length = k + (a.length + 1) by omega]

theorem place_self {ts : List Tab} (h : checkT ts = 0) {i : Nat} (hi : i < ts.length) : placeT ts (tabN ts i).name = (i : Int) := by
  obtain ⟨_, h2, _⟩ := tabE_zero ((check_zero h).2.1 i hi)
  have e : ts = ts.take i ++ tabN ts i :: ts.drop (i + 1) := by
    have e2 : tabN ts i = ts[i] := tabN_get (List.getElem?_eq_getElem hi)
    rw [e2, ← List.drop_eq_getElem_cons hi, List.take_append_drop]
  unfold placeT at h2 ⊢
  have q := placeF_app (tabN ts i).name (tabN ts i) (ts.drop (i + 1)) (ts.take i) 0 h2
  rw [← e, if_pos rfl, List.length_take, Nat.min_eq_left (by omega), Nat.zero_add] at q
  exact q

theorem ch_self {ts : List Tab} (h : checkT ts = 0) {i : Nat} (hi : i < ts.length) : chE ts (tabN ts i).name = 0 ∧ chL ts (tabN ts i).name = chainP ts (i : Int) := by
  have hp := place_self h hi
  constructor
  · unfold chE
    rw [if_neg (fun q => q h), hp, if_neg (by omega)]
  · unfold chL; rw [hp]

theorem find_self {ts : List Tab} (h : checkT ts = 0) {i : Nat} (hi : i < ts.length) (key : ByteArray) : findT ts (tabN ts i).name key = findN (chainP ts (i : Int)) 9 key := by
  obtain ⟨h1, h2⟩ := ch_self h hi
  unfold findT
  rw [h1, if_neg (fun q => q rfl), h2]

end Go.Proofs.YtobmdifledegbaaDoor

namespace Go.Proofs.YtobmdifledegbaaDoor
open Go.RowKit

theorem bdrH (w : World) : Hid (Below w.heap.size w w.drew) := (Below.refl _ _).drew
theorem balH {W w : World} (h : Hid (Below W.heap.size W w)) (o : Obj) : Hid (Below W.heap.size W (w.alloc o)) := h.out.alloc h.out.size o

structure CutE (W : World) (x : Ent) (er : Int) (v u : Value) (W' : World) : Prop where
  ex : ∃ H : Nat, v = .pointer (some ⟨H, 0, none⟩) ∧ u = .int .i64 er ∧ Blk W' H #[.string x.key, .int .i64 x.kind, .string x.text, .int .i64 x.num] 33 ∧ W.heap.size ≤ H ∧ Below W.heap.size W W'

theorem cute_old {W w3 : World} {H : Nat} {x0 x1 x2 x3 : Value} {x : Ent} {er : Int} (hb : Below W.heap.size W w3) (q : Blk w3 H #[x0, x1, x2, x3] 33) (hH : W.heap.size ≤ H) :
    CutE W x er (.pointer (some ⟨H, 0, none⟩)) (.int .i64 er) ((((w3.setCell ⟨H, 0, none⟩ (.string x.key)).setCell ⟨H, 1, none⟩ (.int .i64 x.kind)).setCell ⟨H, 2, none⟩ (.string x.text)).setCell ⟨H, 3, none⟩ (.int .i64 x.num)) :=
  ⟨H, rfl, rfl, q.put4 _ _ _ _, hH, below_putE hb hH _ _ _ _⟩

theorem cute_new {W w3 : World} {x : Ent} {er : Int} (hb : Below W.heap.size W w3) :
    CutE W x er (.pointer (some ⟨w3.heap.size, 0, none⟩)) (.int .i64 er) (w3.alloc (.cells #[.string x.key, .int .i64 x.kind, .string x.text, .int .i64 x.num] 33)) :=
  ⟨w3.heap.size, rfl, rfl, Blk.new _ _ _, hb.size, hb.alloc hb.size _⟩

theorem keys_bound {ts : List Tab} (h : checkT ts = 0) {i : Nat} (hi : i < ts.length) (key : ByteArray) : poolS (keysL key (chainP ts (i : Int))) ≤ 1000000 := by
  obtain ⟨c1, c2⟩ := ch_self h hi
  rw [← c2]
  obtain ⟨hg, hl16, _, _⟩ := ch_good c1
  have h1 := poolS_le (keysL key (chL ts (tabN ts i).name))
  have h2 := keysL_len key (chL ts (tabN ts i).name) (fun t ht => by obtain ⟨k, _, rfl⟩ := mem_tabN ht; exact (hg k).1)
  omega

end Go.Proofs.YtobmdifledegbaaDoor

namespace Go.Proofs.YtobmdifledegbaaDoor

theorem tabN_app {ts : List Tab} (t : Tab) {i : Nat} (hi : i < ts.length) : tabN (ts ++ [t]) i = tabN ts i := by
  unfold tabN
  rw [List.getElem?_append_left hi]

theorem chainF_app {ts : List Tab} (t : Tab) (hd : Down ts) : ∀ (f : Nat) (p : Int), p < ts.length → chainF (ts ++ [t]) f p = chainF ts f p
  | 0, _, _ => rfl
  | f + 1, p, hp => by
    simp only [chainF]
    by_cases h : p < 0
    · rw [if_pos h, if_pos h]
    · have hn : p.toNat < ts.length := by omega
      rw [if_neg h, if_neg h, tabN_app t hn]
      congr 1
      exact chainF_app t hd f _ (by have := (hd p.toNat hn).2; omega)

theorem chainP_app {ts : List Tab} (t : Tab) (hd : Down ts) (p : Int) (hp : p < ts.length) : chainP (ts ++ [t]) p = chainP ts p := chainF_app t hd _ p hp

theorem apart_self {ts : List Tab} {t : Tab} (h : checkT ts = 0) (h2 : checkT (ts ++ [t]) = 0) {i : Nat} (hi : i < ts.length) :
    (chE (ts ++ [t]) (tabN ts i).name = 0 ∧ chL (ts ++ [t]) (tabN ts i).name = chL ts (tabN ts i).name) ∧ ∀ key, findT (ts ++ [t]) (tabN ts i).name key = findT ts (tabN ts i).name key := by
  have hi2 : i < (ts ++ [t]).length := by rw [List.length_append]; omega
  have e := tabN_app t hi
  have c := chainP_app t (check_down h) (i : Int) (by omega)
  have k1 := ch_self h2 hi2
  have k2 := ch_self h hi
  rw [e, c] at k1
  refine ⟨⟨k1.1, by rw [k1.2, k2.2]⟩, fun key => ?_⟩
  have f1 := find_self h2 hi2 key
  rw [e, c] at f1
  rw [f1, find_self h hi key]

end Go.Proofs.YtobmdifledegbaaDoor
