/-
  nat.DivMod by nought and by one limb, whatever the dividend; literal lists, and what the numbers in them are.
-/
import Derived.Test.YtpiloigpncbccaaDivMod
import Derived.Test.YtpiloigpncbccaaSub
import Derived.Test.YtpiloigpncbccaaSame
import Derived.Test.YtpiloigpncbccaaDown
namespace Go.Proofs.Ytpiloigpncbccaa
open Go.RowKit

theorem num_one {b : Nat} {xs : List Nat} (h : xs.length = 1) : num b xs = dg xs 0 := by
  unfold num; rw [h]; simp [V]

theorem divmod_by_zero (ao bo : Option Addr) (la ca lb cb : Nat) (xs ys : List Nat) (w : World) (hla : la ≤ ca) (hca : la ≤ 10000000000 ∧ ca ≤ 9223372036854775807) (hlb : lb ≤ cb) (hcb : lb ≤ 10000000000 ∧ cb ≤ 9223372036854775807)
    (hx : xs.length = la) (hy : ys.length = lb) (hax : At .u64 w ao xs) (hay : At .u64 w bo ys) (h0 : num B64 ys = 0) :
    Calls Try.prog 5 #[.slice ao la ca, .slice bo lb cb] w (DivPost w 0 0 0 11) := by
  have hz : trimmed ys = [] := num_zero (b := B64) (by decide) (trimmed_top ys) (by rw [num_trimmed]; exact h0)
  exact divmod_zero ao bo la ca lb cb (trimmed xs).length w (fun w' h => trim_to ao la ca _ xs w' hla (by omega) hx (hax.same h) rfl) (fun w' h => trim_to bo lb cb 0 ys w' hlb (by omega) hy (hay.same h) (by rw [hz]; rfl))

theorem divmod_by_limb (ao bo : Option Addr) (la ca lb cb : Nat) (xs ys : List Nat) (w : World) (hla : la ≤ ca) (hca : la ≤ 10000000000 ∧ ca ≤ 9223372036854775807) (hlb : lb ≤ cb) (hcb : lb ≤ 10000000000 ∧ cb ≤ 9223372036854775807)
    (hx : xs.length = la) (hy : ys.length = lb) (hax : At .u64 w ao xs) (hay : At .u64 w bo ys) (ox : Ok B64 xs) (oy : Ok B64 ys) (h1 : (trimmed ys).length = 1) (h2 : 1 ≤ (trimmed xs).length) :
    Calls Try.prog 5 #[.slice ao la ca, .slice bo lb cb] w (DivPost w la (num B64 xs / num B64 ys) (num B64 xs % num B64 ys) 0) := by
  have l1 := length_trimmed_le xs
  rcases hay.trimmed with h | ⟨b, o, rfl, hb, hc⟩
  · rw [h] at h1; simp at h1
  · rcases hax.trimmed with h | ⟨b', o', rfl, hb', hc'⟩
    · rw [h] at h2; simp at h2
    · have hn : num B64 ys = dg (trimmed ys) 0 := by rw [← num_trimmed, num_one h1]
      have hpos : 0 < dg (trimmed ys) 0 := by
        have := trimmed_top ys 0 (by rw [h1]); omega
      have hlt : num B64 xs % num B64 ys < B64 := by
        rw [hn]; exact Nat.lt_trans (Nat.mod_lt _ hpos) (trimmed_ok oy 0)
      have c3 := divLimb_at b' o' (trimmed xs).length ca (dg (trimmed ys) 0) (trimmed xs) w (by omega) hpos (trimmed_ok oy 0) rfl hb' hc' (trimmed_ok ox)
      rw [num_trimmed, ← hn] at c3
      have hc0 := hc 0 (by omega)
      have hc0' : w.cell? ⟨b, o, none⟩ = some (.int .u64 ((num B64 ys : Nat) : Int)) := by rw [hn]; exact hc0
      have key := divmod_limb (some ⟨b', o', none⟩) b o la ca lb cb (trimmed xs).length _ _ (num B64 ys) w h2 (by omega) (fun w' h => trim_to _ la ca _ xs w' hla (by omega) hx (hax.same h) rfl)
        (fun w' h => trim_to _ lb cb 1 ys w' hlb (by omega) hy (hay.same h) h1) hc0' c3 hlt
      refine key.mono ?_
      rintro e w' ⟨v1, r1, v2, r2, e1, o1, o2, i1, i2, hb, hd⟩
      exact ⟨v1, r1, v2, r2, e1, o1.mono (Nat.le_refl _) (by omega), o2.mono (Nat.le_refl _) (by omega), i1, i2, hb, hd⟩

def okB (xs : List Nat) : Bool := xs.all fun x => decide (x < B64)

theorem ok_of {xs : List Nat} (h : okB xs = true) : Ok B64 xs := by
  intro i
  by_cases hi : i < xs.length
  · have := List.all_eq_true.1 h (xs[i]) (List.getElem_mem hi)
    simpa [dg, hi] using this
  · rw [dg_out (by omega)]; decide

theorem is_of (xs : List Nat) {n : Nat} (h : okB xs = true) (ht : trimmed xs = xs) (hn : num B64 xs = n) : Is B64 xs n := ⟨ok_of h, by rw [← ht]; exact trimmed_top xs, hn⟩

theorem own_lit {e : TypeId} {w : World} {base m n : Nat} {v : Value} {r : List Nat} (zs : List Nat) (L : Nat) (hL : zs.length = L) (h : Own .u64 e w base m v r) (his : Is B64 r n) (hz : Is B64 zs n) :
    ∃ ao cap, v = .slice ao L cap ∧ L ≤ cap ∧ cap ≤ m ∧ At .u64 w ao zs := by
  have e := his.uniq (by decide) hz
  subst e hL
  exact h.shape

theorem At.alloc {k : IntKind} {w : World} {ao : Option Addr} {xs : List Nat} (h : At k w ao xs) (o : Obj) : At k (w.alloc o) ao xs := h.below ((Below.refl _ _).alloc (Nat.le_refl _) o)

theorem lit_new (w : World) (n : Nat) (hn : w.heap.size = n) (xs : List Nat) : At .u64 (w.alloc (.cells (vals .u64 xs).toArray 33)) (some ⟨n, 0, none⟩) xs := by
  subst hn
  exact Row.at (k := .u64) (e := 33) (heap_alloc_new w _)

end Go.Proofs.Ytpiloigpncbccaa
