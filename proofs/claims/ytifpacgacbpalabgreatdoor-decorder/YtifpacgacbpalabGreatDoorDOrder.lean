/-
  The walk of DecOrder, all cases.
-/
import Derived.Test.YtifpacgacbpalabGreatDoorDOrderN
import Derived.Test.YtifpacgacbpalabGreatDoorDOrderY
namespace Go.Proofs.YtifpacgacbpalabGreatDoor
open Go.RowKit

theorem dorder_walk (w : World) (htab : Tab w) (ca : Int) (na : Bool) (ta : ByteArray) (ea : Int) (cb : Int) (nb : Bool) (tb : ByteArray) (eb : Int) (cc : Int) (nc : Bool) (tc : ByteArray) (ec : Int) : Calls Tryz.prog 5 #[dcV ca na ta ea, dcV cb nb tb eb, dcV cc nc tc ec] w fun e w' => e = .returned (.bool true) ∧ Below w.heap.size w w' := by
  by_cases ha : MayD ca na (bys ta) ea
  · by_cases hb : MayD cb nb (bys tb) eb
    · obtain ⟨a, hda⟩ : ∃ d : DecT, d = ⟨ca.toNat, na, bys ta, ea⟩ := ⟨_, rfl⟩
      have ma : May a := by rw [hda]; exact mayD_d ha
      have ea' : dcV ca na ta ea = decVal a := by rw [hda]; exact dcV_d ca na ta ea (mayD_nn ha)
      have ca' : (a.cls : Int) = ca := by rw [hda]; exact Int.toNat_of_nonneg (mayD_nn ha)
      obtain ⟨b, hdb⟩ : ∃ d : DecT, d = ⟨cb.toNat, nb, bys tb, eb⟩ := ⟨_, rfl⟩
      have mb : May b := by rw [hdb]; exact mayD_d hb
      have eb' : dcV cb nb tb eb = decVal b := by rw [hdb]; exact dcV_d cb nb tb eb (mayD_nn hb)
      have cb' : (b.cls : Int) = cb := by rw [hdb]; exact Int.toNat_of_nonneg (mayD_nn hb)
      have c0 := fun W => Cmp_d a b W ma mb
      have c1 := fun W => Cmp_d b a W mb ma
      obtain ⟨m, n4, mm, vm⟩ := neg_ex a ma
      obtain ⟨n, n5, mn, vn⟩ := neg_ex b mb
      have c6 := fun W => Cmp_d m n W mm mn
      rw [← ea', ← eb'] at c0 c1
      rw [← ea'] at n4
      rw [← eb'] at n5
      have hv : ca ≠ 2 → cb ≠ 2 → (cmpI (wD m) (wD n) != -(cmpI (wD a) (wD b))) = true → False := by
        intro h1 h2 h3
        rw [vm (by omega), vn (by omega), cmpI_neg, cmpI_anti (wD b) (wD a)] at h3
        simp at h3
      have hxy : (cmpI (wD a) (wD b) != -(cmpI (wD b) (wD a))) = false := by rw [cmpI_anti (wD a) (wD b)]; simp
      by_cases hc : MayD cc nc (bys tc) ec
      · obtain ⟨c, hdc⟩ : ∃ d : DecT, d = ⟨cc.toNat, nc, bys tc, ec⟩ := ⟨_, rfl⟩
        have mc : May c := by rw [hdc]; exact mayD_d hc
        have ec' : dcV cc nc tc ec = decVal c := by rw [hdc]; exact dcV_d cc nc tc ec (mayD_nn hc)
        have cc' : (c.cls : Int) = cc := by rw [hdc]; exact Int.toNat_of_nonneg (mayD_nn hc)
        have c2 := fun W => Cmp_d b c W mb mc
        have c3 := fun W => Cmp_d a c W ma mc
        have s7 := fun W hW => Add_d a c ma mc W hW
        have s8 := fun W hW => Add_d b c mb mc W hW
        have c9 := fun W => Cmp_d (sumT a c).1 (sumT b c).1 W (sumT_may a c ma mc) (sumT_may b c mb mc)
        rw [← eb', ← ec'] at c2 s8
        rw [← ea', ← ec'] at c3 s7
        refine order_y ca na ta ea cb nb tb eb cc nc tc ec _ _ _ _ _ _ _ _ _ _ _ _ _ _ _ _ _ _ _ _ _ _ _ w htab c0 c1 c2 c3 n4 n5 c6 s7 s8 (cmpI_ge _ _) (cmpI_le1 _ _) (cmpI_ge _ _) (cmpI_le1 _ _) hxy hv (cmpI_trans _ _ _) ?_
        intro hl ho h1 h2 h3 W
        obtain ⟨v1, k1⟩ := sum_val ma mc (by omega) (by omega) hl
        obtain ⟨v2, k2⟩ := sum_val mb mc (by omega) (by omega) ho
        have e : cmpI (wD (sumT a c).1) (wD (sumT b c).1) = cmpI (wD a) (wD b) := by
          rw [wD_fin k1, wD_fin k2, wD_fin (show a.cls = 0 by omega), wD_fin (show b.cls = 0 by omega), v1, v2, cmpI_add]
        have g := c9 W
        rw [e] at g
        exact g
      · have c2 := fun W => Cmp_no2 cb nb tb eb cc nc tc ec W hb hc
        have c3 := fun W => Cmp_no2 ca na ta ea cc nc tc ec W ha hc
        have s7 := fun W (_ : Tab W) => Add_no2 ca na ta ea cc nc tc ec W ha hc
        have s8 := fun W (_ : Tab W) => Add_no2 cb nb tb eb cc nc tc ec W hb hc
        exact order_n ca na ta ea cb nb tb eb cc nc tc ec _ _ _ _ _ _ _ _ _ _ _ w htab c0 c1 c2 c3 n4 n5 c6 s7 s8 (cmpI_ge _ _) (cmpI_le1 _ _) (cmpI_ge _ _) (cmpI_le1 _ _) hxy hv
    · exact order_bad ca na ta ea cb nb tb eb cc nc tc ec w htab (fun W => Cmp_no2 ca na ta ea cb nb tb eb W ha hb) (fun W => Cmp_no1 cb nb tb eb ca na ta ea W hb)
  · refine order_bad ca na ta ea cb nb tb eb cc nc tc ec w htab (fun W => Cmp_no1 ca na ta ea cb nb tb eb W ha) (fun W => ?_)
    by_cases hb : MayD cb nb (bys tb) eb
    · exact Cmp_no2 cb nb tb eb ca na ta ea W hb ha
    · exact Cmp_no1 cb nb tb eb ca na ta ea W hb

end Go.Proofs.YtifpacgacbpalabGreatDoor
