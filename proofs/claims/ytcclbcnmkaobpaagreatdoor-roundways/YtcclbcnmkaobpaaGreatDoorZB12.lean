/-
  RoundWays: At, Step by a power of 10, and Digits are one thing.
-/
import Derived.Test.YtcclbcnmkaobpaaGreatDoorZB10
import Derived.Test.YtcclbcnmkaobpaaGreatDoorZB11
namespace Go.Proofs.YtcclbcnmkaobpaaGreatDoor
open Go.RowKit

theorem may_one {p : Int} (h1 : -1990 ≤ p) (h2 : p ≤ 1990) : MayD 0 false (bys ⟨#[49]⟩) p :=
  .inl ⟨rfl, .inr ⟨by decide, by decide, by show -2000 ≤ p + 1; omega, by show p + 1 ≤ 2000; omega, by decide, by decide, ok49.2.2⟩⟩

theorem Step_one {ca : Int} {na : Bool} {ta : ByteArray} {ea p m : Int} (h : MayD ca na (bys ta) ea) (hm : ¬ (m < 0 ∨ 8 ≤ m)) (h1 : -1990 ≤ p) (h2 : p ≤ 1990) {r : DecT × Int} (hr : rndD ⟨ca.toNat, na, bys ta, ea⟩ 1 p m.toNat = r) :
    ∀ W, Tab W → Calls Tryz.prog 16 #[dcV ca na ta ea, dcV 0 false ⟨#[49]⟩ p, .int .i64 m] W fun e w' => e = .returned (decErr r) ∧ Below W.heap.size W w' := by
  intro W hT
  have g := Step_any ca na ta ea 0 false ⟨#[49]⟩ p m W hT
  rw [stepR_in (may_one h1 h2) h hm ⟨rfl, rfl, by decide, by decide⟩, show decV (bys ⟨#[49]⟩) = 1 from rfl, hr] at g
  exact g

theorem Digits_to {ca : Int} {na : Bool} {ta : ByteArray} {ea p q m : Int} (h : MayD ca na (bys ta) ea) (hm : ¬ (m < 0 ∨ 8 ≤ m)) (hq : q = (ta.size : Int) + ea) (h1 : 1 ≤ q - p) (h2 : q - p ≤ 1000) {r : DecT × Int} (hr : rndD ⟨ca.toNat, na, bys ta, ea⟩ 1 p m.toNat = r) :
    ∀ W, Tab W → Calls Tryz.prog 14 #[dcV ca na ta ea, .int .i64 (q - p), .int .i64 m] W fun e w' => e = .returned (decErr r) ∧ Below W.heap.size W w' := by
  intro W hT
  have g := Digits_any ca na ta ea (q - p) m W hT
  rw [digR_in h hm (by omega), bys_len, show (ta.size : Int) + ea - (q - p) = p by omega, hr] at g
  exact g

theorem nil_of {t : ByteArray} (h : t.size = 0) : t = ⟨#[]⟩ := by
  obtain ⟨⟨l⟩⟩ := t
  have : l = [] := List.length_eq_zero_iff.1 h
  subst this; rfl

theorem may_nil {c : Int} {n : Bool} {e : Int} (h : MayD c n [] e) : e = 0 := by
  rcases h with ⟨_, ⟨_, h⟩ | ⟨h, _⟩⟩ | ⟨_, _, h⟩ | ⟨_, _, _, h⟩
  · exact h
  · exact absurd rfl h
  · exact h
  · exact h

theorem may_cls0 {c : Int} {n : Bool} {l : List UInt8} {e : Int} (h : MayD c n l e) (hl : l ≠ []) : c = 0 := by
  rcases h with ⟨h, _⟩ | ⟨_, h, _⟩ | ⟨_, _, h, _⟩
  · exact h
  · exact absurd h hl
  · exact absurd h hl

theorem rndD_low {d : DecT} (hd : Fin d) {p : Int} (h : p ≤ d.exp) (m : Nat) : rndD d 1 p m = (d, 0) := by
  refine rndD_exact hd m ?_
  rw [show (p - min d.exp p).toNat = 0 by omega]
  simp [Nat.mod_one]

theorem ways_walk (w : World) (htab : Tab w) (ca : Int) (na : Bool) (ta : ByteArray) (ea : Int) (p m : Int) : Calls Tryz.prog 9 #[dcV ca na ta ea, .int .i64 p, .int .i64 m] w fun e w' => e = .returned (.bool true) ∧ Below w.heap.size w w' := by
  by_cases h : MayD ca na (bys ta) ea
  · have R := fun W => rmay_yes ca na ta ea W h
    by_cases m1 : m < 0
    · exact ways_mlow ca na ta ea p m w htab R m1
    by_cases m2 : 7 < m
    · exact ways_mhigh ca na ta ea p m w htab R m2
    by_cases p1 : p < -1990
    · exact ways_plow ca na ta ea p m w htab R (by omega) (by omega) p1
    by_cases p2 : 1990 < p
    · exact ways_phigh ca na ta ea p m w htab R (by omega) (by omega) p2
    have hm : ¬ (m < 0 ∨ 8 ≤ m) := by omega
    have hp : ¬ (p < -4000 ∨ 4000 < p) := by omega
    have PL := fun W => Place_yes ca na ta ea W h
    have bd := may_place h
    obtain ⟨q, hq⟩ : ∃ q : Int, q = (ta.size : Int) + ea := ⟨_, rfl⟩
    rw [← hq] at PL bd
    by_cases h0 : ta.size = 0
    · obtain rfl := nil_of h0
      obtain rfl := may_nil h
      have e1 : rndD ⟨ca.toNat, na, bys ⟨#[]⟩, 0⟩ 1 p m.toNat = (⟨ca.toNat, na, [], 0⟩, 0) := rndD_zero rfl _ _ _
      have hv : decVal ⟨ca.toNat, na, [], 0⟩ = dcV ca na ⟨#[]⟩ 0 := by
        unfold decVal
        simp only
        rw [← may_cls h]
      have A := At_of (ca := ca) (na := na) (ta := ⟨#[]⟩) (ea := 0) (p := p) (m := m) ((atR_in h hm hp).trans e1)
      have S := Step_one h hm (by omega) (by omega) e1
      unfold decErr at A S
      simp only at A S
      rw [hv] at A S
      by_cases q1 : q - p < 1
      · by_cases hc : ca = 0
        · subst hc
          exact ways_zero_low na p m q w htab (by omega) (by omega) (by omega) (by omega) q1 (by omega) R A S PL
        · exact ways_cls_low ca na p m q w htab (by omega) (by omega) (by omega) (by omega) hc q1 (by omega) R A S PL
      · by_cases q2 : 1000 < q - p
        · by_cases hc : ca = 0
          · subst hc
            exact ways_zero_high na p m q w htab (by omega) (by omega) (by omega) (by omega) q2 (by omega) R A S PL
          · exact ways_cls_high ca na p m q w htab (by omega) (by omega) (by omega) (by omega) hc q2 (by omega) R A S PL
        · have D := Digits_to h hm hq (by omega) (by omega) e1
          unfold decErr at D
          simp only at D
          rw [hv] at D
          by_cases hc : ca = 0
          · subst hc
            exact ways_zero_in na 0 na ⟨#[]⟩ 0 0 p m q w htab (by omega) (by omega) (by omega) (by omega) (by omega) (by omega) R A S PL D
          · exact ways_cls_in ca na ca na ⟨#[]⟩ 0 0 p m q w htab (by omega) (by omega) (by omega) (by omega) hc (by omega) (by omega) R A S PL D
    · have hl : bys ta ≠ [] := fun g => h0 (bys_nil.1 g)
      obtain rfl := may_cls0 h hl
      have hf : Fin ⟨0, na, bys ta, ea⟩ := may_fin (may_of h) hl
      by_cases hg : ea < p
      · obtain ⟨r, hr⟩ : ∃ r, rndD ⟨(0 : Int).toNat, na, bys ta, ea⟩ 1 p m.toNat = r := ⟨_, rfl⟩
        have A := At_of (ca := 0) (na := na) (ta := ta) (ea := ea) (p := p) (m := m) ((atR_in h hm hp).trans hr)
        have S := Step_one h hm (by omega) (by omega) hr
        by_cases q1 : q - p < 1
        · exact ways_gt_low na ta ea r.1.cls r.1.neg ⟨r.1.dig.toArray⟩ r.1.exp r.2 p m q w htab (by omega) (by omega) (by omega) (by omega) h0 hg q1 (by omega) R A S PL
        · by_cases q2 : 1000 < q - p
          · exact ways_gt_high na ta ea r.1.cls r.1.neg ⟨r.1.dig.toArray⟩ r.1.exp r.2 p m q w htab (by omega) (by omega) (by omega) (by omega) h0 hg q2 (by omega) R A S PL
          · exact ways_gt_in na ta ea r.1.cls r.1.neg ⟨r.1.dig.toArray⟩ r.1.exp r.2 p m q w htab (by omega) (by omega) (by omega) (by omega) h0 hg (by omega) (by omega) R A S PL (Digits_to h hm hq (by omega) (by omega) hr)
      · have hr : rndD ⟨(0 : Int).toNat, na, bys ta, ea⟩ 1 p m.toNat = (⟨0, na, bys ta, ea⟩, 0) := rndD_low hf (by show p ≤ ea; omega) _
        have hv : decVal ⟨0, na, bys ta, ea⟩ = dcV 0 na ta ea := by
          unfold decVal
          simp only
          rw [mk_bys]
          rfl
        have A := At_of (ca := 0) (na := na) (ta := ta) (ea := ea) (p := p) (m := m) ((atR_in h hm hp).trans hr)
        have S := Step_one h hm (by omega) (by omega) hr
        unfold decErr at A S
        simp only at A S
        rw [hv] at A S
        by_cases q1 : q - p < 1
        · exact ways_le_low na ta ea p m q w htab (by omega) (by omega) (by omega) (by omega) h0 (by omega) q1 (by omega) R A S PL
        · by_cases q2 : 1000 < q - p
          · exact ways_le_high na ta ea p m q w htab (by omega) (by omega) (by omega) (by omega) h0 (by omega) q2 (by omega) R A S PL
          · have D := Digits_to h hm hq (by omega) (by omega) hr
            unfold decErr at D
            simp only at D
            rw [hv] at D
            exact ways_le_in na ta ea p m q w htab (by omega) (by omega) (by omega) (by omega) h0 (by omega) (by omega) (by omega) R A S PL D
  · exact ways_no ca na ta ea p m w htab (fun W => rmay_no ca na ta ea W h)

end Go.Proofs.YtcclbcnmkaobpaaGreatDoor
