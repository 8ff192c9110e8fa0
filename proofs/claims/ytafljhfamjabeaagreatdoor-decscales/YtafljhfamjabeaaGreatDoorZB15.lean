/-
  The walk of DecScales.
-/
import Derived.Test.YtafljhfamjabeaaGreatDoorZB14
import Derived.Test.YtafljhfamjabeaaGreatDoorZB9
namespace Go.Proofs.YtafljhfamjabeaaGreatDoor
open Go.RowKit

theorem may_fin {c : Int} {n : Bool} {t : ByteArray} {e : Int} (h : MayD c n (bys t) e) (h0 : t.size ≠ 0) : c = 0 ∧ DigD (bys t) e := by
  rcases h with ⟨h1, h2⟩ | ⟨_, h1, _⟩ | ⟨_, _, h1, _⟩
  · rcases h2 with ⟨h2, _⟩ | h2
    · exact absurd (bys_nil.1 h2) h0
    · exact ⟨h1, h2⟩
  · exact absurd (bys_nil.1 h1) h0
  · exact absurd (bys_nil.1 h1) h0

theorem may_moved {c : Int} {n : Bool} {t : ByteArray} {e : Int} (h : MayD c n (bys t) e) (h0 : t.size ≠ 0) (k : Int) : MayD c n (bys t) (e + k) ↔ (-2000 ≤ (t.size : Int) + e + k ∧ (t.size : Int) + e + k ≤ 2000) := by
  obtain ⟨rfl, d1, d2, d3, d4, d5, d6, d7⟩ := may_fin h h0
  constructor
  · intro g
    obtain ⟨_, g1, g2, g3, g4, _⟩ := may_fin g h0
    rw [bys_len] at g3 g4
    omega
  · intro g
    refine .inl ⟨rfl, .inr ⟨d1, d2, ?_, ?_, d5, d6, d7⟩⟩
    · rw [bys_len]; omega
    · rw [bys_len]; omega

theorem dscales_walk (w : World) (htab : Tab w) (ca : Int) (na : Bool) (ta : ByteArray) (ea : Int) (k : Int) : Calls Tryz.prog 7 #[dcV ca na ta ea, .int .i64 k] w fun e w' => e = .returned (.bool true) ∧ Below w.heap.size w w' := by
  by_cases h : MayD ca na (bys ta) ea
  · by_cases h0 : ta.size = 0
    · obtain rfl := size_nil h0
      exact decScales_gen ca na ⟨#[]⟩ ea k ca na ⟨#[]⟩ ea 0 w htab (fun W _ => Scale_nil ca na ea k W h) (fun W _ => rScale_nil ca na ea k W h)
    · have mv := may_moved h h0 k
      have bd := may_bounds h
      by_cases h1 : k < -2000 - ((ta.size : Int) + ea)
      · refine decScales_gen ca na ta ea k 0 false ⟨#[]⟩ 0 51 w htab (fun W _ => Scale_low ca na ta ea k W h h0 h1) (fun W _ => ?_)
        by_cases h2 : k < -9999
        · exact rScale_low ca na ta ea k W h h0 h2
        · exact rScale_out ca na ta ea k W h h0 (by omega) (by have := (may_fin h h0).2; obtain ⟨_, _, d3, d4, _⟩ := this; rw [bys_len] at d3 d4; omega) (fun g => by have := mv.1 g; omega)
      · by_cases h2 : 2000 - ((ta.size : Int) + ea) < k
        · refine decScales_gen ca na ta ea k 0 false ⟨#[]⟩ 0 51 w htab (fun W _ => Scale_high ca na ta ea k W h h0 h2) (fun W _ => ?_)
          by_cases h3 : 9999 < k
          · exact rScale_high ca na ta ea k W h h0 h3
          · exact rScale_out ca na ta ea k W h h0 (by have := (may_fin h h0).2; obtain ⟨_, _, d3, d4, _⟩ := this; rw [bys_len] at d3 d4; omega) (by omega) (fun g => by have := mv.1 g; omega)
        · obtain ⟨_, d2, d3, d4, _⟩ := (may_fin h h0).2
          rw [bys_len] at d3 d4
          exact decScales_gen ca na ta ea k ca na ta (ea + k) 0 w htab (fun W _ => Scale_in ca na ta ea k W h h0 (by omega) (by omega)) (fun W _ => rScale_in ca na ta ea k W h h0 (by omega) (by omega) (mv.2 (by omega)))
  · exact decScales_gen ca na ta ea k 0 false ⟨#[]⟩ 0 52 w htab (fun W _ => Scale_no ca na ta ea k W h) (fun W _ => rScale_no ca na ta ea k W h)

end Go.Proofs.YtafljhfamjabeaaGreatDoor
