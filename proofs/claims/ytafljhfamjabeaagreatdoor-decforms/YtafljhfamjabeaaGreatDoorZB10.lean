/-
  The walk of DecForms.
-/
import Derived.Test.YtafljhfamjabeaaGreatDoorZB7
import Derived.Test.YtafljhfamjabeaaGreatDoorZB9
namespace Go.Proofs.YtafljhfamjabeaaGreatDoor
open Go.RowKit

set_option maxRecDepth 100000 in
set_option maxHeartbeats 2000000 in
theorem forms_true (ca : Int) (na : Bool) (ta : ByteArray) (ea : Int) (p : Int) (w : World) (htab : Tab w) (h1 : ∀ W, Calls Tryz.prog 14 #[dcV ca na ta ea] W fun e w' => e = .returned (.bool true) ∧ Below W.heap.size W w') (h2 : ∀ W, Calls Tryz.prog 15 #[dcV ca na ta ea] W fun e w' => e = .returned (.bool true) ∧ Below W.heap.size W w') (h3 : ∀ W, Calls Tryz.prog 16 #[dcV ca na ta ea] W fun e w' => e = .returned (.int .i64 p) ∧ Below W.heap.size W w') (h4 : ∀ W, Calls Tryz.prog 17 #[dcV ca na ta ea] W fun e w' => e = .returned (.int .i64 p) ∧ Below W.heap.size W w') : Calls Tryz.prog 3 #[dcV ca na ta ea] w fun e w' => e = .returned (.bool true) ∧ Below w.heap.size w w' := by
  have H1 := hide h1
  have H2 := hide h2
  have H3 := hide h3
  have H4 := hide h4
  have HT := hide htab
  clear h1 h2 h3 h4 htab
  have Ba0 := hide (Blk.newAt w (w.heap.size) (rfl) #[.int .i64 ca, .bool na, .string ta, .int .i64 ea] 23)
  have HB0 : Hid (Below w.heap.size w (w.alloc (.cells #[.int .i64 ca, .bool na, .string ta, .int .i64 ea] 23))) := ((Below.refl _ _).alloc (Nat.le_refl _) _)
  have HTW := hide (HT.out.below HB0.out)
  obtain ⟨W, hW⟩ : ∃ W, W = (w.alloc (.cells #[.int .i64 ca, .bool na, .string ta, .int .i64 ea] 23)) := ⟨_, rfl⟩
  rw [← hW] at HB0 Ba0 HTW
  have HW := hide hW
  clear hW
  have ya0 : W.cell? ⟨w.heap.size, 0, none⟩ = some (.int .i64 ca) := Ba0.out.cell 0
  have ya1 : W.cell? ⟨w.heap.size, 1, none⟩ = some (.bool na) := Ba0.out.cell 1
  have ya2 : W.cell? ⟨w.heap.size, 2, none⟩ = some (.string ta) := Ba0.out.cell 2
  have ya3 : W.cell? ⟨w.heap.size, 3, none⟩ = some (.int .i64 ea) := Ba0.out.cell 3
  clear HT
  go_enter Tryz.func3, Tryz.ntmps3
  have b0 : Hid (Below W.heap.size W W.drew) := bdrewD W
  have C0 : Hid (∀ X, Hid (Below W.heap.size W X) → Calls Tryz.prog 13 #[] X fun e w' => e = .returned (.bool true) ∧ Hid (Below W.heap.size W w') ∧ w'.cell? ⟨w.heap.size, 0, none⟩ = some (.int .i64 ca) ∧ w'.cell? ⟨w.heap.size, 1, none⟩ = some (.bool na) ∧ w'.cell? ⟨w.heap.size, 2, none⟩ = some (.string ta) ∧ w'.cell? ⟨w.heap.size, 3, none⟩ = some (.int .i64 ea)) := by
    intro X bX
    refine (dawake_any X (HTW.out.below bX.out)).mono ?_
    rintro e w' ⟨rfl, hb⟩
    have bb := bX.out.trans (hb.mono bX.out.size)
    have Baq := Ba0.out.below bb Ba0.out.lt
    exact ⟨rfl, bb, Baq.cell 0, Baq.cell 1, Baq.cell 2, Baq.cell 3⟩
  have C1 : Hid (∀ X, Hid (Below W.heap.size W X) → Calls Tryz.prog 14 #[dcV ca na ta ea] X fun e w' => e = .returned (.bool true) ∧ Hid (Below W.heap.size W w') ∧ w'.cell? ⟨w.heap.size, 0, none⟩ = some (.int .i64 ca) ∧ w'.cell? ⟨w.heap.size, 1, none⟩ = some (.bool na) ∧ w'.cell? ⟨w.heap.size, 2, none⟩ = some (.string ta) ∧ w'.cell? ⟨w.heap.size, 3, none⟩ = some (.int .i64 ea)) := by
    intro X bX
    refine (H1.out X).mono ?_
    rintro e w' ⟨rfl, hb⟩
    have bb := bX.out.trans (hb.mono bX.out.size)
    have Baq := Ba0.out.below bb Ba0.out.lt
    exact ⟨rfl, bb, Baq.cell 0, Baq.cell 1, Baq.cell 2, Baq.cell 3⟩
  have C2 : Hid (∀ X, Hid (Below W.heap.size W X) → Calls Tryz.prog 15 #[dcV ca na ta ea] X fun e w' => e = .returned (.bool true) ∧ Hid (Below W.heap.size W w') ∧ w'.cell? ⟨w.heap.size, 0, none⟩ = some (.int .i64 ca) ∧ w'.cell? ⟨w.heap.size, 1, none⟩ = some (.bool na) ∧ w'.cell? ⟨w.heap.size, 2, none⟩ = some (.string ta) ∧ w'.cell? ⟨w.heap.size, 3, none⟩ = some (.int .i64 ea)) := by
    intro X bX
    refine (H2.out X).mono ?_
    rintro e w' ⟨rfl, hb⟩
    have bb := bX.out.trans (hb.mono bX.out.size)
    have Baq := Ba0.out.below bb Ba0.out.lt
    exact ⟨rfl, bb, Baq.cell 0, Baq.cell 1, Baq.cell 2, Baq.cell 3⟩
  have C3 : Hid (∀ X, Hid (Below W.heap.size W X) → Calls Tryz.prog 16 #[dcV ca na ta ea] X fun e w' => e = .returned (.int .i64 p) ∧ Hid (Below W.heap.size W w') ∧ w'.cell? ⟨w.heap.size, 0, none⟩ = some (.int .i64 ca) ∧ w'.cell? ⟨w.heap.size, 1, none⟩ = some (.bool na) ∧ w'.cell? ⟨w.heap.size, 2, none⟩ = some (.string ta) ∧ w'.cell? ⟨w.heap.size, 3, none⟩ = some (.int .i64 ea)) := by
    intro X bX
    refine (H3.out X).mono ?_
    rintro e w' ⟨rfl, hb⟩
    have bb := bX.out.trans (hb.mono bX.out.size)
    have Baq := Ba0.out.below bb Ba0.out.lt
    exact ⟨rfl, bb, Baq.cell 0, Baq.cell 1, Baq.cell 2, Baq.cell 3⟩
  have C4 : Hid (∀ X, Hid (Below W.heap.size W X) → Calls Tryz.prog 17 #[dcV ca na ta ea] X fun e w' => e = .returned (.int .i64 p) ∧ Hid (Below W.heap.size W w') ∧ w'.cell? ⟨w.heap.size, 0, none⟩ = some (.int .i64 ca) ∧ w'.cell? ⟨w.heap.size, 1, none⟩ = some (.bool na) ∧ w'.cell? ⟨w.heap.size, 2, none⟩ = some (.string ta) ∧ w'.cell? ⟨w.heap.size, 3, none⟩ = some (.int .i64 ea)) := by
    intro X bX
    refine (H4.out X).mono ?_
    rintro e w' ⟨rfl, hb⟩
    have bb := bX.out.trans (hb.mono bX.out.size)
    have Baq := Ba0.out.below bb Ba0.out.lt
    exact ⟨rfl, bb, Baq.cell 0, Baq.cell 1, Baq.cell 2, Baq.cell 3⟩
  go_wp2_with fail
  simp only [← HW.out]
  have mk0 : True := trivial
  go_region_held3 (fun w' => w'.cell? ⟨w.heap.size, 0, none⟩ = some (.int .i64 ca) ∧ w'.cell? ⟨w.heap.size, 1, none⟩ = some (.bool na) ∧ w'.cell? ⟨w.heap.size, 2, none⟩ = some (.string ta) ∧ w'.cell? ⟨w.heap.size, 3, none⟩ = some (.int .i64 ea)) (go_keep) (first
    | (clear mk0; go_at_call 13; refine (C0.out _ b0).mono ?_; rintro e w1 ⟨rfl, b1, q0_0, q0_1, q0_2, q0_3⟩; have mk1 : True := trivial)
    | (clear mk1; go_at_call 14; refine (C1.out _ b1).mono ?_; rintro e w2 ⟨rfl, b2, q1_0, q1_1, q1_2, q1_3⟩; have mk2 : True := trivial)
    | (clear mk2; go_at_call 15; refine (C2.out _ b2).mono ?_; rintro e w3 ⟨rfl, b3, q2_0, q2_1, q2_2, q2_3⟩; have mk3 : True := trivial)
    | (clear mk3; go_at_call 16; refine (C3.out _ b3).mono ?_; rintro e w4 ⟨rfl, b4, q3_0, q3_1, q3_2, q3_3⟩; have mk4 : True := trivial)
    | (clear mk4; go_at_call 17; refine (C4.out _ b4).mono ?_; rintro e w5 ⟨rfl, b5, q4_0, q4_1, q4_2, q4_3⟩; have mk5 : True := trivial))
  have Ba5 := hide (Ba0.out.below b5.out Ba0.out.lt)
  have HB5 := hide (HB0.out.trans (b5.out.mono HB0.out.size))
  clear mk5 b0 b1 b2 b3 b4 b5 C0 C1 C2 C3 C4 q0_0 q0_1 q0_2 q0_3 q1_0 q1_1 q1_2 q1_3 q2_0 q2_1 q2_2 q2_3 q3_0 q3_1 q3_2 q3_3 q4_0 q4_1 q4_2 q4_3 Ba0 HB0 ya0 ya1 ya2 ya3
  have ya0 : w5.cell? ⟨w.heap.size, 0, none⟩ = some (.int .i64 ca) := Ba5.out.cell 0
  have ya1 : w5.cell? ⟨w.heap.size, 1, none⟩ = some (.bool na) := Ba5.out.cell 1
  have ya2 : w5.cell? ⟨w.heap.size, 2, none⟩ = some (.string ta) := Ba5.out.cell 2
  have ya3 : w5.cell? ⟨w.heap.size, 3, none⟩ = some (.int .i64 ea) := Ba5.out.cell 3
  go_wp2
  go_ret
  exact ⟨rfl, HB5.out⟩

set_option maxRecDepth 100000 in
set_option maxHeartbeats 2000000 in
theorem forms_false (ca : Int) (na : Bool) (ta : ByteArray) (ea : Int) (p : Int) (w : World) (htab : Tab w) (h1 : ∀ W, Calls Tryz.prog 14 #[dcV ca na ta ea] W fun e w' => e = .returned (.bool false) ∧ Below W.heap.size W w') (h2 : ∀ W, Calls Tryz.prog 15 #[dcV ca na ta ea] W fun e w' => e = .returned (.bool false) ∧ Below W.heap.size W w') (h3 : ∀ W, Calls Tryz.prog 16 #[dcV ca na ta ea] W fun e w' => e = .returned (.int .i64 p) ∧ Below W.heap.size W w') (h4 : ∀ W, Calls Tryz.prog 17 #[dcV ca na ta ea] W fun e w' => e = .returned (.int .i64 p) ∧ Below W.heap.size W w') : Calls Tryz.prog 3 #[dcV ca na ta ea] w fun e w' => e = .returned (.bool true) ∧ Below w.heap.size w w' := by
  have H1 := hide h1
  have H2 := hide h2
  have H3 := hide h3
  have H4 := hide h4
  have HT := hide htab
  clear h1 h2 h3 h4 htab
  have Ba0 := hide (Blk.newAt w (w.heap.size) (rfl) #[.int .i64 ca, .bool na, .string ta, .int .i64 ea] 23)
  have HB0 : Hid (Below w.heap.size w (w.alloc (.cells #[.int .i64 ca, .bool na, .string ta, .int .i64 ea] 23))) := ((Below.refl _ _).alloc (Nat.le_refl _) _)
  have HTW := hide (HT.out.below HB0.out)
  obtain ⟨W, hW⟩ : ∃ W, W = (w.alloc (.cells #[.int .i64 ca, .bool na, .string ta, .int .i64 ea] 23)) := ⟨_, rfl⟩
  rw [← hW] at HB0 Ba0 HTW
  have HW := hide hW
  clear hW
  have ya0 : W.cell? ⟨w.heap.size, 0, none⟩ = some (.int .i64 ca) := Ba0.out.cell 0
  have ya1 : W.cell? ⟨w.heap.size, 1, none⟩ = some (.bool na) := Ba0.out.cell 1
  have ya2 : W.cell? ⟨w.heap.size, 2, none⟩ = some (.string ta) := Ba0.out.cell 2
  have ya3 : W.cell? ⟨w.heap.size, 3, none⟩ = some (.int .i64 ea) := Ba0.out.cell 3
  clear HT
  go_enter Tryz.func3, Tryz.ntmps3
  have b0 : Hid (Below W.heap.size W W.drew) := bdrewD W
  have C0 : Hid (∀ X, Hid (Below W.heap.size W X) → Calls Tryz.prog 13 #[] X fun e w' => e = .returned (.bool true) ∧ Hid (Below W.heap.size W w') ∧ w'.cell? ⟨w.heap.size, 0, none⟩ = some (.int .i64 ca) ∧ w'.cell? ⟨w.heap.size, 1, none⟩ = some (.bool na) ∧ w'.cell? ⟨w.heap.size, 2, none⟩ = some (.string ta) ∧ w'.cell? ⟨w.heap.size, 3, none⟩ = some (.int .i64 ea)) := by
    intro X bX
    refine (dawake_any X (HTW.out.below bX.out)).mono ?_
    rintro e w' ⟨rfl, hb⟩
    have bb := bX.out.trans (hb.mono bX.out.size)
    have Baq := Ba0.out.below bb Ba0.out.lt
    exact ⟨rfl, bb, Baq.cell 0, Baq.cell 1, Baq.cell 2, Baq.cell 3⟩
  have C1 : Hid (∀ X, Hid (Below W.heap.size W X) → Calls Tryz.prog 14 #[dcV ca na ta ea] X fun e w' => e = .returned (.bool false) ∧ Hid (Below W.heap.size W w') ∧ w'.cell? ⟨w.heap.size, 0, none⟩ = some (.int .i64 ca) ∧ w'.cell? ⟨w.heap.size, 1, none⟩ = some (.bool na) ∧ w'.cell? ⟨w.heap.size, 2, none⟩ = some (.string ta) ∧ w'.cell? ⟨w.heap.size, 3, none⟩ = some (.int .i64 ea)) := by
    intro X bX
    refine (H1.out X).mono ?_
    rintro e w' ⟨rfl, hb⟩
    have bb := bX.out.trans (hb.mono bX.out.size)
    have Baq := Ba0.out.below bb Ba0.out.lt
    exact ⟨rfl, bb, Baq.cell 0, Baq.cell 1, Baq.cell 2, Baq.cell 3⟩
  have C2 : Hid (∀ X, Hid (Below W.heap.size W X) → Calls Tryz.prog 15 #[dcV ca na ta ea] X fun e w' => e = .returned (.bool false) ∧ Hid (Below W.heap.size W w') ∧ w'.cell? ⟨w.heap.size, 0, none⟩ = some (.int .i64 ca) ∧ w'.cell? ⟨w.heap.size, 1, none⟩ = some (.bool na) ∧ w'.cell? ⟨w.heap.size, 2, none⟩ = some (.string ta) ∧ w'.cell? ⟨w.heap.size, 3, none⟩ = some (.int .i64 ea)) := by
    intro X bX
    refine (H2.out X).mono ?_
    rintro e w' ⟨rfl, hb⟩
    have bb := bX.out.trans (hb.mono bX.out.size)
    have Baq := Ba0.out.below bb Ba0.out.lt
    exact ⟨rfl, bb, Baq.cell 0, Baq.cell 1, Baq.cell 2, Baq.cell 3⟩
  have C3 : Hid (∀ X, Hid (Below W.heap.size W X) → Calls Tryz.prog 16 #[dcV ca na ta ea] X fun e w' => e = .returned (.int .i64 p) ∧ Hid (Below W.heap.size W w') ∧ w'.cell? ⟨w.heap.size, 0, none⟩ = some (.int .i64 ca) ∧ w'.cell? ⟨w.heap.size, 1, none⟩ = some (.bool na) ∧ w'.cell? ⟨w.heap.size, 2, none⟩ = some (.string ta) ∧ w'.cell? ⟨w.heap.size, 3, none⟩ = some (.int .i64 ea)) := by
    intro X bX
    refine (H3.out X).mono ?_
    rintro e w' ⟨rfl, hb⟩
    have bb := bX.out.trans (hb.mono bX.out.size)
    have Baq := Ba0.out.below bb Ba0.out.lt
    exact ⟨rfl, bb, Baq.cell 0, Baq.cell 1, Baq.cell 2, Baq.cell 3⟩
  have C4 : Hid (∀ X, Hid (Below W.heap.size W X) → Calls Tryz.prog 17 #[dcV ca na ta ea] X fun e w' => e = .returned (.int .i64 p) ∧ Hid (Below W.heap.size W w') ∧ w'.cell? ⟨w.heap.size, 0, none⟩ = some (.int .i64 ca) ∧ w'.cell? ⟨w.heap.size, 1, none⟩ = some (.bool na) ∧ w'.cell? ⟨w.heap.size, 2, none⟩ = some (.string ta) ∧ w'.cell? ⟨w.heap.size, 3, none⟩ = some (.int .i64 ea)) := by
    intro X bX
    refine (H4.out X).mono ?_
    rintro e w' ⟨rfl, hb⟩
    have bb := bX.out.trans (hb.mono bX.out.size)
    have Baq := Ba0.out.below bb Ba0.out.lt
    exact ⟨rfl, bb, Baq.cell 0, Baq.cell 1, Baq.cell 2, Baq.cell 3⟩
  go_wp2_with fail
  simp only [← HW.out]
  have mk0 : True := trivial
  go_region_held3 (fun w' => w'.cell? ⟨w.heap.size, 0, none⟩ = some (.int .i64 ca) ∧ w'.cell? ⟨w.heap.size, 1, none⟩ = some (.bool na) ∧ w'.cell? ⟨w.heap.size, 2, none⟩ = some (.string ta) ∧ w'.cell? ⟨w.heap.size, 3, none⟩ = some (.int .i64 ea)) (go_keep) (first
    | (clear mk0; go_at_call 13; refine (C0.out _ b0).mono ?_; rintro e w1 ⟨rfl, b1, q0_0, q0_1, q0_2, q0_3⟩; have mk1 : True := trivial)
    | (clear mk1; go_at_call 14; refine (C1.out _ b1).mono ?_; rintro e w2 ⟨rfl, b2, q1_0, q1_1, q1_2, q1_3⟩; have mk2 : True := trivial)
    | (clear mk2; go_at_call 15; refine (C2.out _ b2).mono ?_; rintro e w3 ⟨rfl, b3, q2_0, q2_1, q2_2, q2_3⟩; have mk3 : True := trivial)
    | (clear mk3; go_at_call 16; refine (C3.out _ b3).mono ?_; rintro e w4 ⟨rfl, b4, q3_0, q3_1, q3_2, q3_3⟩; have mk4 : True := trivial)
    | (clear mk4; go_at_call 17; refine (C4.out _ b4).mono ?_; rintro e w5 ⟨rfl, b5, q4_0, q4_1, q4_2, q4_3⟩; have mk5 : True := trivial))
  have Ba5 := hide (Ba0.out.below b5.out Ba0.out.lt)
  have HB5 := hide (HB0.out.trans (b5.out.mono HB0.out.size))
  clear mk5 b0 b1 b2 b3 b4 b5 C0 C1 C2 C3 C4 q0_0 q0_1 q0_2 q0_3 q1_0 q1_1 q1_2 q1_3 q2_0 q2_1 q2_2 q2_3 q3_0 q3_1 q3_2 q3_3 q4_0 q4_1 q4_2 q4_3 Ba0 HB0 ya0 ya1 ya2 ya3
  have ya0 : w5.cell? ⟨w.heap.size, 0, none⟩ = some (.int .i64 ca) := Ba5.out.cell 0
  have ya1 : w5.cell? ⟨w.heap.size, 1, none⟩ = some (.bool na) := Ba5.out.cell 1
  have ya2 : w5.cell? ⟨w.heap.size, 2, none⟩ = some (.string ta) := Ba5.out.cell 2
  have ya3 : w5.cell? ⟨w.heap.size, 3, none⟩ = some (.int .i64 ea) := Ba5.out.cell 3
  go_wp2
  go_ret
  exact ⟨rfl, HB5.out⟩

theorem dforms_walk (w : World) (htab : Tab w) (ca : Int) (na : Bool) (ta : ByteArray) (ea : Int) : Calls Tryz.prog 3 #[dcV ca na ta ea] w fun e w' => e = .returned (.bool true) ∧ Below w.heap.size w w' := by
  by_cases h : MayD ca na (bys ta) ea
  · by_cases h0 : ta.size = 0
    · obtain rfl := size_nil h0
      have he : ea = 0 := by
        rcases h with ⟨_, ⟨_, h⟩ | ⟨h, _⟩⟩ | ⟨_, _, h⟩ | ⟨_, _, _, h⟩
        · exact h
        · exact absurd rfl h
        · exact h
        · exact h
      subst he
      exact forms_true ca na ⟨#[]⟩ 0 0 w htab (fun W => dmay_yes ca na ⟨#[]⟩ 0 W h) (fun W => rmay_yes ca na ⟨#[]⟩ 0 W h) (fun W => Place_yes ca na ⟨#[]⟩ 0 W h) (fun W => rPlace_nil ca na 0 W h)
    · exact forms_true ca na ta ea _ w htab (fun W => dmay_yes ca na ta ea W h) (fun W => rmay_yes ca na ta ea W h) (fun W => Place_yes ca na ta ea W h) (fun W => rPlace_fin ca na ta ea W h h0)
  · exact forms_false ca na ta ea 0 w htab (fun W => dmay_no ca na ta ea W h) (fun W => rmay_no ca na ta ea W h) (fun W => Place_no ca na ta ea W h) (fun W => rPlace_no ca na ta ea W h)

end Go.Proofs.YtafljhfamjabeaaGreatDoor
