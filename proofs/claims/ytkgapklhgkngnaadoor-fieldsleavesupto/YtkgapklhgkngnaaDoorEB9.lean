/-
  awake of chapter 17.
  FieldsTrue answers true, whatever it is handed: the law's walk.
  An argument that is a list of pieces, as a row of the given statements hands it over, and how much its texts hold together.
  Arguments that are a list of fields and places, or an Out, as a row of the given statements hands them over.
  An argument that is an Out, or a field and two places, as a row of the given statements hands it over.
-/
import Derived.Test.YtkgapklhgkngnaaDoorEB4
import Derived.Test.YtkgapklhgkngnaaDoorEB8
import Derived.Test.YtkgapklhgkngnaaDoorEB7
import Derived.Deep.AppendLies
import Derived.Test.YtkgapklhgkngnaaDoorEB1
import Derived.SizedLaws
import Derived.ChangeSame
import Derived.Deep.SlicePairs
namespace Go.Proofs.YtkgapklhgkngnaaDoor
open Go.RowKit

attribute [local go_sem ↓] Go.wp_at_zero Go.wp_at_succ

def aP : List Pe := [⟨⟨#[45]⟩, 1⟩, ⟨⟨#[49]⟩, 2⟩, ⟨⟨#[44]⟩, 3⟩, ⟨⟨#[50, 51, 52]⟩, 2⟩, ⟨⟨#[46]⟩, 4⟩, ⟨⟨#[53]⟩, 5⟩]
def aS : List Sp := [⟨1, 0, 1⟩, ⟨2, 1, 6⟩, ⟨3, 2, 3⟩, ⟨4, 6, 7⟩, ⟨5, 7, 8⟩]
def aW : List Sp := ⟨17, 0, 8⟩ :: aS
theorem aBld : (bldP aP).1 = [45, 49, 44, 50, 51, 52, 46, 53] ∧ ordS (bldP aP).2 = aS ∧ (bldP aP).2.length = 5 := by
  refine ⟨by kernel_rfl, ?_, by kernel_rfl⟩
  kernel_rfl
theorem aUnf : aP.any unfB = false := by kernel_rfl
theorem aUnf2 : ([⟨⟨#[]⟩, 18⟩] : List Pe).any unfB = true := by kernel_rfl
theorem aMay : mayB ⟨#[45, 49, 44, 50, 51, 52, 46, 53]⟩ aS = true := by kernel_rfl
theorem aMayW : mayB ⟨#[45, 49, 44, 50, 51, 52, 46, 53]⟩ (wrapL aS ⟨17, 0, 8⟩) = true := by kernel_rfl
theorem aWrp : wrapL aS ⟨17, 0, 8⟩ = aW := by kernel_rfl
theorem aLvs : leavesP ⟨#[45, 49, 44, 50, 51, 52, 46, 53]⟩ aS = aP := by kernel_rfl

theorem pevBlk {w : World} {g : Nat} {cs : Array Value} {l : List Pe} (h : Blk w g cs 50) (hc : cs.toList = cellsP l) : PeV w (.slice (some ⟨g, 0, none⟩) l.length l.length) l :=
  PeV.some g 0 _ rfl (Nat.le_refl _) h.lt (fun i hi => by
    obtain ⟨a0, a1⟩ := cellsP_at l i hi
    rw [Nat.zero_add, h.cell, h.cell, ← Array.getElem?_toList, ← Array.getElem?_toList, hc]
    exact ⟨a0, a1⟩)
theorem spvBlk {w : World} {g : Nat} {cs : Array Value} {l : List Sp} (h : Blk w g cs 31) (hc : cs.toList = cellsS l) : SpV w (.slice (some ⟨g, 0, none⟩) l.length l.length) l :=
  SpV.some g 0 _ rfl (Nat.le_refl _) h.lt (fun i hi => by
    obtain ⟨a0, a1, a2⟩ := cellsS_at l i hi
    rw [Nat.zero_add, h.cell, h.cell, h.cell, ← Array.getElem?_toList, ← Array.getElem?_toList, ← Array.getElem?_toList, hc]
    exact ⟨a0, a1, a2⟩)
theorem alloc4 (w : World) (a b c d : Array Value) (ta tb tc td : TypeId) :
    Blk ((((w.alloc (.cells a ta)).alloc (.cells b tb)).alloc (.cells c tc)).alloc (.cells d td)) w.heap.size a ta ∧ Blk ((((w.alloc (.cells a ta)).alloc (.cells b tb)).alloc (.cells c tc)).alloc (.cells d td)) (w.heap.size + 1) b tb ∧ Blk ((((w.alloc (.cells a ta)).alloc (.cells b tb)).alloc (.cells c tc)).alloc (.cells d td)) (w.heap.size + 1 + 1) c tc ∧ Blk ((((w.alloc (.cells a ta)).alloc (.cells b tb)).alloc (.cells c tc)).alloc (.cells d td)) (w.heap.size + 1 + 1 + 1) d td ∧ Below w.heap.size w ((((w.alloc (.cells a ta)).alloc (.cells b tb)).alloc (.cells c tc)).alloc (.cells d td)) := by
  obtain ⟨W1, h1⟩ : ∃ W1, W1 = w.alloc (.cells a ta) := ⟨_, rfl⟩
  obtain ⟨W2, h2⟩ : ∃ W2, W2 = W1.alloc (.cells b tb) := ⟨_, rfl⟩
  obtain ⟨W3, h3⟩ : ∃ W3, W3 = W2.alloc (.cells c tc) := ⟨_, rfl⟩
  obtain ⟨W4, h4⟩ : ∃ W4, W4 = W3.alloc (.cells d td) := ⟨_, rfl⟩
  have s1 : W1.heap.size = w.heap.size + 1 := by rw [h1]; exact allocW_size ..
  have s2 : W2.heap.size = w.heap.size + 1 + 1 := by rw [h2, allocW_size, s1]
  have s3 : W3.heap.size = w.heap.size + 1 + 1 + 1 := by rw [h3, allocW_size, s2]
  have b1 : Below w.heap.size w W1 := by rw [h1]; exact (Below.refl _ _).alloc (Nat.le_refl _) _
  have b2 : Below W1.heap.size W1 W2 := by rw [h2]; exact (Below.refl _ _).alloc (Nat.le_refl _) _
  have b3 : Below W2.heap.size W2 W3 := by rw [h3]; exact (Below.refl _ _).alloc (Nat.le_refl _) _
  have b4 : Below W3.heap.size W3 W4 := by rw [h4]; exact (Below.refl _ _).alloc (Nat.le_refl _) _
  have k1 : Blk W1 w.heap.size a ta := by rw [h1]; exact Blk.newAt w _ rfl _ _
  have k2 : Blk W2 (w.heap.size + 1) b tb := by rw [h2]; exact Blk.newAt W1 _ s1 _ _
  have k3 : Blk W3 (w.heap.size + 1 + 1) c tc := by rw [h3]; exact Blk.newAt W2 _ s2 _ _
  have k4 : Blk W4 (w.heap.size + 1 + 1 + 1) d td := by rw [h4]; exact Blk.newAt W3 _ s3 _ _
  have j2 := k1.below b2 k1.lt
  have j3 := j2.below b3 j2.lt
  have l3 := k2.below b3 k2.lt
  subst h1 h2 h3 h4
  exact ⟨j3.below b4 j3.lt, l3.below b4 l3.lt, k3.below b4 k3.lt, k4, b1.trans ((b2.mono b1.size).trans ((b3.mono (Nat.le_trans b1.size b2.size)).trans (b4.mono (Nat.le_trans b1.size (Nat.le_trans b2.size b3.size)))))⟩
theorem pe_eqlF (s : Pe) (W : World) : (binOp .eql 50 (.agg #[.string s.t, .int .i64 s.f]) (.agg #[.string s.t, .int .i64 s.f])).run Tryd.prog W = .ok (.bool true) W := by
  simp [go_sem, Tryd.underlying50, Tryd.underlying3, Tryd.underlying9, Program.fieldsOf]
theorem aSm : SmP aP := by
  intro p hp
  unfold aP at hp
  simp only [List.mem_cons, List.not_mem_nil, or_false] at hp
  rcases hp with rfl | rfl | rfl | rfl | rfl | rfl <;> decide
theorem aSm2 : SmP [⟨⟨#[]⟩, 18⟩] := by
  intro p hp
  simp only [List.mem_cons, List.not_mem_nil, or_false] at hp
  rcases hp with rfl
  decide
theorem aSpVo {B : Nat} {w : World} {uo : Option Addr} {uc : Nat} (h : OwnS B w (.slice uo 5 uc) aS) : SpV w (.slice uo 5 uc) aS := h.spv
theorem aBuild (X : World) (g : Nat) (hT : U8 X) (h : Blk X g #[.string ⟨#[45]⟩, .int .i64 1, .string ⟨#[49]⟩, .int .i64 2, .string ⟨#[44]⟩, .int .i64 3, .string ⟨#[50, 51, 52]⟩, .int .i64 2, .string ⟨#[46]⟩, .int .i64 4, .string ⟨#[53]⟩, .int .i64 5] 50) :
    Calls Tryd.prog 8 #[.slice (some ⟨g, 0, none⟩) 6 6] X fun e w' => Hid (∃ uo uc, e = .returned (.tuple #[.agg #[.string ⟨#[45, 49, 44, 50, 51, 52, 46, 53]⟩, .slice uo 5 uc], .int .i64 0]) ∧ OwnS X.heap.size w' (.slice uo 5 uc) aS) ∧ Below X.heap.size X w' := by
  have q := Build_yes (.slice (some ⟨g, 0, none⟩) 6 6) aP X hT (pevBlk (l := aP) h rfl) (by decide) aSm (by decide) aUnf
  rw [aBld.1, aBld.2.1, aBld.2.2] at q
  exact q
theorem aBuild2 (X : World) (g : Nat) (hT : U8 X) (h : Blk X g #[.string ⟨#[]⟩, .int .i64 18] 50) :
    Calls Tryd.prog 8 #[.slice (some ⟨g, 0, none⟩) 1 1] X fun e w' => e = .returned (.tuple #[.agg #[.string ⟨#[]⟩, .slice none 0 0], .int .i64 170]) ∧ Below X.heap.size X w' :=
  Build_no (.slice (some ⟨g, 0, none⟩) 1 1) [⟨⟨#[]⟩, 18⟩] X hT (pevBlk (l := [⟨⟨#[]⟩, 18⟩]) h rfl) (by decide) aSm2 aUnf2
theorem aWrap (X : World) (g : Nat) (hT : U8 X) (h : Blk X g #[.int .i64 1, .int .i64 0, .int .i64 1, .int .i64 2, .int .i64 1, .int .i64 6, .int .i64 3, .int .i64 2, .int .i64 3, .int .i64 4, .int .i64 6, .int .i64 7, .int .i64 5, .int .i64 7, .int .i64 8] 31) :
    Calls Tryd.prog 13 #[.agg #[.string ⟨#[45, 49, 44, 50, 51, 52, 46, 53]⟩, .slice (some ⟨g, 0, none⟩) 5 5], .int .i64 17, .int .i64 0, .int .i64 8] X fun e w' => Hid (∃ uo uc, e = .returned (.tuple #[.agg #[.string ⟨#[45, 49, 44, 50, 51, 52, 46, 53]⟩, .slice uo 6 uc], .int .i64 0]) ∧ OwnS X.heap.size w' (.slice uo 6 uc) aW) ∧ Below X.heap.size X w' := by
  have q := Wrap_yes ⟨#[45, 49, 44, 50, 51, 52, 46, 53]⟩ (.slice (some ⟨g, 0, none⟩) 5 5) aS ⟨17, 0, 8⟩ X hT (by decide) (spvBlk (l := aS) h rfl) (.inr ⟨_, _, _, rfl⟩) (by decide) aMay aMayW
  rw [aWrp] at q
  exact q
theorem aLeaves (X : World) (g : Nat) (hT : U8 X) (h : Blk X g #[.int .i64 1, .int .i64 0, .int .i64 1, .int .i64 2, .int .i64 1, .int .i64 6, .int .i64 3, .int .i64 2, .int .i64 3, .int .i64 4, .int .i64 6, .int .i64 7, .int .i64 5, .int .i64 7, .int .i64 8] 31) :
    Calls Tryd.prog 18 #[.agg #[.string ⟨#[45, 49, 44, 50, 51, 52, 46, 53]⟩, .slice (some ⟨g, 0, none⟩) 5 5]] X fun e w' => Hid (∃ uo uc, e = .returned (.tuple #[.slice uo 6 uc, .int .i64 0]) ∧ OwnP X.heap.size w' (.slice uo 6 uc) aP) ∧ Below X.heap.size X w' := by
  have q := Leaves_yes ⟨#[45, 49, 44, 50, 51, 52, 46, 53]⟩ (.slice (some ⟨g, 0, none⟩) 5 5) aS X hT (by decide) (spvBlk (l := aS) h rfl) (by decide) aMay
  rw [aLvs] at q
  exact q
theorem aCheck (X : World) (g : Nat) (hT : U8 X) (h : Blk X g #[.int .i64 1, .int .i64 0, .int .i64 1, .int .i64 2, .int .i64 1, .int .i64 6, .int .i64 3, .int .i64 2, .int .i64 3, .int .i64 4, .int .i64 6, .int .i64 7, .int .i64 5, .int .i64 7, .int .i64 8] 31) :
    Calls Tryd.prog 15 #[.agg #[.string ⟨#[45, 49, 44, 50, 51, 52, 46, 53]⟩, .slice (some ⟨g, 0, none⟩) 5 5]] X fun e w' => e = .returned (.int .i64 0) ∧ Below X.heap.size X w' := by
  have q := Check_any ⟨#[45, 49, 44, 50, 51, 52, 46, 53]⟩ (.slice (some ⟨g, 0, none⟩) 5 5) aS X hT (by decide) (spvBlk (l := aS) h rfl) (by decide)
  rw [aMay] at q
  exact q
theorem aSame (X : World) (g B : Nat) (uo : Option Addr) (uc : Nat) (ho : OwnS B X (.slice uo 5 uc) aS) (h : Blk X g #[.int .i64 1, .int .i64 0, .int .i64 1, .int .i64 2, .int .i64 1, .int .i64 6, .int .i64 3, .int .i64 2, .int .i64 3, .int .i64 4, .int .i64 6, .int .i64 7, .int .i64 5, .int .i64 7, .int .i64 8] 31) :
    Calls Tryd.prog 10 #[.agg #[.string ⟨#[45, 49, 44, 50, 51, 52, 46, 53]⟩, .slice uo 5 uc], .agg #[.string ⟨#[45, 49, 44, 50, 51, 52, 46, 53]⟩, .slice (some ⟨g, 0, none⟩) 5 5]] X fun e w' => e = .returned (.bool true) ∧ Below X.heap.size X w' :=
  Same_true ⟨#[45, 49, 44, 50, 51, 52, 46, 53]⟩ _ _ aS X (aSpVo ho) (spvBlk (l := aS) h rfl) (by decide)

set_option maxRecDepth 100000 in
set_option maxHeartbeats 4000000 in
theorem awake17_any (w : World) (hT : U8 w) : Calls Tryd.prog 11 #[] w fun e w' => e = .returned (.bool true) ∧ Below w.heap.size w w' := by
  obtain ⟨W1, hW1⟩ : ∃ W1, W1 = w.alloc (.cells #[.string ⟨#[45]⟩, .int .i64 1, .string ⟨#[49]⟩, .int .i64 2, .string ⟨#[44]⟩, .int .i64 3, .string ⟨#[50, 51, 52]⟩, .int .i64 2, .string ⟨#[46]⟩, .int .i64 4, .string ⟨#[53]⟩, .int .i64 5] 50) := ⟨_, rfl⟩
  have B1 := hide (show Below w.heap.size w W1 by rw [hW1]; exact (Below.refl _ _).alloc (Nat.le_refl _) _)
  have P1 : Hid (Blk W1 w.heap.size #[.string ⟨#[45]⟩, .int .i64 1, .string ⟨#[49]⟩, .int .i64 2, .string ⟨#[44]⟩, .int .i64 3, .string ⟨#[50, 51, 52]⟩, .int .i64 2, .string ⟨#[46]⟩, .int .i64 4, .string ⟨#[53]⟩, .int .i64 5] 50) := hide (by rw [hW1]; exact Blk.newAt w _ rfl _ _)
  have HW := hide hW1.symm
  have C1 := hide (aBuild W1 w.heap.size (hT.below B1.out) P1.out)
  have HT := hide hT
  clear hT hW1
  go_enter Tryd.func11, Tryd.ntmps11
  go_wp2_with fail
  rw [show w.alloc _ = W1 from HW.out]
  refine C1.out.mono ?_
  rintro e w2 ⟨HE, hb2⟩
  obtain ⟨uo, uc, rfl, ho2⟩ := HE.out
  have B2 := hide (B1.out.trans (hb2.mono B1.out.size))
  obtain ⟨w2b, hw2b⟩ : ∃ w2b, w2b = W1.heap.size := ⟨_, rfl⟩
  rw [← hw2b] at ho2
  have nU0 : ∀ k, (.slice uo 5 uc : Value).ownBlock = some k → k < w2.heap.size := fun k e => (World.ownsRow.lt ho2 k e).2
  have B2s := hide B2.out.size
  have O2 := hide ho2
  clear hb2 ho2 C1 HW P1 HE
  go_wp2_with fail
  obtain ⟨W6, hW6⟩ : ∃ W6, W6 = (((w2.alloc (.cells #[.string ⟨#[45, 49, 44, 50, 51, 52, 46, 53]⟩, .slice uo 5 uc] 25)).alloc (.cells #[.int .i64 1, .int .i64 0, .int .i64 1, .int .i64 2, .int .i64 1, .int .i64 6, .int .i64 3, .int .i64 2, .int .i64 3, .int .i64 4, .int .i64 6, .int .i64 7, .int .i64 5, .int .i64 7, .int .i64 8] 31)).alloc (.cells #[.string ⟨#[45, 49, 44, 50, 51, 52, 46, 53]⟩, .slice (some ⟨w2.heap.size + 1, 0, none⟩) 5 5] 25)).alloc (.cells #[.string ⟨#[]⟩, .int .i64 18] 50) := ⟨_, rfl⟩
  obtain ⟨q1, q2, q3, q4, q5⟩ := alloc4 w2 #[.string ⟨#[45, 49, 44, 50, 51, 52, 46, 53]⟩, .slice uo 5 uc] #[.int .i64 1, .int .i64 0, .int .i64 1, .int .i64 2, .int .i64 1, .int .i64 6, .int .i64 3, .int .i64 2, .int .i64 3, .int .i64 4, .int .i64 6, .int .i64 7, .int .i64 5, .int .i64 7, .int .i64 8] #[.string ⟨#[45, 49, 44, 50, 51, 52, 46, 53]⟩, .slice (some ⟨w2.heap.size + 1, 0, none⟩) 5 5] #[.string ⟨#[]⟩, .int .i64 18] 25 31 25 50
  rw [← hW6] at q1 q2 q3 q4 q5
  have B6 := hide (B2.out.trans (q5.mono B2.out.size))
  have HW := hide hW6.symm
  have C2 := hide (aBuild2 W6 _ (HT.out.below B6.out) q4)
  have O6 := hide (ownF_below O2.out q5)
  have BO6 := hide q1
  have BS6 := hide q2
  have BT6 := hide q3
  clear hW6 q1 q2 q3 q4 q5 O2 B2
  rw [show World.alloc _ _ = W6 from HW.out]
  refine C2.out.mono ?_
  rintro e w7 ⟨rfl, hb7⟩
  have B7 := hide (B6.out.trans (hb7.mono B6.out.size))
  have O7 := hide (ownF_below O6.out hb7)
  have BO7 := hide (BO6.out.below hb7 BO6.out.lt)
  have BS7 := hide (BS6.out.below hb7 BS6.out.lt)
  have BT7 := hide (BT6.out.below hb7 BT6.out.lt)
  clear hb7 HW C2 B6 O6 BO6 BS6 BT6
  obtain ⟨W8, hW8⟩ : ∃ W8, W8 = w7.alloc (.cells #[.string ⟨#[]⟩, .slice none 0 0] 25) := ⟨_, rfl⟩
  have b8 : Below w7.heap.size w7 W8 := by rw [hW8]; exact (Below.refl _ _).alloc (Nat.le_refl _) _
  have BW8 : Hid (Blk W8 w7.heap.size #[.string ⟨#[]⟩, .slice none 0 0] 25) := hide (by rw [hW8]; exact Blk.newAt w7 _ rfl _ _)
  have B8 := hide (B7.out.trans (b8.mono B7.out.size))
  have O8 := hide (ownF_below O7.out b8)
  have BO8 := hide (BO7.out.below b8 BO7.out.lt)
  have BS8 := hide (BS7.out.below b8 BS7.out.lt)
  have BT8 := hide (BT7.out.below b8 BT7.out.lt)
  have HW := hide hW8.symm
  have nT : w2.heap.size + 1 + 1 < w7.heap.size := BT7.out.lt
  have nU : Hid ((.slice uo 5 uc : Value).ownBlock ≠ some w7.heap.size) := hide (fun e => by have := nU0 _ e; omega)
  clear nU0
  clear b8 hW8 B7 O7 BO7 BS7 BT7
  have r0 : W8.cell? ⟨w7.heap.size, 0, none⟩ = some (.string ⟨#[]⟩) := BW8.out.cell 0
  have r1 : W8.cell? ⟨w7.heap.size, 1, none⟩ = some (.slice none 0 0) := BW8.out.cell 1
  have f0 := BW8.out.free 0
  have f1 := BW8.out.free 1
  have ne1 : ¬ w7.heap.size = w2.heap.size + 1 + 1 := by omega
  have ne2 : ¬ w2.heap.size + 1 + 1 = w7.heap.size := by omega
  have t0 : W8.cell? ⟨w2.heap.size + 1 + 1, 0, none⟩ = some (.string ⟨#[45, 49, 44, 50, 51, 52, 46, 53]⟩) := BT8.out.cell 0
  have t1 : W8.cell? ⟨w2.heap.size + 1 + 1, 1, none⟩ = some (.slice (some ⟨w2.heap.size + 1, 0, none⟩) 5 5) := BT8.out.cell 1
  go_wp2_with (simp only [HW.out])
  have nO : w2.heap.size + 1 < w7.heap.size := Nat.lt_of_succ_lt nT
  have nP : w2.heap.size < w7.heap.size := Nat.lt_of_succ_lt nO
  obtain ⟨W9, hW9⟩ : ∃ W9, W9 = (W8.setCell ⟨w7.heap.size, 0, none⟩ (.string ⟨#[]⟩)).setCell ⟨w7.heap.size, 1, none⟩ (.slice none 0 0) := ⟨_, rfl⟩
  have hw7 : w.heap.size ≤ w7.heap.size := by have := B8.out.size; have := B2s.out; omega
  have B9 := hide (show Below w.heap.size w W9 by rw [hW9]; exact (B8.out.setCell (p := ⟨w7.heap.size, 0, none⟩) hw7 _).setCell (p := ⟨w7.heap.size, 1, none⟩) hw7 _)
  have O9 := hide (show OwnS w2b W9 (.slice uo 5 uc) aS by rw [hW9]; exact ownF_setne (a := ⟨w7.heap.size, 1, none⟩) (ownF_setne (a := ⟨w7.heap.size, 0, none⟩) O8.out (nU.out) _) nU.out _)
  have BO9 := hide (show Blk W9 w2.heap.size #[.string ⟨#[45, 49, 44, 50, 51, 52, 46, 53]⟩, .slice uo 5 uc] 25 by rw [hW9]; exact (BO8.out.setne (a := ⟨w7.heap.size, 0, none⟩) (by show ¬ w7.heap.size = w2.heap.size; omega) _).setne (a := ⟨w7.heap.size, 1, none⟩) (by show ¬ w7.heap.size = w2.heap.size; omega) _)
  have BS9 := hide (show Blk W9 (w2.heap.size + 1) #[.int .i64 1, .int .i64 0, .int .i64 1, .int .i64 2, .int .i64 1, .int .i64 6, .int .i64 3, .int .i64 2, .int .i64 3, .int .i64 4, .int .i64 6, .int .i64 7, .int .i64 5, .int .i64 7, .int .i64 8] 31 by rw [hW9]; exact (BS8.out.setne (a := ⟨w7.heap.size, 0, none⟩) (by show ¬ w7.heap.size = w2.heap.size + 1; omega) _).setne (a := ⟨w7.heap.size, 1, none⟩) (by show ¬ w7.heap.size = w2.heap.size + 1; omega) _)
  have BT9 := hide (show Blk W9 (w2.heap.size + 1 + 1) #[.string ⟨#[45, 49, 44, 50, 51, 52, 46, 53]⟩, .slice (some ⟨w2.heap.size + 1, 0, none⟩) 5 5] 25 by rw [hW9]; exact (BT8.out.setne (a := ⟨w7.heap.size, 0, none⟩) (by show ¬ w7.heap.size = w2.heap.size + 1 + 1; omega) _).setne (a := ⟨w7.heap.size, 1, none⟩) (by show ¬ w7.heap.size = w2.heap.size + 1 + 1; omega) _)
  have C3 := hide (aWrap W9 _ (HT.out.below B9.out) BS9.out)
  rw [← hW9]
  clear hW9 HW B8 O8 BO8 BS8 BT8 BW8 t0 t1 r0 r1 f0 f1 ne1 ne2
  refine C3.out.mono ?_
  rintro e w10 ⟨HE, hb10⟩
  obtain ⟨vo, vc, rfl, ho10⟩ := HE.out
  have B10 := hide (B9.out.trans (hb10.mono B9.out.size))
  have O10 := hide (ownF_below O9.out hb10)
  have V10 := hide ho10
  have BO10 := hide (BO9.out.below hb10 BO9.out.lt)
  have BS10 := hide (BS9.out.below hb10 BS9.out.lt)
  have BT10 := hide (BT9.out.below hb10 BT9.out.lt)
  clear hb10 ho10 HE C3 B9 O9 BO9 BS9 BT9
  obtain ⟨WB, hWB⟩ : ∃ WB, WB = w10.alloc (.cells #[.string ⟨#[45, 49, 44, 50, 51, 52, 46, 53]⟩, .slice vo 6 vc] 25) := ⟨_, rfl⟩
  have b11 : Below w10.heap.size w10 WB := by rw [hWB]; exact (Below.refl _ _).alloc (Nat.le_refl _) _
  have BW11 : Hid (Blk WB w10.heap.size #[.string ⟨#[45, 49, 44, 50, 51, 52, 46, 53]⟩, .slice vo 6 vc] 25) := hide (by rw [hWB]; exact Blk.newAt w10 _ rfl _ _)
  have B11 := hide (B10.out.trans (b11.mono B10.out.size))
  have O11 := hide (ownF_below O10.out b11)
  have V11 := hide (ownF_below V10.out b11)
  have BO11 := hide (BO10.out.below b11 BO10.out.lt)
  have BS11 := hide (BS10.out.below b11 BS10.out.lt)
  have BT11 := hide (BT10.out.below b11 BT10.out.lt)
  have HW := hide hWB.symm
  have C4 := hide (aLeaves WB _ (HT.out.below B11.out) BS11.out)
  clear b11 hWB B10 O10 V10 BO10 BS10 BT10
  have t0 : WB.cell? ⟨w2.heap.size + 1 + 1, 0, none⟩ = some (.string ⟨#[45, 49, 44, 50, 51, 52, 46, 53]⟩) := BT11.out.cell 0
  have t1 : WB.cell? ⟨w2.heap.size + 1 + 1, 1, none⟩ = some (.slice (some ⟨w2.heap.size + 1, 0, none⟩) 5 5) := BT11.out.cell 1
  go_wp2_with (simp only [HW.out])
  refine C4.out.mono ?_
  rintro e w12 ⟨HE, hb12⟩
  obtain ⟨lo, lc, rfl, ho12⟩ := HE.out
  have B12 := hide (B11.out.trans (hb12.mono B11.out.size))
  have O12 := hide (ownF_below O11.out hb12)
  have V12 := hide (ownF_below V11.out hb12)
  have L12 := hide ho12
  have BO12 := hide (BO11.out.below hb12 BO11.out.lt)
  have BS12 := hide (BS11.out.below hb12 BS11.out.lt)
  have BT12 := hide (BT11.out.below hb12 BT11.out.lt)
  have BW12 := hide (BW11.out.below hb12 BW11.out.lt)
  clear hb12 ho12 HE C4 HW B11 O11 V11 BO11 BS11 BT11 BW11 t0 t1
  obtain ⟨g, cg, hv, _, _, _⟩ := ownF_some V12.out (by decide)
  simp only [Value.slice.injEq] at hv
  obtain ⟨rfl, hx, rfl⟩ := hv
  clear hx
  obtain ⟨k, ck, hv, _, _, _⟩ := ownF_some L12.out (by decide)
  simp only [Value.slice.injEq] at hv
  obtain ⟨rfl, hx, rfl⟩ := hv
  clear hx
  have x0 : w12.cell? ⟨w2.heap.size, 0, none⟩ = some (.string ⟨#[45, 49, 44, 50, 51, 52, 46, 53]⟩) := BO12.out.cell 0
  have x1 : w12.cell? ⟨w2.heap.size, 1, none⟩ = some (.slice uo 5 uc) := BO12.out.cell 1
  have t0 : w12.cell? ⟨w2.heap.size + 1 + 1, 0, none⟩ = some (.string ⟨#[45, 49, 44, 50, 51, 52, 46, 53]⟩) := BT12.out.cell 0
  have t1 : w12.cell? ⟨w2.heap.size + 1 + 1, 1, none⟩ = some (.slice (some ⟨w2.heap.size + 1, 0, none⟩) 5 5) := BT12.out.cell 1
  obtain ⟨y0, y1⟩ := BW12.out.two
  have v0 : w12.cell? ⟨g, 0, none⟩ = some (.int .i64 17) := (own_get V12.out 0 (by decide)).1.trans rfl
  have v1 : w12.cell? ⟨g, 1, none⟩ = some (.int .i64 0) := (own_get V12.out 1 (by decide)).1.trans rfl
  have v2 : w12.cell? ⟨g, 2, none⟩ = some (.int .i64 8) := (own_get V12.out 2 (by decide)).1.trans rfl
  have l6 : w12.cell? ⟨k, 6, none⟩ = some (.string ⟨#[50, 51, 52]⟩) := (own_get L12.out 6 (by decide)).1.trans rfl
  have l7 : w12.cell? ⟨k, 7, none⟩ = some (.int .i64 2) := (own_get L12.out 7 (by decide)).1.trans rfl
  have EQS : ∀ W, (binOp .eql 31 (.agg #[.int .i64 17, .int .i64 0, .int .i64 8]) (.agg #[.int .i64 17, .int .i64 0, .int .i64 8])).run Tryd.prog W = .ok (.bool true) W := fun W => sp_eqlF ⟨17, 0, 8⟩ W
  have EQP : ∀ W, (binOp .eql 50 (.agg #[.string ⟨#[50, 51, 52]⟩, .int .i64 2]) (.agg #[.string ⟨#[50, 51, 52]⟩, .int .i64 2])).run Tryd.prog W = .ok (.bool true) W := fun W => pe_eqlF ⟨⟨#[50, 51, 52]⟩, 2⟩ W
  have C5 := hide (aSame w12 _ _ _ _ O12.out BS12.out)
  go_wp2_with fail
  refine C5.out.mono ?_
  rintro e w13 ⟨rfl, hb13⟩
  have B13 := hide (B12.out.trans (hb13.mono B12.out.size))
  have V13 := hide (ownF_below V12.out hb13)
  have L13 := hide (ownF_below L12.out hb13)
  have BO13 := hide (BO12.out.below hb13 BO12.out.lt)
  have BS13 := hide (BS12.out.below hb13 BS12.out.lt)
  have BT13 := hide (BT12.out.below hb13 BT12.out.lt)
  have BW13 := hide (BW12.out.below hb13 BW12.out.lt)
  clear hb13 C5 B12 O12 V12 L12 BO12 BS12 BT12 BW12 x0 x1 t0 t1 y0 y1 v0 v1 v2 l6 l7
  have x0 : w13.cell? ⟨w2.heap.size, 0, none⟩ = some (.string ⟨#[45, 49, 44, 50, 51, 52, 46, 53]⟩) := BO13.out.cell 0
  have x1 : w13.cell? ⟨w2.heap.size, 1, none⟩ = some (.slice uo 5 uc) := BO13.out.cell 1
  have t0 : w13.cell? ⟨w2.heap.size + 1 + 1, 0, none⟩ = some (.string ⟨#[45, 49, 44, 50, 51, 52, 46, 53]⟩) := BT13.out.cell 0
  have t1 : w13.cell? ⟨w2.heap.size + 1 + 1, 1, none⟩ = some (.slice (some ⟨w2.heap.size + 1, 0, none⟩) 5 5) := BT13.out.cell 1
  obtain ⟨y0, y1⟩ := BW13.out.two
  have v0 : w13.cell? ⟨g, 0, none⟩ = some (.int .i64 17) := (own_get V13.out 0 (by decide)).1.trans rfl
  have v1 : w13.cell? ⟨g, 1, none⟩ = some (.int .i64 0) := (own_get V13.out 1 (by decide)).1.trans rfl
  have v2 : w13.cell? ⟨g, 2, none⟩ = some (.int .i64 8) := (own_get V13.out 2 (by decide)).1.trans rfl
  have l6 : w13.cell? ⟨k, 6, none⟩ = some (.string ⟨#[50, 51, 52]⟩) := (own_get L13.out 6 (by decide)).1.trans rfl
  have l7 : w13.cell? ⟨k, 7, none⟩ = some (.int .i64 2) := (own_get L13.out 7 (by decide)).1.trans rfl
  have C6 := hide (aCheck w13 _ (HT.out.below B13.out) BS13.out)
  go_wp2_with fail
  refine C6.out.mono ?_
  rintro e w14 ⟨rfl, hb14⟩
  have B14 := hide (B13.out.trans (hb14.mono B13.out.size))
  clear hb14 C6 B13 V13 L13 BO13 BS13 BT13 BW13 x0 x1 t0 t1 y0 y1 v0 v1 v2 l6 l7
  go_wp2
  go_ret
  exact ⟨rfl, B14.out⟩

end Go.Proofs.YtkgapklhgkngnaaDoor

namespace Go.Proofs.YtkgapklhgkngnaaDoor
open Go.RowKit

theorem OwnP.at {B : Nat} {w : World} {g n cap : Nat} {l : List Pe} (h : OwnP B w (.slice (some ⟨g, 0, none⟩) n cap) l) (i : Nat) (hi : i < l.length) : w.cell? ⟨g, i * 2, none⟩ = some (.string (gN peZ l i).t) ∧ w.cell? ⟨g, i * 2 + 1, none⟩ = some (.int .i64 (gN peZ l i).f) := by
  obtain ⟨q0, q1⟩ := cellsP_at l i hi
  have hn : n = l.length := by
    rcases h.2 with ⟨hv, _⟩ | ⟨g', cap', cur, hv, _⟩
    · cases hv
    · simp only [Value.slice.injEq] at hv; exact hv.2.1
  subst hn
  exact ⟨(own_get h (i * 2) (by omega)).1.trans q0, (own_get h (i * 2 + 1) (by omega)).1.trans q1⟩
theorem OwnP.pev {B : Nat} {w : World} {v : Value} {l : List Pe} (h : OwnP B w v l) : PeV w v l := by
  by_cases hl : l.length = 0
  · obtain ⟨ao, cap, rfl⟩ := ownF_slice h
    have hl2 := List.eq_nil_of_length_eq_zero hl
    subst hl2
    exact .none ao cap rfl rfl
  · obtain ⟨g, cap, rfl, _, h2, h3⟩ := ownF_some h hl
    exact .some g 0 cap rfl h3 h2 (fun i hi => by
      obtain ⟨a0, a1⟩ := h.at i hi
      rw [Nat.zero_add]
      exact ⟨a0, a1⟩)
theorem til_len {t : ByteArray} : ∀ (l : List Pe) (a b : Nat), TilD t a l b → a + l.length ≤ b
  | [], a, b, h => by have h' : a = b := h; simp only [List.length_nil]; omega
  | p :: l, a, b, h => by have := til_len l _ b h.2.2.2.2; have := h.1; simp only [List.length_cons]; omega
end Go.Proofs.YtkgapklhgkngnaaDoor

namespace Go.Proofs.YtkgapklhgkngnaaDoor
open Go.ChangeShapes Go.WideShapes Go.ChangeAt Go.RowKit

theorem Tryd.cellsI : Tryd.prog.cellsOf 3 = 1 := by kernel_rfl
theorem Tryd.cellsSt : Tryd.prog.cellsOf 9 = 1 := by kernel_rfl
end Go.Proofs.YtkgapklhgkngnaaDoor

namespace Go.Proofs.YtkgapklhgkngnaaDoor
open Go.ChangeShapes Go.WideShapes Go.ChangeAt Go.RowKit

theorem choose_sp {n : Nat} {p : Nat → Sp → Prop} (h : ∀ i, i < n → ∃ f, p i f) : ∃ os : List Sp, os.length = n ∧ ∀ i, i < n → p i (gN spZ os i) := by
  haveI : Inhabited Sp := ⟨spZ⟩
  obtain ⟨q, hq⟩ := Deep.choose_lt (α := Sp) h
  refine ⟨(List.range n).map q, by simp, fun i hi => ?_⟩
  have e : gN spZ ((List.range n).map q) i = q i := by unfold gN; simp [hi]
  rw [e]
  exact hq i hi

end Go.Proofs.YtkgapklhgkngnaaDoor

namespace Go.Proofs.YtkgapklhgkngnaaDoor
open Go.ChangeShapes Go.WideShapes Go.ChangeAt Go.RowKit

theorem Tryd.cellsSp : Tryd.prog.cellsOf 31 = 3 := by kernel_rfl
theorem Tryd.cellsOu : Tryd.prog.cellsOf 25 = 2 := by kernel_rfl
theorem Tryd.cellsLs : Tryd.prog.cellsOf 23 = 1 := by kernel_rfl
set_option maxRecDepth 100000 in
theorem view_spans {H : Type} {enc : TypeId × Value → H} {W : World} {fuel : Nat} {v : Value} {d : DataW H} {p : List MemPlace} (hf : DataW.trod enc Tryd.prog W 0 (fun _ => true) true fuel 23 [v] = some (d, p)) :
    ∃ ts : List Sp, SpV W v ts ∧ NilOr v ∧ (Rows.uptoBulk d ≤ 1048576 → ts.length ≤ 1048576) := by
  rcases Deep.open_slice Tryd.underlying23 hf with ⟨hc, hx⟩ | ⟨a, l, cap, m, n, D, Pl, hc, _, hl, hm, hmm, hx, hel⟩
  · simp at hc
    subst hc
    exact ⟨[], .none none 0 rfl rfl, .inl rfl, fun _ => Nat.zero_le _⟩
  · simp at hc
    subst hc
    simp only [if_true] at hmm
    subst hmm
    rw [Tryd.cellsSp] at hel
    have each : ∀ i, i < l → ∃ f : Sp, W.cell? (a.add (i * 3)) = some (.int .i64 f.f) ∧ W.cell? (a.add (i * 3 + 1)) = some (.int .i64 f.a) ∧ W.cell? (a.add (i * 3 + 2)) = some (.int .i64 f.b) := by
      intro i hi
      obtain ⟨cs', h1, h2⟩ := hel i (by omega)
      obtain ⟨_, hlen, hcell⟩ := World.cells?_some h1
      obtain ⟨xs, k, _, _, _, hxl, hfd⟩ := DataW.trod_struct Tryd.underlying31 h2
      match cs', hlen with
      | [c0, c1, c2], _ =>
        match xs, (show xs.length = 3 by simpa using hxl) with
        | [y0, y1, y2], _ =>
          have k0 : DataW.trod enc Tryd.prog W 0 (fun _ => true) true k 3 [c0] = some y0 := by simpa [Tryd.cellsI] using hfd 0 _ rfl
          have k1 : DataW.trod enc Tryd.prog W 0 (fun _ => true) true k 3 [c1] = some y1 := by simpa [Tryd.cellsI] using hfd 1 _ rfl
          have k2 : DataW.trod enc Tryd.prog W 0 (fun _ => true) true k 3 [c2] = some y2 := by simpa [Tryd.cellsI] using hfd 2 _ rfl
          obtain ⟨z0, e0, _⟩ := DataW.trod_int Tryd.underlying3 k0
          obtain ⟨z1, e1, _⟩ := DataW.trod_int Tryd.underlying3 k1
          obtain ⟨z2, e2, _⟩ := DataW.trod_int Tryd.underlying3 k2
          simp at e0 e1 e2
          subst e0 e1 e2
          have g0 := hcell 0 (by omega)
          have g1 := hcell 1 (by omega)
          have g2 := hcell 2 (by omega)
          rw [Deep.add_add] at g0 g1 g2
          exact ⟨⟨z0, z1, z2⟩, by simpa using g0, by simpa using g1, by simpa using g2⟩
    obtain ⟨os, hfl, hfs⟩ := choose_sp each
    subst hfl
    refine ⟨os, ?_, .inr ⟨_, _, _, rfl⟩, fun hz => ?_⟩
    · by_cases h0 : os = []
      · subst h0; exact .none _ _ rfl rfl
      · obtain ⟨b, off, sp⟩ := a
        have hp : 0 < os.length := List.length_pos_iff.2 h0
        have hs : sp = none := by simpa [Addr.add] using World.cell?_spot (hfs 0 hp).1
        subst hs
        refine .some b off _ rfl hl (by simpa [Addr.add] using World.block_lt_of_cell? W _ (hfs 0 hp).1) (fun i hi => ?_)
        obtain ⟨q0, q1, q2⟩ := hfs i hi
        rw [Addr.add_lit] at q0 q1 q2
        exact ⟨q0, by rw [Nat.add_assoc]; exact q1, by rw [Nat.add_assoc]; exact q2⟩
    · have hd' : d = .slice ((List.range os.length).map D) ((List.range (_ - os.length)).map fun j => D (os.length + j)) := congrArg Prod.fst hx
      rw [hd'] at hz
      simp only [Rows.uptoBulk] at hz
      have := bulk_len ((List.range os.length).map D)
      rw [List.length_map, List.length_range] at this
      omega

set_option maxRecDepth 100000 in
theorem viewOut {H : Type} {enc : TypeId × Value → H} {W : World} {base : Nat} {v : Value} {d : DataW H} {p : List MemPlace} (hval : Value.okWide Tryd.prog W .any base 25 v) (h : DataW.Trod enc Tryd.prog W 0 (fun _ => true) true 25 v d p) :
    ∃ (t : ByteArray) (u : Value) (ts : List Sp), v = .agg #[.string t, u] ∧ SpV W u ts ∧ (Rows.uptoBulk d ≤ 1048576 → t.size ≤ 1048576 ∧ ts.length ≤ 1048576) ∧ NilOr u := by
  obtain ⟨cs, rfl, hsz⟩ := okWide_struct Tryd.underlying25 hval
  rw [Tryd.cellsOu] at hsz
  obtain ⟨l⟩ := cs
  match l, hsz with
  | [c0, c1], _ =>
  obtain ⟨fuel, hf⟩ := h
  obtain ⟨y0, y1, m, hx, _, hy0, hy1⟩ := trod_struct2 Tryd.underlying25 hf
  simp [Value.cells, Tryd.cellsSt, Tryd.cellsLs] at hy0 hy1
  obtain ⟨t, e0, e1, _⟩ := DataW.trod_string Tryd.underlying9 hy0
  simp at e0
  subst e0 e1
  simp only [Prod.mk.injEq] at hx
  obtain ⟨rfl, rfl⟩ := hx
  obtain ⟨ts, h1, h2, h3⟩ := view_spans (d := y1.1) (p := y1.2) hy1
  have e : t.data.toList.length = t.size := bys_len t
  refine ⟨t, c1, ts, rfl, h1, fun hz => ?_, h2⟩
  simp only [Rows.uptoBulk, Rows.uptoBulkAll, e] at hz
  exact ⟨by omega, h3 (by omega)⟩

end Go.Proofs.YtkgapklhgkngnaaDoor
