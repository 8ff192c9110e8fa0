/-
  What dec's takeApart does: the parts of a text of a number.
  What dec's Parse does.
  Plain mathematics: what is printed of a number is read as that number.
  Plain mathematics: digits with a point between and an exponent behind are read as the number that they show.
  Digits in groups, as pieces of text: the document's words as plain data; where groups end.
  Lists of pieces and of texts in memory; what the row's put does.
-/
import Derived.Test.YtionbkmbhhlmjaaGreatDoorXB10
import Derived.WalkMore
import Derived.Lib.SmallJoins
import Derived.Test.YtionbkmbhhlmjaaGreatDoorXB2
import Derived.Test.YtionbkmbhhlmjaaGreatDoorXB7
import Derived.Test.YtionbkmbhhlmjaaGreatDoorXB6
import Derived.Lib.SlTrimSet
import Derived.Test.YtionbkmbhhlmjaaGreatDoorXB5
import Derived.Laws.OwnMore
import Derived.Deep.RegionHeld3
import Derived.Deep.Upon
import Derived.Deep.RegionLaw
import Derived.Deep.AppendLies
import Derived.Laws.AppendOwnNone
namespace Go.Proofs.YtionbkmbhhlmjaaGreatDoor
open Go.RowKit

section
variable {w : World} {b : Nat} {t : TypeId} {x0 x1 x2 x3 : Value}
theorem Blk.set0 (h : Blk w b #[x0, x1, x2, x3] t) (y : Value) : Blk (w.setCell ⟨b, 0, none⟩ y) b #[y, x1, x2, x3] t := by
  unfold Blk at *
  simp only [World.setCell, Array.getElem?_modify, if_true, h, Option.map_some]
  rfl
theorem Blk.set1 (h : Blk w b #[x0, x1, x2, x3] t) (y : Value) : Blk (w.setCell ⟨b, 1, none⟩ y) b #[x0, y, x2, x3] t := by
  unfold Blk at *
  simp only [World.setCell, Array.getElem?_modify, if_true, h, Option.map_some]
  rfl
theorem Blk.set2 (h : Blk w b #[x0, x1, x2, x3] t) (y : Value) : Blk (w.setCell ⟨b, 2, none⟩ y) b #[x0, x1, y, x3] t := by
  unfold Blk at *
  simp only [World.setCell, Array.getElem?_modify, if_true, h, Option.map_some]
  rfl
end

abbrev numV (neg : Bool) (a b : List UInt8) (p : Int) : Value := .agg #[.bool neg, .string ⟨a.toArray⟩, .string ⟨b.toArray⟩, .int .i64 p]
def partsV : Option Parts → Value
  | none => .tuple #[numV false [] [] 0, .bool false]
  | some p => .tuple #[numV p.neg p.ahead p.behind p.pow, .bool true]

theorem results_num2 {fn : Func} {a c : Tmp} (h : fn.results = #[.cell a 102, .tmp c]) (tmps : Array Value) (H : Nat) (x0 x1 x2 x3 : Value) (w : World) (ht : tmps.getD a undef = .pointer (some ⟨H, 0, none⟩)) (hp : Blk w H #[x0, x1, x2, x3] 102) :
    (results fn tmps).run Tryz.prog w = .ok (.tuple #[.agg #[x0, x1, x2, x3], tmps.getD c undef]) w := by
  have c0 := hp.cell 0
  have c1 := hp.cell 1
  have c2 := hp.cell 2
  have c3 := hp.cell 3
  simp at c0 c1 c2 c3
  rw [Array.getD_eq_getD_getElem?] at ht
  simp [results, h, ht, go_sem, c0, c1, c2, c3]

def restK (s : List UInt8) : Nat → List UInt8
  | 0 => s
  | 1 => p1 s
  | 2 => p2 s
  | 3 => p3 s
  | _ => p4 s
def negK (s : List UInt8) (k : Nat) : Bool := if k = 0 then false else Lib.hasPrefix s [45]
def aheadK (s : List UInt8) (k : Nat) : List UInt8 := if k ≤ 1 then [] else pAhead s
def behindK (s : List UInt8) (k : Nat) : List UInt8 := if k ≤ 2 then [] else pBehind s

structure TakeInv (s : List UInt8) (w : World) (k : Nat) (r : Value) (wr : World) : Prop where
  hk : k ≤ 4
  hr : r = .string ⟨(restK s k).toArray⟩
  low : Below w.heap.size w wr
  res : Blk wr w.heap.size #[.bool false, .string ⟨#[]⟩, .string ⟨#[]⟩, .int .i64 0] 102
  num : Blk wr (w.heap.size + 1) #[.bool (negK s k), .string ⟨(aheadK s k).toArray⟩, .string ⟨(behindK s k).toArray⟩, .int .i64 0] 102
  some : 3 ≤ k → ¬ (pAhead s = [] ∧ pBehind s = [])
  mark : 4 ≤ k → p3 s ≠ [] ∧ (byt (p3 s) 0 = 101 ∨ byt (p3 s) 0 = 69)

theorem mk_data0 (l : List UInt8) : (⟨l.toArray⟩ : ByteArray).data.toList = l := by simp

theorem cutp (L : List UInt8) (c : UInt8) (W : World) : Calls Tryz.prog 68 #[.string ⟨L.toArray⟩, .string ⟨#[c]⟩] W fun e w' => e = .returned (.tuple #[.string ⟨(Lib.trimPrefix L [c]).toArray⟩, .bool (Lib.hasPrefix L [c])]) ∧ w' = W := by
  have h := Tryz.strings_CutPrefix ⟨L.toArray⟩ ⟨#[c]⟩ W
  rw [mk_data0] at h
  exact h

theorem cutd (L : List UInt8) (W : World) (h : L.length ≤ 281474976710656) : Calls Tryz.prog 69 #[.string ⟨L.toArray⟩] W fun e w' => e = .returned (.tuple #[.string ⟨(dgs L).toArray⟩, .string ⟨(aft L).toArray⟩]) ∧ Below W.heap.size W w' := by
  have h := dcut_any ⟨L.toArray⟩ W (by rw [size_mk0]; exact h)
  rw [bys_mk] at h
  exact h

theorem unsd (L : List UInt8) (W : World) : Calls Tryz.prog 70 #[.string ⟨L.toArray⟩] W fun e w' => e = .returned (.string ⟨(unsg L).toArray⟩) ∧ W = w' := by
  have h := unsigned_any ⟨L.toArray⟩ W
  rw [bys_mk] at h
  exact h

theorem atoi_len {l : List UInt8} (h2 : ¬ 5 < (dgs (unsg l)).length) (h3 : aft (unsg l) = []) : l.length ≤ 18 := by
  have h4 := congrArg List.length (dgs_aft (unsg l))
  rw [List.length_append, h3, List.length_nil] at h4
  have h5 : l.length ≤ (unsg l).length + 1 := by
    cases l with
    | nil => simp
    | cons b t => by_cases h : b = 45 ∨ b = 43 <;> simp [unsg, h]
  omega

theorem bytes_below (w : World) (T : TypeId) (t : ByteArray) : Below w.heap.size w (Lib.bytesWorld w T t) := Joins.below_bytesWorld _ w T t (Nat.le_refl _)

theorem tp_len (l p : List UInt8) : (Lib.trimPrefix l p).length ≤ l.length := Lib.trimPrefix_le l p
theorem aft_len (l : List UInt8) : (aft l).length ≤ l.length := by
  have := congrArg List.length (dgs_aft l)
  rw [List.length_append] at this; omega
theorem p1_len (s : List UInt8) : (p1 s).length ≤ s.length := tp_len _ _
theorem p2_len (s : List UInt8) : (p2 s).length ≤ s.length := Nat.le_trans (aft_len _) (p1_len s)
theorem p3_len (s : List UInt8) : (p3 s).length ≤ s.length := by
  unfold p3; split
  · exact Nat.le_trans (aft_len _) (Nat.le_trans (tp_len _ _) (p2_len s))
  · exact p2_len s
theorem unsg_len (l : List UInt8) : (unsg l).length ≤ l.length := by
  cases l with
  | nil => simp [unsg]
  | cons b t => unfold unsg; simp only; split <;> simp
theorem p4_len (s : List UInt8) : (p4 s).length ≤ s.length := by
  unfold p4; rw [List.length_drop]; have := p3_len s; omega

set_option maxRecDepth 100000 in
set_option maxHeartbeats 2000000 in
theorem take_any (s : ByteArray) (w : World) (hs : s.size ≤ 281474976710656) :
    Calls Tryz.prog 53 #[.string s] w fun e w' => e = .returned (partsV (parseT (bys s))) ∧ Below w.heap.size w w' := by
  have START : Hid (TakeInv (bys s) w 0 (.string s) ((w.alloc (.cells #[.bool false, .string ⟨#[]⟩, .string ⟨#[]⟩, .int .i64 0] 102)).alloc (.cells #[.bool false, .string ⟨#[]⟩, .string ⟨#[]⟩, .int .i64 0] 102))) :=
    ⟨by omega, by rw [show restK (bys s) 0 = bys s from rfl, mk_bys], ((Below.refl _ _).alloc (Nat.le_refl _) _).alloc (by simp) _, (Blk.new _ _ _).alloc _, Blk.newAt _ _ (by simp) _ _, by omega, by omega⟩
  obtain ⟨L, hL⟩ : ∃ L, L = bys s := ⟨_, rfl⟩
  have HLEN : Hid (L.length ≤ 281474976710656) := by rw [hL, bys_len]; exact hs
  rw [← hL] at START ⊢
  clear hL hs
  go_enter Tryz.func53, Tryz.ntmps53
  go_wp2
  go_step3
  go_wp2
  go_step3
  go_wp2
  go_loopw [0, 10] (fun r i wr => ∃ (k : Nat) (z : Int), i = .int .i64 z ∧ z = (k : Int) ∧ Hid (TakeInv L w k r wr)) (fun _ i _ => 5 - (intOf i).toNat)
  case atStart => exact ⟨0, 0, rfl, rfl, START.out⟩
  case round =>
    clear START
    obtain ⟨k, z, rfl, hz, INV⟩ := hrel
    obtain rfl := INV.out.hr
    have hk := INV.out.hk
    obtain ⟨wq, hq⟩ : ∃ x, x = wr := ⟨_, rfl⟩
    subst hq
    rcases k with _ | _ | _ | _ | _ | k
    · obtain rfl : z = 0 := by omega
      have y0 : wq.cell? ⟨w.heap.size + 1, 0, none⟩ = some (.bool false) := INV.out.num.cell 0
      have f0 := INV.out.num.free 0
      have y1 : wq.cell? ⟨w.heap.size + 1, 1, none⟩ = some (.string ⟨#[]⟩) := INV.out.num.cell 1
      have f1 := INV.out.num.free 1
      have y2 : wq.cell? ⟨w.heap.size + 1, 2, none⟩ = some (.string ⟨#[]⟩) := INV.out.num.cell 2
      have f2 := INV.out.num.free 2
      have y3 : wq.cell? ⟨w.heap.size + 1, 3, none⟩ = some (.int .i64 0) := INV.out.num.cell 3
      have f3 := INV.out.num.free 3
      rw [show restK L 0 = L from rfl]
      clear hz hk
      go_wp2_with fail
      refine (cutp L 45 _).mono ?_
      rintro e w1 ⟨rfl, rfl⟩
      go_wp2
      exact ⟨⟨1, 1, rfl, rfl, by omega, rfl, INV.out.low.setCell (Nat.le_succ _) _, INV.out.res.other (by simp) _, INV.out.num.set0 _, by omega, by omega⟩, by simp [intOf]⟩
    · obtain rfl : z = 1 := by omega
      rw [show restK L 1 = p1 L from rfl]
      have CD := hide (fun W => cutd (p1 L) W (Nat.le_trans (p1_len L) HLEN.out))
      obtain ⟨R, hR⟩ : ∃ R : ByteArray, R = ⟨(p1 L).toArray⟩ := ⟨_, rfl⟩
      rw [← hR] at CD ⊢
      clear hz hk hR
      go_wp2_with fail
      refine (CD.out _).mono ?_
      rintro e w1 ⟨rfl, hb⟩
      have BN := hide (INV.out.num.below hb INV.out.num.lt)
      have BR := hide (INV.out.res.below hb INV.out.res.lt)
      have HB := hide (INV.out.low.trans (hb.mono INV.out.low.size))
      clear hb INV
      have y0 : w1.cell? ⟨w.heap.size + 1, 0, none⟩ = some (.bool (Lib.hasPrefix L [45])) := BN.out.cell 0
      have f0 := BN.out.free 0
      have y1 : w1.cell? ⟨w.heap.size + 1, 1, none⟩ = some (.string ⟨#[]⟩) := BN.out.cell 1
      have f1 := BN.out.free 1
      have y2 : w1.cell? ⟨w.heap.size + 1, 2, none⟩ = some (.string ⟨#[]⟩) := BN.out.cell 2
      have f2 := BN.out.free 2
      have y3 : w1.cell? ⟨w.heap.size + 1, 3, none⟩ = some (.int .i64 0) := BN.out.cell 3
      have f3 := BN.out.free 3
      go_wp2
      exact ⟨⟨2, 2, rfl, rfl, by omega, rfl, HB.out.setCell (Nat.le_succ _) _, BR.out.other (by simp) _, BN.out.set1 _, by omega, by omega⟩, by simp [intOf]⟩
    · obtain rfl : z = 2 := by omega
      rw [show restK L 2 = p2 L from rfl]
      have CP := hide (fun W => cutp (p2 L) 46 W)
      rw [show Lib.hasPrefix (p2 L) [46] = pDot L from rfl] at CP
      have HT := hide (Nat.le_trans (tp_len (p2 L) [46]) (Nat.le_trans (p2_len L) HLEN.out))
      have CD := hide (fun W => cutd (Lib.trimPrefix (p2 L) [46]) W HT.out)
      obtain ⟨R, hR⟩ : ∃ R : ByteArray, R = ⟨(p2 L).toArray⟩ := ⟨_, rfl⟩
      obtain ⟨T, hT⟩ : ∃ T : ByteArray, T = ⟨(Lib.trimPrefix (p2 L) [46]).toArray⟩ := ⟨_, rfl⟩
      rw [← hT] at CD
      rw [← hR] at CP ⊢
      rw [← hT] at CP
      have HR := hide hR
      clear hz hk hR hT HT
      by_cases hd : ¬ pDot L = true
      · rw [show pDot L = false by simpa using hd] at CP
        have EB : Hid (pBehind L = []) := by unfold pBehind; rw [if_neg hd]; rfl
        have E3 : Hid (p3 L = p2 L) := by unfold p3; rw [if_neg hd]; rfl
        clear CD hd
        by_cases ha : pAhead L = []
        · have PN : Hid (parseT L = none) := by unfold parseT; rw [if_pos ⟨ha, EB.out⟩]; rfl
          have y0 : wq.cell? ⟨w.heap.size + 1, 0, none⟩ = some (.bool (Lib.hasPrefix L [45])) := INV.out.num.cell 0
          have f0 := INV.out.num.free 0
          have y1 : wq.cell? ⟨w.heap.size + 1, 1, none⟩ = some (.string ⟨#[]⟩) := by have := INV.out.num.cell 1; rw [this]; show some (Value.string ⟨(pAhead L).toArray⟩) = _; rw [ha]
          have f1 := INV.out.num.free 1
          have y2 : wq.cell? ⟨w.heap.size + 1, 2, none⟩ = some (.string ⟨#[]⟩) := INV.out.num.cell 2
          have f2 := INV.out.num.free 2
          have y3 : wq.cell? ⟨w.heap.size + 1, 3, none⟩ = some (.int .i64 0) := INV.out.num.cell 3
          have f3 := INV.out.num.free 3
          have z0 : wq.cell? ⟨w.heap.size, 0, none⟩ = some (.bool false) := INV.out.res.cell 0
          have g0 := INV.out.res.free 0
          have z1 : wq.cell? ⟨w.heap.size, 1, none⟩ = some (.string ⟨#[]⟩) := INV.out.res.cell 1
          have g1 := INV.out.res.free 1
          have z2 : wq.cell? ⟨w.heap.size, 2, none⟩ = some (.string ⟨#[]⟩) := INV.out.res.cell 2
          have g2 := INV.out.res.free 2
          have z3 : wq.cell? ⟨w.heap.size, 3, none⟩ = some (.int .i64 0) := INV.out.res.cell 3
          have g3 := INV.out.res.free 3
          clear ha
          go_wp2_with fail
          refine (CP.out _).mono ?_
          rintro e w1 ⟨rfl, rfl⟩
          go_wp2
          rw [Exit.noGoto_ret]
          refine bodyPost_ret (results_num2 rfl _ _ _ _ _ _ _ rfl (INV.out.res.put4 _ _ _ _)) rfl ?_
          exact ⟨by rw [PN.out]; rfl, below_put4 (INV.out.low) (Nat.le_refl _) _ _ _ _⟩
        · obtain ⟨A, hA⟩ : ∃ A : ByteArray, A = ⟨(pAhead L).toArray⟩ := ⟨_, rfl⟩
          have hne : A.size ≠ 0 := by rw [hA, size_mk0]; exact fun e => ha (List.length_eq_zero_iff.1 e)
          have hA1 := toList_ne hne
          have HA := hide hA
          clear hne hA
          have y0 : wq.cell? ⟨w.heap.size + 1, 0, none⟩ = some (.bool (Lib.hasPrefix L [45])) := INV.out.num.cell 0
          have f0 := INV.out.num.free 0
          have y1 : wq.cell? ⟨w.heap.size + 1, 1, none⟩ = some (.string A) := by rw [HA.out]; exact INV.out.num.cell 1
          have f1 := INV.out.num.free 1
          have y2 : wq.cell? ⟨w.heap.size + 1, 2, none⟩ = some (.string ⟨#[]⟩) := INV.out.num.cell 2
          have f2 := INV.out.num.free 2
          have y3 : wq.cell? ⟨w.heap.size + 1, 3, none⟩ = some (.int .i64 0) := INV.out.num.cell 3
          have f3 := INV.out.num.free 3
          have NE : Hid (¬ (pAhead L = [] ∧ pBehind L = [])) := fun e => ha e.1
          clear ha
          go_wp2_with fail
          refine (CP.out _).mono ?_
          rintro e w1 ⟨rfl, rfl⟩
          go_wp2
          refine ⟨⟨3, 3, rfl, rfl, by omega, ?_, INV.out.low, INV.out.res, ?_, fun _ => NE.out, by omega⟩, by simp [intOf]⟩
          · rw [HR.out, ← E3.out]; rfl
          · have h := INV.out.num
            rw [show behindK L 3 = pBehind L from rfl, EB.out]
            exact h
      · have hd := Classical.not_not.1 hd
        rw [hd] at CP
        have EB : Hid (pBehind L = dgs (Lib.trimPrefix (p2 L) [46])) := by unfold pBehind; rw [if_pos hd]; rfl
        have E3 : Hid (p3 L = aft (Lib.trimPrefix (p2 L) [46])) := by unfold p3; rw [if_pos hd]; rfl
        rw [← EB.out, ← E3.out] at CD
        obtain ⟨P, hP⟩ : ∃ P : ByteArray, P = ⟨(p3 L).toArray⟩ := ⟨_, rfl⟩
        rw [← hP] at CD
        have HP := hide hP
        clear hd hP EB E3
        by_cases ha : pAhead L = []
        · by_cases hb0 : pBehind L = []
          · have PN : Hid (parseT L = none) := by unfold parseT; rw [if_pos ⟨ha, hb0⟩]; rfl
            rw [hb0] at CD
            go_wp2_with fail
            refine (CP.out _).mono ?_
            rintro e w1 ⟨rfl, rfl⟩
            go_wp2_with fail
            refine (CD.out _).mono ?_
            rintro e w1 ⟨rfl, hb⟩
            have BN := hide (INV.out.num.below hb INV.out.num.lt)
            have BR := hide (INV.out.res.below hb INV.out.res.lt)
            have HB := hide (INV.out.low.trans (hb.mono INV.out.low.size))
            clear hb INV
            have y0 : w1.cell? ⟨w.heap.size + 1, 0, none⟩ = some (.bool (Lib.hasPrefix L [45])) := BN.out.cell 0
            have f0 := BN.out.free 0
            have y1 : w1.cell? ⟨w.heap.size + 1, 1, none⟩ = some (.string ⟨#[]⟩) := by have := BN.out.cell 1; rw [this]; show some (Value.string ⟨(pAhead L).toArray⟩) = _; rw [ha]
            have f1 := BN.out.free 1
            have y2 : w1.cell? ⟨w.heap.size + 1, 2, none⟩ = some (.string ⟨#[]⟩) := BN.out.cell 2
            have f2 := BN.out.free 2
            have y3 : w1.cell? ⟨w.heap.size + 1, 3, none⟩ = some (.int .i64 0) := BN.out.cell 3
            have f3 := BN.out.free 3
            have z0 : w1.cell? ⟨w.heap.size, 0, none⟩ = some (.bool false) := BR.out.cell 0
            have g0 := BR.out.free 0
            have z1 : w1.cell? ⟨w.heap.size, 1, none⟩ = some (.string ⟨#[]⟩) := BR.out.cell 1
            have g1 := BR.out.free 1
            have z2 : w1.cell? ⟨w.heap.size, 2, none⟩ = some (.string ⟨#[]⟩) := BR.out.cell 2
            have g2 := BR.out.free 2
            have z3 : w1.cell? ⟨w.heap.size, 3, none⟩ = some (.int .i64 0) := BR.out.cell 3
            have g3 := BR.out.free 3
            clear ha hb0
            go_wp2
            rw [Exit.noGoto_ret]
            refine bodyPost_ret (results_num2 rfl _ _ _ _ _ _ _ rfl ((BR.out.other (by simp) _).put4 _ _ _ _)) rfl ?_
            exact ⟨by rw [PN.out]; rfl, below_put4 (HB.out.setCell (Nat.le_succ _) _) (Nat.le_refl _) _ _ _ _⟩
          · obtain ⟨B, hB⟩ : ∃ B : ByteArray, B = ⟨(pBehind L).toArray⟩ := ⟨_, rfl⟩
            have hne : B.size ≠ 0 := by rw [hB, size_mk0]; exact fun e => hb0 (List.length_eq_zero_iff.1 e)
            have hB1 := toList_ne hne
            have NE : Hid (¬ (pAhead L = [] ∧ pBehind L = [])) := fun e => hb0 e.2
            rw [← hB] at CD
            have HBB := hide hB
            clear hne hB
            go_wp2_with fail
            refine (CP.out _).mono ?_
            rintro e w1 ⟨rfl, rfl⟩
            go_wp2_with fail
            refine (CD.out _).mono ?_
            rintro e w1 ⟨rfl, hb⟩
            have BN := hide (INV.out.num.below hb INV.out.num.lt)
            have BR := hide (INV.out.res.below hb INV.out.res.lt)
            have HB := hide (INV.out.low.trans (hb.mono INV.out.low.size))
            clear hb INV
            have y0 : w1.cell? ⟨w.heap.size + 1, 0, none⟩ = some (.bool (Lib.hasPrefix L [45])) := BN.out.cell 0
            have f0 := BN.out.free 0
            have y1 : w1.cell? ⟨w.heap.size + 1, 1, none⟩ = some (.string ⟨#[]⟩) := by have := BN.out.cell 1; rw [this]; show some (Value.string ⟨(pAhead L).toArray⟩) = _; rw [ha]
            have f1 := BN.out.free 1
            have y2 : w1.cell? ⟨w.heap.size + 1, 2, none⟩ = some (.string ⟨#[]⟩) := BN.out.cell 2
            have f2 := BN.out.free 2
            have y3 : w1.cell? ⟨w.heap.size + 1, 3, none⟩ = some (.int .i64 0) := BN.out.cell 3
            have f3 := BN.out.free 3
            have EA := hide ha
            clear ha hb0
            go_wp2
            refine ⟨⟨3, 3, rfl, rfl, by omega, by rw [HP.out]; rfl, HB.out.setCell (Nat.le_succ _) _, BR.out.other (by simp) _, ?_, fun _ => NE.out, by omega⟩, by simp [intOf]⟩
            have h := BN.out.set2 (.string B)
            rw [HBB.out] at h ⊢
            exact h
        · obtain ⟨A, hA⟩ : ∃ A : ByteArray, A = ⟨(pAhead L).toArray⟩ := ⟨_, rfl⟩
          have hne : A.size ≠ 0 := by rw [hA, size_mk0]; exact fun e => ha (List.length_eq_zero_iff.1 e)
          have hA1 := toList_ne hne
          have HA := hide hA
          clear hne hA
          obtain ⟨B, hB⟩ : ∃ B : ByteArray, B = ⟨(pBehind L).toArray⟩ := ⟨_, rfl⟩
          have NE : Hid (¬ (pAhead L = [] ∧ pBehind L = [])) := fun e => ha e.1
          rw [← hB] at CD
          have HBB := hide hB
          clear hB ha
          go_wp2_with fail
          refine (CP.out _).mono ?_
          rintro e w1 ⟨rfl, rfl⟩
          go_wp2_with fail
          refine (CD.out _).mono ?_
          rintro e w1 ⟨rfl, hb⟩
          have BN := hide (INV.out.num.below hb INV.out.num.lt)
          have BR := hide (INV.out.res.below hb INV.out.res.lt)
          have HB := hide (INV.out.low.trans (hb.mono INV.out.low.size))
          clear hb INV
          have y0 : w1.cell? ⟨w.heap.size + 1, 0, none⟩ = some (.bool (Lib.hasPrefix L [45])) := BN.out.cell 0
          have f0 := BN.out.free 0
          have y1 : w1.cell? ⟨w.heap.size + 1, 1, none⟩ = some (.string A) := by rw [HA.out]; exact BN.out.cell 1
          have f1 := BN.out.free 1
          have y2 : w1.cell? ⟨w.heap.size + 1, 2, none⟩ = some (.string ⟨#[]⟩) := BN.out.cell 2
          have f2 := BN.out.free 2
          have y3 : w1.cell? ⟨w.heap.size + 1, 3, none⟩ = some (.int .i64 0) := BN.out.cell 3
          have f3 := BN.out.free 3
          go_wp2
          refine ⟨⟨3, 3, rfl, rfl, by omega, by rw [HP.out]; rfl, HB.out.setCell (Nat.le_succ _) _, BR.out.other (by simp) _, ?_, fun _ => NE.out, by omega⟩, by simp [intOf]⟩
          have h := BN.out.set2 (.string B)
          rw [HBB.out] at h ⊢
          exact h
    · obtain rfl : z = 3 := by omega
      rw [show restK L 3 = p3 L from rfl]
      have NE := hide (INV.out.some (by omega))
      obtain ⟨A, hA⟩ : ∃ A : ByteArray, A = ⟨(pAhead L).toArray⟩ := ⟨_, rfl⟩
      obtain ⟨B, hB⟩ : ∃ B : ByteArray, B = ⟨(pBehind L).toArray⟩ := ⟨_, rfl⟩
      obtain ⟨S, hS⟩ : ∃ S : Bool, S = Lib.hasPrefix L [45] := ⟨_, rfl⟩
      have NUM : Hid (Blk wq (w.heap.size + 1) #[.bool S, .string A, .string B, .int .i64 0] 102) := by rw [hA, hB, hS]; exact INV.out.num
      have HA := hide hA
      have HBB := hide hB
      have HSS := hide hS
      clear hA hB hS
      have y0 : wq.cell? ⟨w.heap.size + 1, 0, none⟩ = some (.bool S) := NUM.out.cell 0
      have f0 := NUM.out.free 0
      have y1 : wq.cell? ⟨w.heap.size + 1, 1, none⟩ = some (.string A) := NUM.out.cell 1
      have f1 := NUM.out.free 1
      have y2 : wq.cell? ⟨w.heap.size + 1, 2, none⟩ = some (.string B) := NUM.out.cell 2
      have f2 := NUM.out.free 2
      have y3 : wq.cell? ⟨w.heap.size + 1, 3, none⟩ = some (.int .i64 0) := NUM.out.cell 3
      have f3 := NUM.out.free 3
      have z0 : wq.cell? ⟨w.heap.size, 0, none⟩ = some (.bool false) := INV.out.res.cell 0
      have g0 := INV.out.res.free 0
      have z1 : wq.cell? ⟨w.heap.size, 1, none⟩ = some (.string ⟨#[]⟩) := INV.out.res.cell 1
      have g1 := INV.out.res.free 1
      have z2 : wq.cell? ⟨w.heap.size, 2, none⟩ = some (.string ⟨#[]⟩) := INV.out.res.cell 2
      have g2 := INV.out.res.free 2
      have z3 : wq.cell? ⟨w.heap.size, 3, none⟩ = some (.int .i64 0) := INV.out.res.cell 3
      have g3 := INV.out.res.free 3
      clear hz hk
      by_cases h3 : p3 L = []
      · have PN : Hid (parseT L = some ⟨Lib.hasPrefix L [45], pAhead L, pBehind L, 0⟩) := by unfold parseT; rw [if_neg NE.out, if_pos h3]; rfl
        rw [h3]
        clear h3
        go_wp2
        rw [Exit.noGoto_ret]
        refine bodyPost_ret (results_num2 rfl _ _ _ _ _ _ _ rfl (INV.out.res.put4 _ _ _ _)) rfl ?_
        exact ⟨by rw [PN.out]; unfold partsV; simp only; rw [HA.out, HBB.out, HSS.out]; rfl, below_put4 (INV.out.low) (Nat.le_refl _) _ _ _ _⟩
      · obtain ⟨P, hP⟩ : ∃ P : ByteArray, P = ⟨(p3 L).toArray⟩ := ⟨_, rfl⟩
        have hne : P.size ≠ 0 := by rw [hP, size_mk0]; exact fun e => h3 (List.length_eq_zero_iff.1 e)
        have hP1 := toList_ne hne
        have hp0 : 0 < P.size := by omega
        have hg : ∀ h : 0 < P.size, P[0].toNat = byt (p3 L) 0 := fun h => by rw [byt_get P 0 h, hP, bys_mk]
        have HX : Hid (P.extract 1 P.size = ⟨(p4 L).toArray⟩) := by rw [Lib.extract_from, hP, mk_data0]; rfl
        rw [← hP]
        obtain ⟨b, hb⟩ : ∃ b, b = byt (p3 L) 0 := ⟨_, rfl⟩
        rw [← hb] at hg
        have hp1 : (1 : Int) ≤ (P.size : Int) := by omega
        clear hne hP
        by_cases hm : b = 101
        · have e1 : ((b : Int) != 101) = false := by rw [show (b : Int) = 101 by omega]; rfl
          have MK : Hid (p3 L ≠ [] ∧ (byt (p3 L) 0 = 101 ∨ byt (p3 L) 0 = 69)) := ⟨h3, .inl (by omega)⟩
          clear h3 hb hm
          go_wp2
          refine ⟨⟨4, 4, rfl, rfl, by omega, by rw [HX.out]; rfl, INV.out.low, INV.out.res, INV.out.num, fun _ => NE.out, fun _ => MK.out⟩, by simp [intOf]⟩
        · have e1 : ((b : Int) != 101) = true := by
            have : ¬ (b : Int) = 101 := by omega
            simpa using this
          by_cases hm2 : b = 69
          · have e2 : ((b : Int) != 69) = false := by rw [show (b : Int) = 69 by omega]; rfl
            have MK : Hid (p3 L ≠ [] ∧ (byt (p3 L) 0 = 101 ∨ byt (p3 L) 0 = 69)) := ⟨h3, .inr (by omega)⟩
            clear h3 hb hm hm2
            go_wp2
            refine ⟨⟨4, 4, rfl, rfl, by omega, by rw [HX.out]; rfl, INV.out.low, INV.out.res, INV.out.num, fun _ => NE.out, fun _ => MK.out⟩, by simp [intOf]⟩
          · have e2 : ((b : Int) != 69) = true := by
              have : ¬ (b : Int) = 69 := by omega
              simpa using this
            have PN : Hid (parseT L = none) := by unfold parseT; rw [if_neg NE.out, if_neg h3, if_pos (by omega)]; rfl
            clear h3 hb hm hm2
            go_wp2
            rw [Exit.noGoto_ret]
            refine bodyPost_ret (results_num2 rfl _ _ _ _ _ _ _ rfl (INV.out.res.put4 _ _ _ _)) rfl ?_
            exact ⟨by rw [PN.out]; rfl, below_put4 (INV.out.low) (Nat.le_refl _) _ _ _ _⟩
    · obtain rfl : z = 4 := by omega
      rw [show restK L 4 = p4 L from rfl]
      have NE := hide (INV.out.some (by omega))
      have MK := hide (INV.out.mark (by omega))
      obtain ⟨A, hA⟩ : ∃ A : ByteArray, A = ⟨(pAhead L).toArray⟩ := ⟨_, rfl⟩
      obtain ⟨B, hB⟩ : ∃ B : ByteArray, B = ⟨(pBehind L).toArray⟩ := ⟨_, rfl⟩
      obtain ⟨S, hS⟩ : ∃ S : Bool, S = Lib.hasPrefix L [45] := ⟨_, rfl⟩
      have NUM : Hid (Blk wq (w.heap.size + 1) #[.bool S, .string A, .string B, .int .i64 0] 102) := by rw [hA, hB, hS]; exact INV.out.num
      have HA := hide hA
      have HBB := hide hB
      have HSS := hide hS
      clear hA hB hS
      clear hz hk
      have US := hide (fun W => unsd (p4 L) W)
      have HU := hide (Nat.le_trans (unsg_len (p4 L)) (Nat.le_trans (p4_len L) HLEN.out))
      have CD := hide (fun W => cutd (unsg (p4 L)) W HU.out)
      obtain ⟨U, hU⟩ : ∃ U : ByteArray, U = ⟨(unsg (p4 L)).toArray⟩ := ⟨_, rfl⟩
      rw [← hU] at US CD
      obtain ⟨P, hP⟩ : ∃ P : ByteArray, P = ⟨(p4 L).toArray⟩ := ⟨_, rfl⟩
      rw [← hP] at US ⊢
      obtain ⟨D, hD⟩ : ∃ D : ByteArray, D = ⟨(dgs (unsg (p4 L))).toArray⟩ := ⟨_, rfl⟩
      obtain ⟨F, hF⟩ : ∃ F : ByteArray, F = ⟨(aft (unsg (p4 L))).toArray⟩ := ⟨_, rfl⟩
      rw [← hD, ← hF] at CD
      have hDs : D.size = (dgs (unsg (p4 L))).length := by rw [hD, size_mk0]
      have hFs : F.size = (aft (unsg (p4 L))).length := by rw [hF, size_mk0]
      have HPP := hide hP
      have HDD := hide hD
      have HFF := hide hF
      clear hU HU hP hD hF
      by_cases h1 : dgs (unsg (p4 L)) = []
      · have PN : Hid (parseT L = none) := by unfold parseT; rw [if_neg NE.out, if_neg MK.out.1, if_neg (fun e => e MK.out.2), if_pos (.inl h1)]; rfl
        obtain rfl : D = ⟨#[]⟩ := by rw [HDD.out, h1]
        clear h1 HDD HFF hDs hFs
        go_wp2_with fail
        refine (US.out _).mono ?_
        rintro e w1 ⟨rfl, rfl⟩
        go_wp2_with fail
        refine (CD.out _).mono ?_
        rintro e w1 ⟨rfl, hb⟩
        have BN := hide (NUM.out.below hb NUM.out.lt)
        have BR := hide (INV.out.res.below hb INV.out.res.lt)
        have HB := hide (INV.out.low.trans (hb.mono INV.out.low.size))
        clear hb INV NUM
        have y0 : w1.cell? ⟨w.heap.size + 1, 0, none⟩ = some (.bool S) := BN.out.cell 0
        have f0 := BN.out.free 0
        have y1 : w1.cell? ⟨w.heap.size + 1, 1, none⟩ = some (.string A) := BN.out.cell 1
        have f1 := BN.out.free 1
        have y2 : w1.cell? ⟨w.heap.size + 1, 2, none⟩ = some (.string B) := BN.out.cell 2
        have f2 := BN.out.free 2
        have y3 : w1.cell? ⟨w.heap.size + 1, 3, none⟩ = some (.int .i64 0) := BN.out.cell 3
        have f3 := BN.out.free 3
        have z0 : w1.cell? ⟨w.heap.size, 0, none⟩ = some (.bool false) := BR.out.cell 0
        have g0 := BR.out.free 0
        have z1 : w1.cell? ⟨w.heap.size, 1, none⟩ = some (.string ⟨#[]⟩) := BR.out.cell 1
        have g1 := BR.out.free 1
        have z2 : w1.cell? ⟨w.heap.size, 2, none⟩ = some (.string ⟨#[]⟩) := BR.out.cell 2
        have g2 := BR.out.free 2
        have z3 : w1.cell? ⟨w.heap.size, 3, none⟩ = some (.int .i64 0) := BR.out.cell 3
        have g3 := BR.out.free 3
        go_wp2
        rw [Exit.noGoto_ret]
        refine bodyPost_ret (results_num2 rfl _ _ _ _ _ _ _ rfl (BR.out.put4 _ _ _ _)) rfl ?_
        exact ⟨by rw [PN.out]; rfl, below_put4 (HB.out) (Nat.le_refl _) _ _ _ _⟩
      · have hd0 : D.size ≠ 0 := by rw [hDs]; exact fun e => h1 (List.length_eq_zero_iff.1 e)
        have hd1 := toList_ne hd0
        by_cases h2 : 5 < (dgs (unsg (p4 L))).length
        · have PN : Hid (parseT L = none) := by unfold parseT; rw [if_neg NE.out, if_neg MK.out.1, if_neg (fun e => e MK.out.2), if_pos (.inr (.inl h2))]; rfl
          have h2' : decide ((5 : Int) < (D.size : Int)) = true := decide_eq_true (by omega)
          clear h1 h2 HDD HFF hDs hFs hd0
          go_wp2_with fail
          refine (US.out _).mono ?_
          rintro e w1 ⟨rfl, rfl⟩
          go_wp2_with fail
          refine (CD.out _).mono ?_
          rintro e w1 ⟨rfl, hb⟩
          have BN := hide (NUM.out.below hb NUM.out.lt)
          have BR := hide (INV.out.res.below hb INV.out.res.lt)
          have HB := hide (INV.out.low.trans (hb.mono INV.out.low.size))
          clear hb INV NUM
          have y0 : w1.cell? ⟨w.heap.size + 1, 0, none⟩ = some (.bool S) := BN.out.cell 0
          have f0 := BN.out.free 0
          have y1 : w1.cell? ⟨w.heap.size + 1, 1, none⟩ = some (.string A) := BN.out.cell 1
          have f1 := BN.out.free 1
          have y2 : w1.cell? ⟨w.heap.size + 1, 2, none⟩ = some (.string B) := BN.out.cell 2
          have f2 := BN.out.free 2
          have y3 : w1.cell? ⟨w.heap.size + 1, 3, none⟩ = some (.int .i64 0) := BN.out.cell 3
          have f3 := BN.out.free 3
          have z0 : w1.cell? ⟨w.heap.size, 0, none⟩ = some (.bool false) := BR.out.cell 0
          have g0 := BR.out.free 0
          have z1 : w1.cell? ⟨w.heap.size, 1, none⟩ = some (.string ⟨#[]⟩) := BR.out.cell 1
          have g1 := BR.out.free 1
          have z2 : w1.cell? ⟨w.heap.size, 2, none⟩ = some (.string ⟨#[]⟩) := BR.out.cell 2
          have g2 := BR.out.free 2
          have z3 : w1.cell? ⟨w.heap.size, 3, none⟩ = some (.int .i64 0) := BR.out.cell 3
          have g3 := BR.out.free 3
          go_wp2
          rw [Exit.noGoto_ret]
          refine bodyPost_ret (results_num2 rfl _ _ _ _ _ _ _ rfl (BR.out.put4 _ _ _ _)) rfl ?_
          exact ⟨by rw [PN.out]; rfl, below_put4 (HB.out) (Nat.le_refl _) _ _ _ _⟩
        · have h2' : decide ((5 : Int) < (D.size : Int)) = false := decide_eq_false (by omega)
          by_cases h3 : aft (unsg (p4 L)) ≠ []
          · have PN : Hid (parseT L = none) := by unfold parseT; rw [if_neg NE.out, if_neg MK.out.1, if_neg (fun e => e MK.out.2), if_pos (.inr (.inr h3))]; rfl
            have hf0 : F.size ≠ 0 := by rw [hFs]; exact fun e => h3 (List.length_eq_zero_iff.1 e)
            have hf1 := toList_ne hf0
            clear h1 h2 h3 HDD HFF hDs hFs hd0 hf0
            go_wp2_with fail
            refine (US.out _).mono ?_
            rintro e w1 ⟨rfl, rfl⟩
            go_wp2_with fail
            refine (CD.out _).mono ?_
            rintro e w1 ⟨rfl, hb⟩
            have BN := hide (NUM.out.below hb NUM.out.lt)
            have BR := hide (INV.out.res.below hb INV.out.res.lt)
            have HB := hide (INV.out.low.trans (hb.mono INV.out.low.size))
            clear hb INV NUM
            have y0 : w1.cell? ⟨w.heap.size + 1, 0, none⟩ = some (.bool S) := BN.out.cell 0
            have f0 := BN.out.free 0
            have y1 : w1.cell? ⟨w.heap.size + 1, 1, none⟩ = some (.string A) := BN.out.cell 1
            have f1 := BN.out.free 1
            have y2 : w1.cell? ⟨w.heap.size + 1, 2, none⟩ = some (.string B) := BN.out.cell 2
            have f2 := BN.out.free 2
            have y3 : w1.cell? ⟨w.heap.size + 1, 3, none⟩ = some (.int .i64 0) := BN.out.cell 3
            have f3 := BN.out.free 3
            have z0 : w1.cell? ⟨w.heap.size, 0, none⟩ = some (.bool false) := BR.out.cell 0
            have g0 := BR.out.free 0
            have z1 : w1.cell? ⟨w.heap.size, 1, none⟩ = some (.string ⟨#[]⟩) := BR.out.cell 1
            have g1 := BR.out.free 1
            have z2 : w1.cell? ⟨w.heap.size, 2, none⟩ = some (.string ⟨#[]⟩) := BR.out.cell 2
            have g2 := BR.out.free 2
            have z3 : w1.cell? ⟨w.heap.size, 3, none⟩ = some (.int .i64 0) := BR.out.cell 3
            have g3 := BR.out.free 3
            go_wp2
            rw [Exit.noGoto_ret]
            refine bodyPost_ret (results_num2 rfl _ _ _ _ _ _ _ rfl (BR.out.put4 _ _ _ _)) rfl ?_
            exact ⟨by rw [PN.out]; rfl, below_put4 (HB.out) (Nat.le_refl _) _ _ _ _⟩
          · have h3 := Classical.not_not.1 h3
            have PN : Hid (parseT L = some ⟨Lib.hasPrefix L [45], pAhead L, pBehind L, powV (p4 L)⟩) := by unfold parseT; rw [if_neg NE.out, if_neg MK.out.1, if_neg (fun e => e MK.out.2), if_neg (fun h => h.elim (fun e => h1 e) fun h => h.elim (fun e => h2 e) fun e => e h3)]; rfl
            obtain rfl : F = ⟨#[]⟩ := by rw [HFF.out, h3]
            have AT := hide (atoi_val h1 h3)
            have HLN : Hid (P.size ≤ 18) := by rw [HPP.out, size_mk0]; exact atoi_len h2 h3
            have AC := hide (fun W => Tryz.strconv_Atoi P (powV (p4 L)) HLN.out (by rw [HPP.out, mk_data0]; exact AT.out) W)
            obtain ⟨q, hq⟩ : ∃ q, q = powV (p4 L) := ⟨_, rfl⟩
            rw [← hq] at AC PN
            clear h1 h2 h3 HDD HFF hDs hFs hd0 AT HLN hq
            go_wp2_with fail
            refine (US.out _).mono ?_
            rintro e w1 ⟨rfl, rfl⟩
            go_wp2_with fail
            refine (CD.out _).mono ?_
            rintro e w1 ⟨rfl, hb⟩
            have BN := hide (NUM.out.below hb NUM.out.lt)
            have BR := hide (INV.out.res.below hb INV.out.res.lt)
            have HB := hide (INV.out.low.trans (hb.mono INV.out.low.size))
            clear hb INV NUM
            have y0 : w1.cell? ⟨w.heap.size + 1, 0, none⟩ = some (.bool S) := BN.out.cell 0
            have f0 := BN.out.free 0
            have y1 : w1.cell? ⟨w.heap.size + 1, 1, none⟩ = some (.string A) := BN.out.cell 1
            have f1 := BN.out.free 1
            have y2 : w1.cell? ⟨w.heap.size + 1, 2, none⟩ = some (.string B) := BN.out.cell 2
            have f2 := BN.out.free 2
            have y3 : w1.cell? ⟨w.heap.size + 1, 3, none⟩ = some (.int .i64 0) := BN.out.cell 3
            have f3 := BN.out.free 3
            have z0 : w1.cell? ⟨w.heap.size, 0, none⟩ = some (.bool false) := BR.out.cell 0
            have g0 := BR.out.free 0
            have z1 : w1.cell? ⟨w.heap.size, 1, none⟩ = some (.string ⟨#[]⟩) := BR.out.cell 1
            have g1 := BR.out.free 1
            have z2 : w1.cell? ⟨w.heap.size, 2, none⟩ = some (.string ⟨#[]⟩) := BR.out.cell 2
            have g2 := BR.out.free 2
            have z3 : w1.cell? ⟨w.heap.size, 3, none⟩ = some (.int .i64 0) := BR.out.cell 3
            have g3 := BR.out.free 3
            go_wp2_with fail
            refine (AC.out _).mono ?_
            rintro e w2 ⟨rfl, tq, hw⟩
            have hb : Below w1.heap.size w1 w2 := by rw [hw]; exact bytes_below _ _ _
            have BN2 := hide (BN.out.below hb BN.out.lt)
            have BR2 := hide (BR.out.below hb BR.out.lt)
            have HB2 := hide (HB.out.trans (hb.mono HB.out.size))
            clear hb hw BN BR HB y0 y1 y2 y3 f0 f1 f2 f3 z0 z1 z2 z3 g0 g1 g2 g3
            have y0 : w2.cell? ⟨w.heap.size + 1, 0, none⟩ = some (.bool S) := BN2.out.cell 0
            have f0 := BN2.out.free 0
            have y1 : w2.cell? ⟨w.heap.size + 1, 1, none⟩ = some (.string A) := BN2.out.cell 1
            have f1 := BN2.out.free 1
            have y2 : w2.cell? ⟨w.heap.size + 1, 2, none⟩ = some (.string B) := BN2.out.cell 2
            have f2 := BN2.out.free 2
            have y3 : w2.cell? ⟨w.heap.size + 1, 3, none⟩ = some (.int .i64 0) := BN2.out.cell 3
            have f3 := BN2.out.free 3
            have z0 : w2.cell? ⟨w.heap.size, 0, none⟩ = some (.bool false) := BR2.out.cell 0
            have g0 := BR2.out.free 0
            have z1 : w2.cell? ⟨w.heap.size, 1, none⟩ = some (.string ⟨#[]⟩) := BR2.out.cell 1
            have g1 := BR2.out.free 1
            have z2 : w2.cell? ⟨w.heap.size, 2, none⟩ = some (.string ⟨#[]⟩) := BR2.out.cell 2
            have g2 := BR2.out.free 2
            have z3 : w2.cell? ⟨w.heap.size, 3, none⟩ = some (.int .i64 0) := BR2.out.cell 3
            have g3 := BR2.out.free 3
            go_wp2
            rw [Exit.noGoto_ret]
            refine bodyPost_ret (results_num2 rfl _ _ _ _ _ _ _ rfl ((BR2.out.other (by simp) _).put4 _ _ _ _)) rfl ?_
            exact ⟨by rw [PN.out]; unfold partsV; simp only; rw [HA.out, HBB.out, HSS.out]; rfl, below_put4 (HB2.out.setCell (Nat.le_succ _) _) (Nat.le_refl _) _ _ _ _⟩
    · omega

end Go.Proofs.YtionbkmbhhlmjaaGreatDoor

namespace Go.Proofs.YtionbkmbhhlmjaaGreatDoor
open Go.RowKit

def tNan : List UInt8 := [110, 97, 110]
def tInf : List UInt8 := [105, 110, 102]
def tNeg : List UInt8 := [45, 105, 110, 102]

noncomputable def partsD : Option Parts → DecT × Int
  | none => (⟨0, false, [], 0⟩, 50)
  | some p => tellF p.neg (decV (p.ahead ++ p.behind)) (p.pow - p.behind.length)

noncomputable def parseD (l : List UInt8) : DecT × Int :=
  if l = tNan then (⟨2, false, [], 0⟩, 0) else if l = tInf then (⟨1, false, [], 0⟩, 0) else if l = tNeg then (⟨1, true, [], 0⟩, 0) else partsD (parseT l)

theorem clone_any (s : ByteArray) (w : World) (h : s.size ≤ 281474976710656) : Calls Tryz.prog 55 #[.string s] w fun e w' => e = .returned (.string s) ∧ Below w.heap.size w w' := by
  have C := hide (fun W => Tryz.stringslite_Clone s W h)
  go_enter Tryz.func55, Tryz.ntmps55
  go_wp2_with fail
  refine (C.out _).mono ?_
  rintro e w1 ⟨rfl, hb⟩
  go_wp2
  go_ret
  exact ⟨rfl, hb⟩

theorem sl_ne {s : ByteArray} {l : List UInt8} (h : bys s ≠ l) : (s.toList == l) = false := by
  rw [sl]
  exact beq_eq_false_iff_ne.2 h
theorem powV_lt {l : List UInt8} (h2 : ¬ 5 < (dgs (unsg l)).length) (h3 : aft (unsg l) = []) : -100000 ≤ powV l ∧ powV l ≤ 100000 := by
  have h4 : dgs (unsg l) = unsg l := by have := dgs_aft (unsg l); rwa [h3, List.append_nil] at this
  have h5 := decV_lt _ (unsg l) rfl (by rw [← h4]; exact dgs_digB _)
  rw [h4] at h2
  have h6 : 10 ^ (unsg l).length ≤ 10 ^ 5 := Nat.pow_le_pow_right (by omega) (by omega)
  have h7 : (10 : Nat) ^ 5 = 100000 := by decide
  unfold powV
  split <;> omega

structure PartsOk (s : List UInt8) (p : Parts) : Prop where
  ahead : DigB p.ahead
  behind : DigB p.behind
  al : p.ahead.length ≤ s.length
  bl : p.behind.length ≤ s.length
  lo : -100000 ≤ p.pow
  hi : p.pow ≤ 100000

theorem parts_ok {s : List UInt8} {p : Parts} (h : parseT s = some p) : PartsOk s p := by
  have da : DigB (pAhead s) := dgs_digB _
  have db : DigB (pBehind s) := by
    unfold pBehind; split
    · exact dgs_digB _
    · intro k hk; simp at hk
  have la : (pAhead s).length ≤ s.length := Nat.le_trans (dgs_len _) (p1_len s)
  have lb : (pBehind s).length ≤ s.length := by
    unfold pBehind; split
    · exact Nat.le_trans (dgs_len _) (Nat.le_trans (tp_len _ _) (p2_len s))
    · simp
  unfold parseT at h
  by_cases h1 : pAhead s = [] ∧ pBehind s = []
  · rw [if_pos h1] at h; cases h
  · rw [if_neg h1] at h
    by_cases h2 : p3 s = []
    · rw [if_pos h2] at h; cases h
      exact ⟨da, db, la, lb, by simp, by simp⟩
    · rw [if_neg h2] at h
      by_cases h3 : ¬ (byt (p3 s) 0 = 101 ∨ byt (p3 s) 0 = 69)
      · rw [if_pos h3] at h; cases h
      · rw [if_neg h3] at h
        by_cases h4 : dgs (unsg (p4 s)) = [] ∨ 5 < (dgs (unsg (p4 s))).length ∨ aft (unsg (p4 s)) ≠ []
        · rw [if_pos h4] at h; cases h
        · rw [if_neg h4] at h; cases h
          have h5 : ¬ 5 < (dgs (unsg (p4 s))).length := fun e => h4 (.inr (.inl e))
          have h6 : aft (unsg (p4 s)) = [] := Classical.not_not.1 fun e => h4 (.inr (.inr e))
          obtain ⟨b1, b2⟩ := powV_lt h5 h6
          exact ⟨da, db, la, lb, b1, b2⟩

theorem tellF_len (neg : Bool) (N : Nat) (e : Int) : (tellF neg N e).1.dig.length ≤ 1000 := by
  by_cases h : May (finD neg N e)
  · rw [tellF_yes h]
    rcases may_cases h with ⟨n, h⟩ | h | ⟨n, h⟩ | h
    · rw [h]; simp
    · exact h.len
    · rw [h]; simp
    · rw [h]; simp
  · rw [tellF_no h]; simp

set_option maxRecDepth 100000 in
set_option maxHeartbeats 1000000 in
theorem parse_nan (w : World) : Calls Tryz.prog 39 #[.string ⟨#[110, 97, 110]⟩] w fun e w' => e = .returned (decErr (⟨2, false, [], 0⟩, 0)) ∧ Below w.heap.size w w' := by
  have Br0 := hide (Blk.newAt w (w.heap.size) (rfl) #[.int .i64 0, .bool false, .string ⟨#[]⟩, .int .i64 0] 62)
  have HB0 : Hid (Below w.heap.size w (w.alloc (.cells #[.int .i64 0, .bool false, .string ⟨#[]⟩, .int .i64 0] 62))) := ((Below.refl _ _).alloc (Nat.le_refl _) _)
  go_enter Tryz.func39, Tryz.ntmps39
  go_wp2
  refine bodyPost_ret (results_dec2 rfl _ _ _ _ _ _ _ rfl (Blk.new _ _ _)) rfl ?_
  exact ⟨rfl, (Below.refl _ _).alloc (Nat.le_refl _) _⟩

set_option maxRecDepth 100000 in
set_option maxHeartbeats 1000000 in
theorem parse_inf (w : World) : Calls Tryz.prog 39 #[.string ⟨#[105, 110, 102]⟩] w fun e w' => e = .returned (decErr (⟨1, false, [], 0⟩, 0)) ∧ Below w.heap.size w w' := by
  have Br0 := hide (Blk.newAt w (w.heap.size) (rfl) #[.int .i64 0, .bool false, .string ⟨#[]⟩, .int .i64 0] 62)
  have HB0 : Hid (Below w.heap.size w (w.alloc (.cells #[.int .i64 0, .bool false, .string ⟨#[]⟩, .int .i64 0] 62))) := ((Below.refl _ _).alloc (Nat.le_refl _) _)
  go_enter Tryz.func39, Tryz.ntmps39
  go_wp2
  refine bodyPost_ret (results_dec2 rfl _ _ _ _ _ _ _ rfl (Blk.new _ _ _)) rfl ?_
  exact ⟨rfl, (Below.refl _ _).alloc (Nat.le_refl _) _⟩

set_option maxRecDepth 100000 in
set_option maxHeartbeats 1000000 in
theorem parse_neg (w : World) : Calls Tryz.prog 39 #[.string ⟨#[45, 105, 110, 102]⟩] w fun e w' => e = .returned (decErr (⟨1, true, [], 0⟩, 0)) ∧ Below w.heap.size w w' := by
  have Br0 := hide (Blk.newAt w (w.heap.size) (rfl) #[.int .i64 0, .bool false, .string ⟨#[]⟩, .int .i64 0] 62)
  have HB0 : Hid (Below w.heap.size w (w.alloc (.cells #[.int .i64 0, .bool false, .string ⟨#[]⟩, .int .i64 0] 62))) := ((Below.refl _ _).alloc (Nat.le_refl _) _)
  go_enter Tryz.func39, Tryz.ntmps39
  go_wp2
  refine bodyPost_ret (results_dec2 rfl _ _ _ _ _ _ _ rfl (Blk.new _ _ _)) rfl ?_
  exact ⟨rfl, (Below.refl _ _).alloc (Nat.le_refl _) _⟩

set_option maxRecDepth 100000 in
set_option maxHeartbeats 1000000 in
theorem parse_none (s : ByteArray) (w : World) (hs : s.size ≤ 281474976710656) (h1 : bys s ≠ tNan) (h2 : bys s ≠ tInf) (h3 : bys s ≠ tNeg) (hp : parseT (bys s) = none) : Calls Tryz.prog 39 #[.string s] w fun e w' => e = .returned (decErr (⟨0, false, [], 0⟩, 50)) ∧ Below w.heap.size w w' := by
  have e1 := sl_ne h1
  have e2 := sl_ne h2
  have e3 := sl_ne h3
  unfold tNan at e1
  unfold tInf at e2
  unfold tNeg at e3
  have TK := hide (fun W => take_any s W hs)
  rw [hp] at TK
  unfold partsV numV at TK
  clear h1 h2 h3 hs hp
  have Br0 := hide (Blk.newAt w (w.heap.size) (rfl) #[.int .i64 0, .bool false, .string ⟨#[]⟩, .int .i64 0] 62)
  have HB0 : Hid (Below w.heap.size w (w.alloc (.cells #[.int .i64 0, .bool false, .string ⟨#[]⟩, .int .i64 0] 62))) := ((Below.refl _ _).alloc (Nat.le_refl _) _)
  go_enter Tryz.func39, Tryz.ntmps39
  go_wp2_with fail
  refine (TK.out _).mono ?_
  rintro e w1 ⟨rfl, hb⟩
  have Br1 := hide (Br0.out.below hb Br0.out.lt)
  have HB1 := hide (HB0.out.trans (hb.mono HB0.out.size))
  clear hb Br0 HB0 
  obtain ⟨yr0, yr1, yr2, yr3⟩ := Br1.out.four
  have Br2 := hide ((Br1.out.alloc (.cells #[.bool false, .string ⟨#[]⟩, .string ⟨#[]⟩, .int .i64 0] 102)))
  have Bn2 := hide ((Blk.newAt w1 (w1.heap.size) (rfl) #[.bool false, .string ⟨#[]⟩, .string ⟨#[]⟩, .int .i64 0] 102))
  have HB2 : Hid (Below w.heap.size w (w1.alloc (.cells #[.bool false, .string ⟨#[]⟩, .string ⟨#[]⟩, .int .i64 0] 102))) := (HB1.out.alloc HB1.out.size _)
  clear Br1 HB1 yr0 yr1 yr2 yr3
  obtain ⟨yr0, yr1, yr2, yr3⟩ := Br2.out.four
  obtain ⟨yn0, yn1, yn2, yn3⟩ := Bn2.out.four
  have fr0 := Br2.out.free 0
  have fr1 := Br2.out.free 1
  have fr2 := Br2.out.free 2
  have fr3 := Br2.out.free 3
  go_wp2
  refine bodyPost_ret (results_dec2 rfl _ _ _ _ _ _ _ rfl (Br2.out.put4 _ _ _ _)) rfl ?_
  exact ⟨rfl, below_put4 (HB2.out) (by omega) _ _ _ _⟩

set_option maxRecDepth 100000 in
set_option maxHeartbeats 1000000 in
theorem parse_some (s : ByteArray) (w : World) (p : Parts) (hs : s.size ≤ 140737488355328) (h1 : bys s ≠ tNan) (h2 : bys s ≠ tInf) (h3 : bys s ≠ tNeg) (hp : parseT (bys s) = some p) : Calls Tryz.prog 39 #[.string s] w fun e w' => e = .returned (decErr (tellF p.neg (decV (p.ahead ++ p.behind)) (p.pow - p.behind.length))) ∧ Below w.heap.size w w' := by
  have e1 := sl_ne h1
  have e2 := sl_ne h2
  have e3 := sl_ne h3
  unfold tNan at e1
  unfold tInf at e2
  unfold tNeg at e3
  obtain ⟨pa, pb, pc, pd, pe, pf⟩ := parts_ok hp
  rw [bys_len] at pc pd
  have TK := hide (fun W => take_any s W (by omega))
  rw [hp] at TK
  unfold partsV numV at TK
  obtain ⟨S, a, b, q⟩ := p
  simp only at pa pb pc pd pe pf TK ⊢
  obtain ⟨A, hA⟩ : ∃ A : ByteArray, A = ⟨a.toArray⟩ := ⟨_, rfl⟩
  obtain ⟨B, hB⟩ : ∃ B : ByteArray, B = ⟨b.toArray⟩ := ⟨_, rfl⟩
  rw [← hA, ← hB] at TK
  have hAs : A.size = a.length := by rw [hA, size_mk0]
  have hBs : B.size = b.length := by rw [hB, size_mk0]
  have hAB : bys (A ++ B) = a ++ b := by rw [bys_append, hA, hB, bys_mk, bys_mk]
  have FI := hide (fun W => fin_any S (A ++ B) (q - (B.size : Int)) W (by rw [ByteArray.size_append]; omega) (by omega) (by omega) (by rw [hAB]; exact pa.append pb))
  rw [hAB] at FI
  rw [← hBs]
  have hsum : A.size + B.size ≤ 9223372036854775807 := by omega
  have hsum2 : ¬ 9223372036854775807 < A.size + B.size := by omega
  have hl := tellF_len S (decV (a ++ b)) (q - (B.size : Int))
  rcases hT : tellF S (decV (a ++ b)) (q - (B.size : Int)) with ⟨⟨c, n, l, e⟩, er⟩
  rw [hT] at FI hl
  unfold decErr decVal at FI ⊢
  simp only at FI hl ⊢
  obtain ⟨D, hD⟩ : ∃ D : ByteArray, D = ⟨l.toArray⟩ := ⟨_, rfl⟩
  rw [← hD] at FI ⊢
  have CL := hide (fun W => clone_any D W (by rw [hD, size_mk0]; omega))
  have hq1 : -9000000000000000000 ≤ q - (B.size : Int) := by omega
  have hq2 : q - (B.size : Int) ≤ 9000000000000000000 := by omega
  clear h1 h2 h3 hs hp hA hB hAB hT hl hD pa pb hAs hBs pc pd
  have Br0 := hide (Blk.newAt w (w.heap.size) (rfl) #[.int .i64 0, .bool false, .string ⟨#[]⟩, .int .i64 0] 62)
  have HB0 : Hid (Below w.heap.size w (w.alloc (.cells #[.int .i64 0, .bool false, .string ⟨#[]⟩, .int .i64 0] 62))) := ((Below.refl _ _).alloc (Nat.le_refl _) _)
  go_enter Tryz.func39, Tryz.ntmps39
  go_wp2_with fail
  refine (TK.out _).mono ?_
  rintro e w1 ⟨rfl, hb⟩
  have Br1 := hide (Br0.out.below hb Br0.out.lt)
  have HB1 := hide (HB0.out.trans (hb.mono HB0.out.size))
  clear hb Br0 HB0 
  obtain ⟨yr0, yr1, yr2, yr3⟩ := Br1.out.four
  have Br2 := hide ((Br1.out.alloc (.cells #[.bool S, .string A, .string B, .int .i64 q] 102)))
  have Bn2 := hide ((Blk.newAt w1 (w1.heap.size) (rfl) #[.bool S, .string A, .string B, .int .i64 q] 102))
  have HB2 : Hid (Below w.heap.size w (w1.alloc (.cells #[.bool S, .string A, .string B, .int .i64 q] 102))) := (HB1.out.alloc HB1.out.size _)
  clear Br1 HB1 yr0 yr1 yr2 yr3
  obtain ⟨yr0, yr1, yr2, yr3⟩ := Br2.out.four
  obtain ⟨yn0, yn1, yn2, yn3⟩ := Bn2.out.four
  go_wp2_with fail
  refine (FI.out _).mono ?_
  rintro e w3 ⟨rfl, hb⟩
  have Br3 := hide (Br2.out.below hb Br2.out.lt)
  have Bn3 := hide (Bn2.out.below hb Bn2.out.lt)
  have HB3 := hide (HB2.out.trans (hb.mono HB2.out.size))
  clear hb Br2 Bn2 HB2 yr0 yr1 yr2 yr3 yn0 yn1 yn2 yn3
  have hlt := Br3.out.lt
  obtain ⟨yr0, yr1, yr2, yr3⟩ := Br3.out.four
  obtain ⟨yn0, yn1, yn2, yn3⟩ := Bn3.out.four
  go_wp2_with fail
  refine (CL.out _).mono ?_
  rintro e w4 ⟨rfl, hb⟩
  have Br4 := hide ((Br3.out.alloc (.cells #[.int .i64 (c : Int), .bool n, .string D, .int .i64 e] 62)).below hb (Br3.out.alloc (.cells #[.int .i64 (c : Int), .bool n, .string D, .int .i64 e] 62)).lt)
  have Bn4 := hide ((Bn3.out.alloc (.cells #[.int .i64 (c : Int), .bool n, .string D, .int .i64 e] 62)).below hb (Bn3.out.alloc (.cells #[.int .i64 (c : Int), .bool n, .string D, .int .i64 e] 62)).lt)
  have Bd4 := hide ((Blk.newAt w3 (w3.heap.size) (rfl) #[.int .i64 (c : Int), .bool n, .string D, .int .i64 e] 62).below hb (Blk.newAt w3 (w3.heap.size) (rfl) #[.int .i64 (c : Int), .bool n, .string D, .int .i64 e] 62).lt)
  have HB4 := hide ((HB3.out.alloc HB3.out.size _).trans (hb.mono (HB3.out.alloc HB3.out.size _).size))
  clear hb Br3 Bn3 HB3 yr0 yr1 yr2 yr3 yn0 yn1 yn2 yn3
  have hn1 : ¬ w3.heap.size = w.heap.size := by omega
  have hn2 : ¬ w.heap.size = w3.heap.size := by omega
  have hge : w.heap.size ≤ w3.heap.size := by omega
  clear hlt
  have fd2 := Bd4.out.free 2
  obtain ⟨yr0, yr1, yr2, yr3⟩ := Br4.out.four
  obtain ⟨yn0, yn1, yn2, yn3⟩ := Bn4.out.four
  obtain ⟨yd0, yd1, yd2, yd3⟩ := Bd4.out.four
  have fr0 := Br4.out.free 0
  have fr1 := Br4.out.free 1
  have fr2 := Br4.out.free 2
  have fr3 := Br4.out.free 3
  go_wp2
  refine bodyPost_ret (results_dec2 rfl _ _ _ _ _ _ _ rfl ((Br4.out.other (by simpa using hn1) _).put4 _ _ _ _)) rfl ?_
  exact ⟨rfl, below_put4 (HB4.out.setCell hge _) (by omega) _ _ _ _⟩

theorem Parse_any (s : ByteArray) (w : World) (hs : s.size ≤ 140737488355328) : Calls Tryz.prog 39 #[.string s] w fun e w' => e = .returned (decErr (parseD (bys s))) ∧ Below w.heap.size w w' := by
  unfold parseD
  by_cases h1 : bys s = tNan
  · rw [if_pos h1, ← mk_bys s, h1]; exact parse_nan w
  · rw [if_neg h1]
    by_cases h2 : bys s = tInf
    · rw [if_pos h2, ← mk_bys s, h2]; exact parse_inf w
    · rw [if_neg h2]
      by_cases h3 : bys s = tNeg
      · rw [if_pos h3, ← mk_bys s, h3]; exact parse_neg w
      · rw [if_neg h3]
        rcases hp : parseT (bys s) with _ | p
        · exact parse_none s w (by omega) h1 h2 h3 hp
        · exact parse_some s w p hs h1 h2 h3 hp

end Go.Proofs.YtionbkmbhhlmjaaGreatDoor

namespace Go.Proofs.YtionbkmbhhlmjaaGreatDoor

theorem p1_neg (l : List UInt8) : Lib.hasPrefix (45 :: l) [45] = true ∧ p1 (45 :: l) = l := by
  have h : Lib.hasPrefix (45 :: l) [45] = true := by rw [hp_one]; simp
  refine ⟨h, ?_⟩
  unfold p1 Lib.trimPrefix
  rw [if_pos h]; rfl

theorem p1_pos {s : List UInt8} (h : s.head? ≠ some 45) : Lib.hasPrefix s [45] = false ∧ p1 s = s := by
  have h1 : Lib.hasPrefix s [45] = false := by rw [hp_one]; simpa using h
  refine ⟨h1, ?_⟩
  unfold p1 Lib.trimPrefix
  rw [h1]; rfl

theorem dd_head (u : Nat) : ∃ b t, Lib.decDigits u = b :: t ∧ 48 ≤ b.toNat ∧ b.toNat ≤ 57 := by
  rcases h : Lib.decDigits u with _ | ⟨b, t⟩
  · exact absurd h (dd_ne u)
  · have := (dd_okT u).2.2
    rw [h] at this
    exact ⟨b, t, rfl, this.head⟩

theorem itoa_back (e : Int) : unsg (Lib.itoa e) = Lib.decDigits e.natAbs ∧ powV (Lib.itoa e) = e := by
  unfold Lib.itoa
  by_cases h : e < 0
  · rw [if_pos h]
    have e1 : unsg (45 :: Lib.decDigits e.natAbs) = Lib.decDigits e.natAbs := rfl
    refine ⟨e1, ?_⟩
    unfold powV
    rw [e1, dd_val]
    simp only [List.head?_cons, if_true]
    omega
  · rw [if_neg h]
    obtain ⟨b, t, hb, h1, h2⟩ := dd_head e.toNat
    have n1 : ¬ (Lib.decDigits e.toNat).head? = some 45 := by
      rw [hb]; simp only [List.head?_cons, Option.some.injEq]
      intro e; rw [e] at h1; exact absurd h1 (by decide)
    have n2 : ¬ (Lib.decDigits e.toNat).head? = some 43 := by
      rw [hb]; simp only [List.head?_cons, Option.some.injEq]
      intro e; rw [e] at h1; exact absurd h1 (by decide)
    have e0 : e.toNat = e.natAbs := by omega
    have e1 : unsg (Lib.decDigits e.toNat) = Lib.decDigits e.natAbs := by rw [unsg_same n1 n2, e0]
    refine ⟨e1, ?_⟩
    unfold powV
    rw [e1, if_neg n1, dd_val]
    omega

end Go.Proofs.YtionbkmbhhlmjaaGreatDoor

namespace Go.Proofs.YtionbkmbhhlmjaaGreatDoor

theorem parse_dot {s int frac : List UInt8} {neg : Bool} {e : Int} (hneg : Lib.hasPrefix s [45] = neg) (hp : p1 s = int ++ 46 :: (frac ++ 101 :: Lib.itoa e)) (hi : DigB int) (hf : DigB frac) (hne : ¬ (int = [] ∧ frac = [])) (h1 : -10000 ≤ e) (h2 : e ≤ 10000) : parseT s = some ⟨neg, int, frac, e⟩ := by
  have nd : ¬ (48 ≤ byt (46 :: (frac ++ 101 :: Lib.itoa e)) 0 ∧ byt (46 :: (frac ++ 101 :: Lib.itoa e)) 0 ≤ 57) := by rw [byt_cons0]; decide
  have ne : ¬ (48 ≤ byt (101 :: Lib.itoa e) 0 ∧ byt (101 :: Lib.itoa e) 0 ≤ 57) := by rw [byt_cons0]; decide
  have ea : pAhead s = int := by unfold pAhead; rw [hp]; exact (dgs_append hi (.inr nd)).1
  have e2 : p2 s = 46 :: (frac ++ 101 :: Lib.itoa e) := by unfold p2; rw [hp]; exact (dgs_append hi (.inr nd)).2
  have ed : Lib.hasPrefix (p2 s) [46] = true := by rw [e2, hp_one]; simp
  have et : Lib.trimPrefix (p2 s) [46] = frac ++ 101 :: Lib.itoa e := by unfold Lib.trimPrefix; rw [if_pos ed, e2]; rfl
  have ed2 : pDot s = true := ed
  have eb : pBehind s = frac := by unfold pBehind; rw [ed2, if_pos rfl, et]; exact (dgs_append hf (.inr ne)).1
  have e3 : p3 s = 101 :: Lib.itoa e := by unfold p3; rw [ed2, if_pos rfl, et]; exact (dgs_append hf (.inr ne)).2
  have e4 : p4 s = Lib.itoa e := by unfold p4; rw [e3]; rfl
  obtain ⟨u1, u2⟩ := itoa_back e
  obtain ⟨g1, g2⟩ := dgs_all (dd_okT e.natAbs).2.2
  have gl : (Lib.decDigits e.natAbs).length ≤ 5 := sizeN_le (Nat.lt_of_le_of_lt (show e.natAbs ≤ 10000 by omega) (by decide)) (by omega)
  unfold parseT
  rw [ea, eb, if_neg hne, e3, if_neg (by simp), if_neg (by rw [byt_cons0]; decide), e4, u1, g1, g2, if_neg (by
    rintro (h | h | h)
    · exact dd_ne _ h
    · omega
    · exact h rfl), hneg, u2]

theorem parseD_of {l : List UInt8} {p : Parts} (h : parseT l = some p) : parseD l = tellF p.neg (decV (p.ahead ++ p.behind)) (p.pow - p.behind.length) := by
  have n1 : parseT tNan = none := by decide +kernel
  have n2 : parseT tInf = none := by decide +kernel
  have n3 : parseT tNeg = none := by decide +kernel
  unfold parseD
  rw [if_neg (fun e => by rw [e, n1] at h; cases h), if_neg (fun e => by rw [e, n2] at h; cases h), if_neg (fun e => by rw [e, n3] at h; cases h), h]
  rfl

def shownT (neg : Bool) (int frac : List UInt8) (e : Int) : List UInt8 := (if neg then [45] else []) ++ (int ++ 46 :: (frac ++ 101 :: Lib.itoa e))

theorem parse_shown (neg : Bool) {int frac : List UInt8} {e : Int} (hi : DigB int) (hf : DigB frac) (hne : ¬ (int = [] ∧ frac = [])) (h1 : -10000 ≤ e) (h2 : e ≤ 10000) :
    parseD (shownT neg int frac e) = tellF neg (decV (int ++ frac)) (e - frac.length) := by
  cases neg
  · have hh : (int ++ 46 :: (frac ++ 101 :: Lib.itoa e)).head? ≠ some 45 := by
      cases int with
      | nil => simp
      | cons b t =>
        have := hi.head
        simp only [List.cons_append, List.head?_cons, ne_eq, Option.some.injEq]
        intro g
        rw [g] at this
        exact absurd this.1 (by decide)
    obtain ⟨q1, q2⟩ := p1_pos hh
    exact parseD_of (parse_dot q1 q2 hi hf hne h1 h2)
  · obtain ⟨q1, q2⟩ := p1_neg (int ++ 46 :: (frac ++ 101 :: Lib.itoa e))
    exact parseD_of (parse_dot q1 q2 hi hf hne h1 h2)

theorem mem_dropW {p : UInt8 → Bool} {x : UInt8} (hx : p x = false) : ∀ {l : List UInt8}, x ∈ l → x ∈ l.dropWhile p
  | b :: t, h => by
    rw [List.dropWhile_cons]
    split
    · rename_i hb
      rcases List.mem_cons.1 h with e | e
      · subst e; rw [hx] at hb; cases hb
      · exact mem_dropW hx e
    · exact h

theorem trimS_nil {l cs : List UInt8} : Lib.trimS l cs = [] ↔ ∀ x ∈ l, cs.contains x = true := by
  constructor
  · intro h x hx
    rcases hc : cs.contains x with _ | _
    · exfalso
      have m1 : x ∈ Lib.trimRightS l cs := by
        unfold Lib.trimRightS
        rw [List.mem_reverse]
        exact mem_dropW hc (List.mem_reverse.2 hx)
      have m2 : x ∈ Lib.trimS l cs := by
        unfold Lib.trimS Lib.trimLeftS
        exact mem_dropW hc m1
      rw [h] at m2; cases m2
    · rfl
  · intro h
    have e1 : Lib.trimRightS l cs = [] := by
      unfold Lib.trimRightS
      rw [List.reverse_eq_nil_iff]
      have : ∀ m : List UInt8, (∀ x ∈ m, cs.contains x = true) → m.dropWhile (cs.contains ·) = [] := by
        intro m
        induction m with
        | nil => intro _; rfl
        | cons b t ih =>
          intro hm
          rw [List.dropWhile_cons, if_pos (hm b (List.mem_cons_self ..))]
          exact ih fun x hx => hm x (List.mem_cons_of_mem _ hx)
      exact this _ fun x hx => h x (List.mem_reverse.1 hx)
    unfold Lib.trimS
    rw [e1]; rfl

def tenD : List UInt8 := [48, 49, 50, 51, 52, 53, 54, 55, 56, 57]

theorem tenD_has : ∀ b : UInt8, tenD.contains b = decide (48 ≤ b.toNat ∧ b.toNat ≤ 57) := by
  intro b
  have h : ∀ n : _root_.Fin 256, tenD.contains (UInt8.ofNat n.val) = decide (48 ≤ (UInt8.ofNat n.val).toNat ∧ (UInt8.ofNat n.val).toNat ≤ 57) := by decide +kernel
  have := h ⟨b.toNat, b.toNat_lt⟩
  simpa using this

theorem trim_digB {l : List UInt8} : Lib.trimS l tenD = [] ↔ DigB l := by
  rw [trimS_nil]
  constructor
  · intro h k hk
    have hm := h l[k] (List.getElem_mem hk)
    rw [tenD_has] at hm
    have := of_decide_eq_true hm
    unfold byt
    rw [List.getElem?_eq_getElem hk]
    exact this
  · intro h x hx
    obtain ⟨k, hk, rfl⟩ := List.getElem_of_mem hx
    have := h k hk
    unfold byt at this
    rw [List.getElem?_eq_getElem hk] at this
    rw [tenD_has]
    exact decide_eq_true this

end Go.Proofs.YtionbkmbhhlmjaaGreatDoor

namespace Go.Proofs.YtionbkmbhhlmjaaGreatDoor

structure Pc where
  text : ByteArray
  field : Int
deriving DecidableEq

structure Sy where
  (d0 d1 d2 d3 d4 d5 d6 d7 d8 d9 dec grp min plu pct pml exp inf nan app rng : ByteArray)

def Sy.dig (s : Sy) : Nat → ByteArray
  | 0 => s.d0
  | 1 => s.d1
  | 2 => s.d2
  | 3 => s.d3
  | 4 => s.d4
  | 5 => s.d5
  | 6 => s.d6
  | 7 => s.d7
  | 8 => s.d8
  | _ => s.d9

def mkP (l : List UInt8) : ByteArray := ⟨l.toArray⟩
theorem bys_mkP (l : List UInt8) : bys (mkP l) = l := rfl
theorem mkP_bys (s : ByteArray) : mkP (bys s) = s := rfl
theorem mkP_size (l : List UInt8) : (mkP l).size = l.length := by rw [← bys_len]; rfl
theorem mkP_app (a b : List UInt8) : mkP (a ++ b) = mkP a ++ mkP b := by
  have : bys (mkP a ++ mkP b) = a ++ b := by rw [bys_append]; rfl
  rw [← mkP_bys (mkP a ++ mkP b), this]

def digT (s : Sy) (c : UInt8) : ByteArray := s.dig (c.toNat - 48)
def wrL (s : Sy) (ds : List UInt8) : List UInt8 := (ds.map fun c => bys (digT s c)).flatten
theorem wrL_cons (s : Sy) (c : UInt8) (ds : List UInt8) : wrL s (c :: ds) = bys (digT s c) ++ wrL s ds := rfl
theorem wrL_app (s : Sy) (a b : List UInt8) : wrL s (a ++ b) = wrL s a ++ wrL s b := by unfold wrL; rw [List.map_append, List.flatten_append]

def oneP (t : ByteArray) (f : Int) : List Pc := if t.size = 0 then [] else [⟨t, f⟩]
theorem oneP_len (t : ByteArray) (f : Int) : (oneP t f).length ≤ 1 := by unfold oneP; split <;> simp

def furR (first further : Int) : Int := if further ≤ 0 then first else further
def Grp (n : Nat) (first least : Int) : Prop := 0 < first ∧ max 1 least ≤ (n : Int) - first
instance (n : Nat) (first least : Int) : Decidable (Grp n first least) := inferInstanceAs (Decidable (_ ∧ _))
def foreI (n : Nat) (first R : Int) : Int := if 0 < ((n : Int) - first) % R then ((n : Int) - first) % R else R
def tailS (R F k : Nat) : List Nat := List.replicate k R ++ [F]
theorem tailS_zero (R F : Nat) : tailS R F 0 = [F] := rfl
theorem tailS_succ (R F k : Nat) : tailS R F (k + 1) = R :: tailS R F k := rfl
theorem tailS_ne (R F k : Nat) : tailS R F k ≠ [] := by cases k <;> simp [tailS, List.replicate_succ]
def szG (n : Nat) (first further least : Int) : List Nat :=
  if n = 0 then [] else if Grp n first least then (foreI n first (furR first further)).toNat :: tailS (furR first further).toNat first.toNat (((n : Int) - first - foreI n first (furR first further)) / furR first further).toNat else [n]
def endI (n : Nat) (first further least : Int) (a : Nat) : Int :=
  if a = 0 then (if Grp n first least then foreI n first (furR first further) else n) else if first < (n : Int) - a then a + furR first further else n
def befB (n : Nat) (first further least k : Int) : Bool :=
  decide (Grp n first least) && (decide (first ≤ k) && (decide (k < n) && decide ((k - first) % furR first further = 0)))
def Rem (n : Nat) (first further least : Int) (a : Nat) (L : List Nat) : Prop :=
  a ≤ n ∧ ((a = 0 ∧ L = szG n first further least) ∨ (0 < a ∧ a = n ∧ L = []) ∨ (Grp n first least ∧ 0 < a ∧ ∃ k, L = tailS (furR first further).toNat first.toNat k ∧ (a : Int) + k * furR first further + first = n))

theorem furR_pos {first further : Int} (h : 0 < first) : 0 < furR first further := by unfold furR; split <;> omega

theorem fore_split {n : Nat} {first least : Int} (R : Int) (hR : 0 < R) (h : Grp n first least) : ∃ q : Nat, (n : Int) - first = foreI n first R + q * R ∧ 0 < foreI n first R ∧ foreI n first R ≤ R ∧ foreI n first R ≤ (n : Int) - first := by
  obtain ⟨h1, h2⟩ := h
  have h3 : 1 ≤ (n : Int) - first := by omega
  unfold foreI
  generalize (n : Int) - first = m at *
  have e := Int.mul_ediv_add_emod m R
  have b1 := Int.emod_nonneg m (show R ≠ 0 by omega)
  have b2 := Int.emod_lt_of_pos m hR
  have b3 : 0 ≤ m / R := Int.ediv_nonneg (by omega) (by omega)
  generalize m % R = r at *
  by_cases hr : 0 < r
  · rw [if_pos hr]
    refine ⟨(m / R).toNat, ?_, hr, by omega, ?_⟩
    · rw [Int.toNat_of_nonneg b3, Int.mul_comm (m / R)]; omega
    · have : 0 ≤ R * (m / R) := Int.mul_nonneg (by omega) b3
      omega
  · rw [if_neg hr]
    obtain rfl : r = 0 := by omega
    have b4 : 0 < m / R := by
      generalize m / R = Q at *
      by_cases h : 0 < Q
      · exact h
      · obtain rfl : Q = 0 := by omega
        rw [Int.mul_zero] at e; omega
    have e2 : m = R + (m / R - 1) * R := by
      rw [Int.sub_mul, Int.one_mul, Int.mul_comm (m / R)]; omega
    refine ⟨(m / R - 1).toNat, ?_, hR, Int.le_refl _, ?_⟩
    · rw [Int.toNat_of_nonneg (by omega)]; exact e2
    · have : 0 ≤ (m / R - 1) * R := Int.mul_nonneg (by omega) (by omega)
      omega

theorem emod_small {x R : Int} (h0 : 0 ≤ x) (h1 : x < R) (k : Nat) : (x + k * R) % R = x := by
  rw [Int.add_mul_emod_self_right, Int.emod_eq_of_lt h0 h1]

theorem Rem.step {n : Nat} {first further least : Int} {a : Nat} {L : List Nat} (h : Rem n first further least a L) (ha : a < n) :
    ∃ s L', L = s :: L' ∧ 0 < s ∧ a + s ≤ n ∧ endI n first further least a = ((a + s : Nat) : Int) ∧ Rem n first further least (a + s) L' ∧ (∀ i, a < i → i ≤ a + s → (decide (i = n) || befB n first further least ((n : Int) - i)) = decide (i = a + s)) ∧ (L' = [] ↔ a + s = n) := by
  obtain ⟨_, ⟨rfl, rfl⟩ | ⟨_, h2, _⟩ | ⟨hg, h0, k, rfl, hk⟩⟩ := h
  · by_cases hg : Grp n first least
    · have hR := furR_pos (further := further) hg.1
      obtain ⟨q, e1, e2, e3, e4⟩ := fore_split (furR first further) hR hg
      have ef : 0 < first := hg.1
      have eS : szG n first further least = (foreI n first (furR first further)).toNat :: tailS (furR first further).toNat first.toNat q := by
        unfold szG
        rw [if_neg (by omega), if_pos hg]
        congr 2
        have : (n : Int) - first - foreI n first (furR first further) = q * furR first further := by omega
        rw [this, Int.mul_ediv_cancel _ (by omega)]
        omega
      have eE : endI n first further least 0 = foreI n first (furR first further) := by unfold endI; rw [if_pos rfl, if_pos hg]
      have eB : ∀ k, befB n first further least k = (decide (first ≤ k) && (decide (k < n) && decide ((k - first) % furR first further = 0))) := by
        intro k; unfold befB; rw [decide_eq_true hg, Bool.true_and]
      generalize foreI n first (furR first further) = f at *
      generalize hRR : furR first further = R at *
      refine ⟨f.toNat, _, eS, by omega, by omega, by rw [eE]; omega, ⟨by omega, .inr (.inr ⟨hg, by omega, q, by rw [hRR], by rw [hRR]; omega⟩)⟩, ?_, ?_⟩
      · intro i hi1 hi2
        have hne : ¬ i = n := by omega
        rw [eB, decide_eq_false hne, Bool.false_or, decide_eq_true (show first ≤ (n : Int) - i by omega), decide_eq_true (show (n : Int) - i < n by omega), Bool.true_and, Bool.true_and]
        have : (n : Int) - i - first = (f - i) + q * R := by omega
        rw [this, decide_eq_decide]
        by_cases hie : (i : Int) = f
        · rw [show f - (i : Int) = 0 by omega, Int.zero_add, Int.mul_emod_left]
          exact ⟨fun _ => by omega, fun _ => rfl⟩
        · rw [emod_small (by omega) (by omega)]
          exact ⟨fun _ => by omega, fun _ => by omega⟩
      · exact ⟨fun h => absurd h (tailS_ne _ _ _), fun h => by omega⟩
    · refine ⟨n, [], by unfold szG; rw [if_neg (by omega), if_neg hg], ha, by omega, by unfold endI; rw [if_pos rfl, if_neg hg]; omega, ⟨by omega, .inr (.inl ⟨by omega, by omega, rfl⟩)⟩, ?_, ⟨fun _ => by omega, fun _ => rfl⟩⟩
      intro i hi1 hi2
      unfold befB
      rw [decide_eq_false hg, Bool.false_and, Bool.or_false, Nat.zero_add]
  · omega
  · have hR := furR_pos (further := further) hg.1
    have ef : 0 < first := hg.1
    have eE : endI n first further least a = if first < (n : Int) - a then (a : Int) + furR first further else n := by unfold endI; rw [if_neg (by omega)]
    have eB : ∀ k, befB n first further least k = (decide (first ≤ k) && (decide (k < n) && decide ((k - first) % furR first further = 0))) := by
      intro k; unfold befB; rw [decide_eq_true hg, Bool.true_and]
    generalize hRR : furR first further = R at *
    cases k with
    | zero =>
      rw [Int.natCast_zero, Int.zero_mul] at hk
      refine ⟨first.toNat, [], by rw [tailS_zero], by omega, by omega, by rw [eE, if_neg (by omega)]; omega, ⟨by omega, .inr (.inl ⟨by omega, by omega, rfl⟩)⟩, ?_, ⟨fun _ => by omega, fun _ => rfl⟩⟩
      intro i hi1 hi2
      by_cases hin : i = n
      · rw [decide_eq_true hin, decide_eq_true (show i = a + first.toNat by omega)]; rfl
      · rw [eB, decide_eq_false hin, decide_eq_false (show ¬ first ≤ (n : Int) - i by omega), decide_eq_false (show ¬ i = a + first.toNat by omega)]; rfl
    | succ k =>
      have hk' : (a : Int) + R + k * R + first = n := by
        rw [Int.natCast_add, Int.add_mul, show ((1 : Nat) : Int) * R = R by simp] at hk
        omega
      have hkR : 0 ≤ (k : Int) * R := Int.mul_nonneg (by omega) (by omega)
      generalize hkk : (k : Int) * R = KR at *
      refine ⟨R.toNat, _, tailS_succ _ _ _, by omega, by omega, by rw [eE, if_pos (by omega)]; omega, ⟨by omega, .inr (.inr ⟨hg, by omega, k, by rw [hRR], by rw [hRR, hkk]; omega⟩)⟩, ?_, ⟨fun h => absurd h (tailS_ne _ _ _), fun h => by omega⟩⟩
      intro i hi1 hi2
      rw [eB, decide_eq_false (show ¬ i = n by omega), Bool.false_or, decide_eq_true (show first ≤ (n : Int) - i by omega), decide_eq_true (show (n : Int) - i < n by omega), Bool.true_and, Bool.true_and]
      have : (n : Int) - i - first = ((a : Int) + R - i) + k * R := by omega
      rw [this, decide_eq_decide]
      by_cases hie : (i : Int) = a + R
      · rw [show (a : Int) + R - i = 0 by omega, Int.zero_add, Int.mul_emod_left]
        exact ⟨fun _ => by omega, fun _ => rfl⟩
      · rw [emod_small (by omega) (by omega)]
        exact ⟨fun _ => by omega, fun _ => by omega⟩

theorem Rem.start (n : Nat) (first further least : Int) : Rem n first further least 0 (szG n first further least) := ⟨Nat.zero_le _, .inl ⟨rfl, rfl⟩⟩
theorem Rem.done {n : Nat} {first further least : Int} {L : List Nat} (h : Rem n first further least n L) : L = [] := by
  obtain ⟨_, ⟨h1, h2⟩ | ⟨_, _, h2⟩ | ⟨hg, h0, k, _, hk⟩⟩ := h
  · rw [h2]
    unfold szG
    rw [if_pos h1]
  · exact h2
  · have hR := furR_pos (further := further) hg.1
    have := hg.1
    have hkR : 0 ≤ (k : Int) * furR first further := Int.mul_nonneg (by omega) (by omega)
    omega

def intT (s : Sy) : List Nat → List UInt8 → List Pc
  | [], _ => []
  | a :: t, ds => oneP s.grp 3 ++ (oneP (mkP (wrL s (ds.take a))) 2 ++ intT s t (ds.drop a))
def intP (s : Sy) : List Nat → List UInt8 → List Pc
  | [], _ => []
  | a :: t, ds => oneP (mkP (wrL s (ds.take a))) 2 ++ intT s t (ds.drop a)
theorem intT_len (s : Sy) : ∀ (L : List Nat) (ds : List UInt8), (intT s L ds).length ≤ 2 * L.length
  | [], _ => Nat.zero_le _
  | a :: t, ds => by
    have h1 := intT_len s t (ds.drop a)
    have h2 := oneP_len s.grp 3
    have h3 := oneP_len (mkP (wrL s (ds.take a))) 2
    simp only [intT, List.length_append, List.length_cons]
    omega
theorem intP_len (s : Sy) (L : List Nat) (ds : List UInt8) : (intP s L ds).length ≤ 2 * L.length := by
  cases L with
  | nil => exact Nat.zero_le _
  | cons a t =>
    have h1 := intT_len s t (ds.drop a)
    have h3 := oneP_len (mkP (wrL s (ds.take a))) 2
    simp only [intP, List.length_append, List.length_cons]
    omega

def fraP (s : Sy) (x : ShownT) (always : Bool) : List Pc := (if x.frac ≠ [] ∨ always = true then oneP s.dec 4 else []) ++ oneP (mkP (wrL s x.frac)) 5

noncomputable def pcsP (x : ShownT) (s : Sy) (first further least : Int) (always : Bool) : List Pc := open Classical in
  if ¬ MayS x then [] else if x.cls = 1 then oneP s.inf 2 else if x.cls = 2 then oneP s.nan 2 else intP s (szG x.int.length first further least) x.int ++ fraP s x always
def fillL (n : Nat) (least : Int) : List UInt8 := List.replicate (min 99 (least - (Lib.decDigits n).length)).toNat 48 ++ Lib.decDigits n
def sgnP (e : Int) (plus : Bool) (s : Sy) : List Pc := if e < 0 then oneP s.min 7 else if plus = true then oneP s.plu 7 else []
def expP (e least : Int) (plus : Bool) (s : Sy) : List Pc := oneP s.exp 6 ++ sgnP e plus s ++ oneP (mkP (wrL s (fillL e.natAbs least))) 8

end Go.Proofs.YtionbkmbhhlmjaaGreatDoor

namespace Go.Proofs.YtionbkmbhhlmjaaGreatDoor
open Go.RowKit

theorem infoPc : (Tryz.prog.info? 34).map (fun i => (i.zero, i.size, i.bytes)) = some (some (.agg #[.string ⟨#[]⟩, .int .i64 0]), 2, 24) := by kernel_rfl
theorem infoSt : (Tryz.prog.info? 9).map (fun i => (i.zero, i.size, i.bytes)) = some (some (.string ⟨#[]⟩), 1, 16) := by kernel_rfl
theorem infoLs : (Tryz.prog.info? 53).map (fun i => (i.zero, i.size, i.bytes)) = some (some (.slice none 0 0), 1, 24) := by kernel_rfl

def cellsP : List Pc → List Value
  | [] => []
  | p :: l => .string p.text :: .int .i64 p.field :: cellsP l
theorem cellsP_app : ∀ a b : List Pc, cellsP (a ++ b) = cellsP a ++ cellsP b
  | [], b => rfl
  | p :: a, b => by rw [List.cons_append, cellsP, cellsP_app a b, cellsP]; rfl
theorem cellsP_one : ∀ (l : List Pc) (u : Value), u ∈ cellsP l → u.oneCell' = true
  | [], u, h => by cases h
  | p :: l, u, h => by
    rw [cellsP] at h
    simp only [List.mem_cons] at h
    rcases h with rfl | rfl | h
    · rfl
    · rfl
    · exact cellsP_one l u h
def pcZ : Pc := ⟨⟨#[]⟩, 0⟩
def pcN (l : List Pc) (i : Nat) : Pc := l[i]?.getD pcZ
theorem pcN_some {l : List Pc} {i : Nat} (h : i < l.length) : l[i]? = some (pcN l i) := by unfold pcN; rw [List.getElem?_eq_getElem h]; rfl
theorem cellsP_at : ∀ (l : List Pc) (i : Nat), i < l.length → (cellsP l)[i * 2]? = some (.string (pcN l i).text) ∧ (cellsP l)[i * 2 + 1]? = some (.int .i64 (pcN l i).field)
  | [], i, h => by simp at h
  | p :: l, 0, _ => ⟨rfl, rfl⟩
  | p :: l, i + 1, h => by
    have q := cellsP_at l i (by simpa using h)
    have e : pcN (p :: l) (i + 1) = pcN l i := by simp [pcN]
    rw [cellsP, e, show (i + 1) * 2 = i * 2 + 1 + 1 by omega]
    simpa using q

theorem cellD_lt {w : World} {a : Addr} {v : Value} (hc : w.cell? a = some v) : a.block < w.heap.size := by
  rcases Nat.lt_or_ge a.block w.heap.size with h' | h'
  · exact h'
  · simp [World.cell?, Array.getElem?_eq_none h'] at hc
theorem cellD_on {w w' : World} {a b : Nat} {v : Value} (hb : Below w.heap.size w w') (hc : w.cell? ⟨a, b, none⟩ = some v) : w'.cell? ⟨a, b, none⟩ = some v := (hb.cell (cellD_lt hc)).trans hc
theorem ownD_below {w w' : World} {B n k : Nat} {e : TypeId} {v : Value} {xs : List Value} (h : w.ownsRow B e k v n xs) (hb : Below w.heap.size w w') : w'.ownsRow B e k v n xs :=
  World.ownsRow.kept h (row := none) ⟨hb.os, hb.tape, hb.output, hb.size, fun k hk _ => hb.block k hk⟩ (by cases v.ownBlock <;> simp)
theorem ownD_set {w : World} {B D i n k : Nat} {e : TypeId} {v u : Value} {xs : List Value} (h : w.ownsRow B e k v n xs) (hD : D < B) : (w.setCell ⟨D, i, none⟩ u).ownsRow B e k v n xs := ownsRow_setCell_below h (a := ⟨D, i, none⟩) hD u
theorem ownD_slice {w : World} {B n k : Nat} {e : TypeId} {v : Value} {xs : List Value} (h : w.ownsRow B e k v n xs) : ∃ ao cap, v = .slice ao n cap := by
  rcases h.2 with ⟨hv, hn⟩ | ⟨g, cap, cur, hv, _⟩
  · exact ⟨none, 0, by rw [hv, hn]⟩
  · exact ⟨_, cap, hv⟩
theorem ownD_some {w : World} {B n k : Nat} {e : TypeId} {v : Value} {xs : List Value} (h : w.ownsRow B e k v n xs) (hn : n ≠ 0) : ∃ g cap, v = .slice (some ⟨g, 0, none⟩) n cap ∧ B ≤ g ∧ g < w.heap.size ∧ n ≤ cap := by
  rcases h.2 with ⟨_, q⟩ | ⟨g, cap, cur, hv, hb, hg, hc, _⟩
  · exact absurd q hn
  · exact ⟨g, cap, hv, hb, (Array.getElem?_eq_some_iff.1 hg).1, hc⟩

def OthD (D : Nat) (r : Option Nat) (w w' : World) : Prop := w.heap.size ≤ w'.heap.size ∧ ∀ b, b < w.heap.size → b ≠ D → some b ≠ r → w'.heap[b]? = w.heap[b]?
theorem OthD.refl (D : Nat) (r : Option Nat) (w : World) : OthD D r w w := ⟨Nat.le_refl _, fun _ _ _ _ => rfl⟩
theorem OthD.below {D : Nat} {r : Option Nat} {w w' w'' : World} (h : OthD D r w w') (hb : Below w'.heap.size w' w'') : OthD D r w w'' :=
  ⟨Nat.le_trans h.1 hb.size, fun b h1 h2 h3 => (hb.block b (Nat.lt_of_lt_of_le h1 h.1)).trans (h.2 b h1 h2 h3)⟩
theorem OthD.set {D : Nat} {r : Option Nat} {w w' : World} (h : OthD D r w w') (c i : Nat) (v : Value) (hc : c = D ∨ w.heap.size ≤ c ∨ r = some c) : OthD D r w (w'.setCell ⟨c, i, none⟩ v) := by
  refine ⟨by rw [show (w'.setCell ⟨c, i, none⟩ v).heap.size = w'.heap.size by simp [World.setCell]]; exact h.1, fun b h1 h2 h3 => ?_⟩
  have hne : c ≠ b := by
    rintro rfl
    rcases hc with q | q | q
    · exact h2 q
    · omega
    · exact h3 q.symm
  rw [← h.2 b h1 h2 h3]
  simp [World.setCell, Array.getElem?_modify, hne]
theorem OthD.alloc {D : Nat} {r : Option Nat} {w w' : World} (h : OthD D r w w') (o : Obj) : OthD D r w (w'.alloc o) := h.below ((Below.refl _ _).alloc (Nat.le_refl _) _)
theorem OthD.grown {D : Nat} {r : Option Nat} {w w' w'' : World} (h : OthD D r w w') (hg : w'.grownBy w'' r) : OthD D r w w'' :=
  ⟨Nat.le_trans h.1 hg.size, fun b h1 h2 h3 => (hg.block b (Nat.lt_of_lt_of_le h1 h.1) h3).trans (h.2 b h1 h2 h3)⟩

theorem tlD_ne {s : ByteArray} (h : s.size ≠ 0) : ¬ s.toList = [] := fun e => h (by rw [sl] at e; rw [← bys_len, e]; rfl)
theorem tlD_ie {s : ByteArray} (h : s.size ≠ 0) : s.toList.isEmpty = false := by
  cases hh : s.toList with
  | nil => exact absurd hh (tlD_ne h)
  | cons a l => rfl
theorem tlD_nb {s : ByteArray} (h : s.size ≠ 0) : (s.toList == []) = false := by
  cases hh : s.toList with
  | nil => exact absurd hh (tlD_ne h)
  | cons a l => rfl
theorem emptyD {s : ByteArray} (h : s.size = 0) : s = ⟨#[]⟩ := by
  have e : bys s = [] := List.eq_nil_of_length_eq_zero (by rw [bys_len]; exact h)
  rw [← mkP_bys s, e]; rfl
theorem Blk.set0of1 {w : World} {b : Nat} {x0 : Value} {t : TypeId} (h : Blk w b #[x0] t) (v : Value) : Blk (w.setCell ⟨b, 0, none⟩ v) b #[v] t := by
  unfold Blk at *
  simp only [World.setCell, Array.getElem?_modify, if_true, h, Option.map_some]
  rfl

def RowV (w : World) (D : Nat) (v : Value) (ps : List Pc) : Prop := Blk w D #[v] 50 ∧ w.ownsRow (D + 1) 34 2 v ps.length (cellsP ps)
theorem RowV.below {w w' : World} {D : Nat} {v : Value} {ps : List Pc} (h : RowV w D v ps) (hb : Below w.heap.size w w') : RowV w' D v ps := ⟨h.1.below hb h.1.lt, ownD_below h.2 hb⟩
theorem wpP_append {w : World} {ops : Array Oper} {rest : List Oper} {o : Oper} {a : Act} {Q : Exit → Act → World → Prop} (hgd : o.guard = none) (s x : Operand) (T : TypeId)
    (ho : o.op = .call { callee := .builtin .append, args := #[s, x], argTypes := #[T, T] }) (hT : Tryz.prog.underlying T = some (.slice 34))
    (base : Nat) (v : Value) (n : Nat) (xs : List Value) (hs : a.eval s = v) (hown : w.ownsRow base 34 2 v n xs)
    (g : Nat) (t : ByteArray) (f : Int) (hx : a.eval x = .slice (some ⟨g, 0, none⟩) 1 1) (hsrc : Blk w g #[.string t, .int .i64 f] 34) (XS : List Value) (hX : xs ++ [.string t, .int .i64 f] = XS) (hb : (n + 1) * 24 ≤ 140737488355328) (hbase : base ≤ w.heap.size)
    (h : ∀ uo uc w', w'.ownsRow base 34 2 (.slice uo (n + 1) uc) (n + 1) XS → w.grownBy w' v.ownBlock → wpList Tryz.prog ops Q rest (a.put o.dst (.slice uo (n + 1) uc)) w') : wpList Tryz.prog ops Q (o :: rest) a w := by
  obtain ⟨i0, hi, hz0, hz1, hz2⟩ := info_parts infoPc
  subst hX
  refine wpList_append_own w hgd s x _ ho base _ i0 (.agg #[.string ⟨#[]⟩, .int .i64 0]) 2 24 hT hi hz0 hz1 hz2 rfl (by decide) v n xs hs hown ⟨g, 0, none⟩ 1 1 [.string t, .int .i64 f] hx rfl (fun j u hj => ?_) (fun u hu => ?_) (by unfold maxLen; omega) hb hbase (fun v' w' h3 h4 _ => ?_)
  · rw [Addr.add_lit, Nat.zero_add, hsrc.cell j]
    simpa using hj
  · simp only [List.mem_cons, List.not_mem_nil, or_false] at hu
    rcases hu with rfl | rfl <;> rfl
  · obtain ⟨uo, uc, rfl⟩ := ownD_slice h3
    exact h uo uc w' h3 h4

set_option maxRecDepth 100000 in
set_option maxHeartbeats 4000000 in
theorem put_more {w : World} {D : Nat} {v : Value} (ps : List Pc) (t : ByteArray) (f : Int) (h : RowV w D v ps) (hp : ps.length ≤ 1000000) (ht : t.size ≠ 0) :
    Calls Tryz.prog 21 #[.pointer (some ⟨D, 0, none⟩), .string t, .int .i64 f] w fun e w' => e = .returned (.tuple #[]) ∧ (∃ v', RowV w' D v' (ps ++ [⟨t, f⟩])) ∧ Below D w w' ∧ OthD D v.ownBlock w w' := by
  obtain ⟨h1, h2⟩ := h
  have hDw := h1.lt
  obtain ⟨ao, cap, rfl⟩ := ownD_slice h2
  obtain ⟨n, hn⟩ : ∃ n, n = ps.length := ⟨_, rfl⟩
  obtain ⟨xs, hxs⟩ : ∃ xs, xs = cellsP ps := ⟨_, rfl⟩
  rw [← hn] at hp h1 h2 ⊢
  rw [← hxs] at h2
  have i1 := tlD_ne ht
  have i2 := tlD_ie ht
  have i3 := tlD_nb ht
  have n1 : ¬ w.heap.size = D := by omega
  have n2 : ¬ D = w.heap.size := by omega
  have c0 := h1.cell 0
  have f0 := h1.free 0
  have BA : Hid (Below w.heap.size w (w.alloc (.cells #[.string t, .int .i64 f] 34))) := hide ((Below.refl _ _).alloc (Nat.le_refl _) _)
  have M1a := hide (h1.alloc (.cells #[.string t, .int .i64 f] 34))
  have OW : Hid ((w.alloc (.cells #[.string t, .int .i64 f] 34)).ownsRow (D + 1) 34 2 (.slice ao n cap) n xs) := hide (ownD_below h2 BA.out)
  have TB : Hid (Blk (w.alloc (.cells #[.string t, .int .i64 f] 34)) w.heap.size #[.string t, .int .i64 f] 34) := hide (Blk.newAt w w.heap.size rfl _ _)
  have BASE : Hid (D + 1 ≤ (w.alloc (.cells #[.string t, .int .i64 f] 34)).heap.size) := hide (by have := BA.out.size; omega)
  have GK : Hid (∀ w4, (w.alloc (.cells #[.string t, .int .i64 f] 34)).grownBy w4 (Value.slice ao n cap).ownBlock → Blk w4 D #[.slice ao n cap] 50) := hide (fun w4 hg => by
    have q := M1a.out
    unfold Blk at *
    rw [hg.block D (Nat.lt_of_succ_le BASE.out) (fun e => by have := (World.ownsRow.lt h2 _ e.symm).1; omega)]
    exact q)
  have FR : Hid (∀ w4, (w.alloc (.cells #[.string t, .int .i64 f] 34)).grownBy w4 (Value.slice ao n cap).ownBlock → Below D w w4) := hide (fun w4 hg => ((BA.out.mono (Nat.le_of_lt hDw))).grown hg (Nat.le_of_succ_le BASE.out) (fun q hq => Nat.le_of_lt (World.ownsRow.lt OW.out q hq).1))
  have OR : Hid (∀ w4, (w.alloc (.cells #[.string t, .int .i64 f] 34)).grownBy w4 (Value.slice ao n cap).ownBlock → OthD D (Value.slice ao n cap).ownBlock w w4) := hide (fun w4 hg => ((OthD.refl _ _ w).alloc _).grown hg)
  have G4 : Hid (n + 1 = (ps ++ [(⟨t, f⟩ : Pc)]).length) := hide (by rw [hn]; simp)
  have G5 : Hid (xs ++ [.string t, .int .i64 f] = cellsP (ps ++ [(⟨t, f⟩ : Pc)])) := hide (by rw [hxs, cellsP_app]; rfl)
  clear h1 h2 M1a BA hn hxs ht
  go_enter Tryz.func21, Tryz.ntmps21
  go_wp2_with (at_builtin; refine wpP_append rfl _ _ _ rfl Tryz.underlying50 (D + 1) (.slice ao n cap) n xs rfl OW.out w.heap.size t f rfl TB.out _ G5.out (by omega) BASE.out ?_; intro uo uc w4 hown hgr; have z0 := (GK.out w4 hgr).cell 0; have z2 := (GK.out w4 hgr).free 0)
  have BL := FR.out w4 hgr
  have OL := OR.out w4 hgr
  have BK := (GK.out w4 hgr).set0of1 (.slice uo (n + 1) uc)
  have OK := ownD_set (i := 0) (u := .slice uo (n + 1) uc) hown (Nat.lt_succ_self D)
  clear hgr z0 z2
  go_end0
  exact ⟨rfl, ⟨_, BK, by rw [← G4.out]; exact OK⟩, BL.setCell (p := ⟨D, 0, none⟩) (Nat.le_refl _) _, OL.set D 0 _ (.inl rfl)⟩

set_option maxHeartbeats 1000000 in
theorem put_none (a : Value) (f : Int) (w : World) : Calls Tryz.prog 21 #[a, .string ⟨#[]⟩, .int .i64 f] w fun e w' => e = .returned (.tuple #[]) ∧ w' = w := by
  go_enter Tryz.func21, Tryz.ntmps21
  go_wp2
  go_end0
  exact ⟨rfl, rfl⟩

theorem put_any {w : World} {D : Nat} {v : Value} (ps : List Pc) (t : ByteArray) (f : Int) (h : RowV w D v ps) (hp : ps.length ≤ 1000000) :
    Calls Tryz.prog 21 #[.pointer (some ⟨D, 0, none⟩), .string t, .int .i64 f] w fun e w' => e = .returned (.tuple #[]) ∧ (∃ v', RowV w' D v' (ps ++ oneP t f)) ∧ Below D w w' ∧ OthD D v.ownBlock w w' := by
  unfold oneP
  by_cases ht : t.size = 0
  · rw [if_pos ht, List.append_nil, emptyD ht]
    refine (put_none _ f w).mono ?_
    rintro e w' ⟨h1, rfl⟩
    exact ⟨h1, ⟨v, h⟩, Below.refl _ _, OthD.refl _ _ _⟩
  · rw [if_neg ht]
    exact put_more ps t f h hp ht

end Go.Proofs.YtionbkmbhhlmjaaGreatDoor
