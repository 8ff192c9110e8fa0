/-
  What dec's takeApart does: the parts of a text of a number.
-/
import Derived.Test.YtifpacgacbpalaaGreatDoorZQ22
import Derived.WalkMore
import Derived.Lib.SmallJoins
namespace Go.Proofs.YtifpacgacbpalaaGreatDoor
open Go.RowKit

section
variable {w : World} {b : Nat} {t : TypeId} {x0 x1 x2 x3 : Value}
theorem Blk.set0 (h : Blk w b #[x0, x1, x2, x3] t) (y : Value) : Blk (w.setCell ⟨b, 0, none⟩ y) b #[y, x1, x2, x3] t := by
  unfold Blk at *
  simp only [World.setCell, Array.getElem?_modify, if_true, h, Option.map_some]
  rfl
theorem Blk.set1 (h : Blk w b #[x0, x1, x2, x3] t) (y : Value) : Blk (w.setCell ⟨b, 1, none⟩ y) b #[x0, y, x2, x3] t := by
  unfold Blk at *
  simp only [World.setCell, Array.getElem?_modify, if_true, h, Option.map_some]
  rfl
theorem Blk.set2 (h : Blk w b #[x0, x1, x2, x3] t) (y : Value) : Blk (w.setCell ⟨b, 2, none⟩ y) b #[x0, x1, y, x3] t := by
  unfold Blk at *
  simp only [World.setCell, Array.getElem?_modify, if_true, h, Option.map_some]
  rfl
theorem Blk.set3 (h : Blk w b #[x0, x1, x2, x3] t) (y : Value) : Blk (w.setCell ⟨b, 3, none⟩ y) b #[x0, x1, x2, y] t := by
  unfold Blk at *
  simp only [World.setCell, Array.getElem?_modify, if_true, h, Option.map_some]
  rfl
end

/-- What takeApart answers. -/
abbrev numV (neg : Bool) (a b : List UInt8) (p : Int) : Value := .agg #[.bool neg, .string ⟨a.toArray⟩, .string ⟨b.toArray⟩, .int .i64 p]
def partsV : Option Parts → Value
  | none => .tuple #[numV false [] [] 0, .bool false]
  | some p => .tuple #[numV p.neg p.ahead p.behind p.pow, .bool true]

theorem results_num2 {fn : Func} {a c : Tmp} (h : fn.results = #[.cell a 41, .tmp c]) (tmps : Array Value) (H : Nat) (x0 x1 x2 x3 : Value) (w : World) (ht : tmps.getD a undef = .pointer (some ⟨H, 0, none⟩)) (hp : Blk w H #[x0, x1, x2, x3] 41) :
    (results fn tmps).run Tryz.prog w = .ok (.tuple #[.agg #[x0, x1, x2, x3], tmps.getD c undef]) w := by
  have c0 := hp.cell 0
  have c1 := hp.cell 1
  have c2 := hp.cell 2
  have c3 := hp.cell 3
  simp at c0 c1 c2 c3
  rw [Array.getD_eq_getD_getElem?] at ht
  simp [results, h, ht, go_sem, c0, c1, c2, c3]

/-- How far a text has been taken apart: what is left, and what its parts say so far. -/
def restK (s : List UInt8) : Nat → List UInt8
  | 0 => s
  | 1 => p1 s
  | 2 => p2 s
  | 3 => p3 s
  | _ => p4 s
def negK (s : List UInt8) (k : Nat) : Bool := if k = 0 then false else Lib.hasPrefix s [45]
def aheadK (s : List UInt8) (k : Nat) : List UInt8 := if k ≤ 1 then [] else pAhead s
def behindK (s : List UInt8) (k : Nat) : List UInt8 := if k ≤ 2 then [] else pBehind s

structure TakeInv (s : List UInt8) (w : World) (k : Nat) (r : Value) (wr : World) : Prop where
  hk : k ≤ 4
  hr : r = .string ⟨(restK s k).toArray⟩
  low : Below w.heap.size w wr
  res : Blk wr w.heap.size #[.bool false, .string ⟨#[]⟩, .string ⟨#[]⟩, .int .i64 0] 41
  num : Blk wr (w.heap.size + 1) #[.bool (negK s k), .string ⟨(aheadK s k).toArray⟩, .string ⟨(behindK s k).toArray⟩, .int .i64 0] 41
  some : 3 ≤ k → ¬ (pAhead s = [] ∧ pBehind s = [])
  mark : 4 ≤ k → p3 s ≠ [] ∧ (byt (p3 s) 0 = 101 ∨ byt (p3 s) 0 = 69)

theorem mk_data0 (l : List UInt8) : (⟨l.toArray⟩ : ByteArray).data.toList = l := by simp

theorem cutp (L : List UInt8) (c : UInt8) (W : World) : Calls Tryz.prog 50 #[.string ⟨L.toArray⟩, .string ⟨#[c]⟩] W fun e w' => e = .returned (.tuple #[.string ⟨(Lib.trimPrefix L [c]).toArray⟩, .bool (Lib.hasPrefix L [c])]) ∧ w' = W := by
  have h := Tryz.strings_CutPrefix ⟨L.toArray⟩ ⟨#[c]⟩ W
  rw [mk_data0] at h
  exact h

theorem cutd (L : List UInt8) (W : World) (h : L.length ≤ 281474976710656) : Calls Tryz.prog 51 #[.string ⟨L.toArray⟩] W fun e w' => e = .returned (.tuple #[.string ⟨(dgs L).toArray⟩, .string ⟨(aft L).toArray⟩]) ∧ Below W.heap.size W w' := by
  have h := dcut_any ⟨L.toArray⟩ W (by rw [size_mk0]; exact h)
  rw [bys_mk] at h
  exact h

theorem unsd (L : List UInt8) (W : World) : Calls Tryz.prog 52 #[.string ⟨L.toArray⟩] W fun e w' => e = .returned (.string ⟨(unsg L).toArray⟩) ∧ W = w' := by
  have h := unsigned_any ⟨L.toArray⟩ W
  rw [bys_mk] at h
  exact h

theorem atoi_len {l : List UInt8} (h2 : ¬ 5 < (dgs (unsg l)).length) (h3 : aft (unsg l) = []) : l.length ≤ 18 := by
  have h4 := congrArg List.length (dgs_aft (unsg l))
  rw [List.length_append, h3, List.length_nil] at h4
  have h5 : l.length ≤ (unsg l).length + 1 := by
    cases l with
    | nil => simp
    | cons b t => by_cases h : b = 45 ∨ b = 43 <;> simp [unsg, h]
  omega

theorem bytes_below (w : World) (T : TypeId) (t : ByteArray) : Below w.heap.size w (Lib.bytesWorld w T t) := Joins.below_bytesWorld _ w T t (Nat.le_refl _)

theorem tp_len (l p : List UInt8) : (Lib.trimPrefix l p).length ≤ l.length := Lib.trimPrefix_le l p
theorem aft_len (l : List UInt8) : (aft l).length ≤ l.length := by
  have := congrArg List.length (dgs_aft l)
  rw [List.length_append] at this; omega
theorem p1_len (s : List UInt8) : (p1 s).length ≤ s.length := tp_len _ _
theorem p2_len (s : List UInt8) : (p2 s).length ≤ s.length := Nat.le_trans (aft_len _) (p1_len s)
theorem p3_len (s : List UInt8) : (p3 s).length ≤ s.length := by
  unfold p3; split
  · exact Nat.le_trans (aft_len _) (Nat.le_trans (tp_len _ _) (p2_len s))
  · exact p2_len s
theorem unsg_len (l : List UInt8) : (unsg l).length ≤ l.length := by
  cases l with
  | nil => simp [unsg]
  | cons b t => unfold unsg; simp only; split <;> simp
theorem p4_len (s : List UInt8) : (p4 s).length ≤ s.length := by
  unfold p4; rw [List.length_drop]; have := p3_len s; omega

set_option maxRecDepth 100000 in
set_option maxHeartbeats 2000000 in
theorem take_any (s : ByteArray) (w : World) (hs : s.size ≤ 281474976710656) :
    Calls Tryz.prog 30 #[.string s] w fun e w' => e = .returned (partsV (parseT (bys s))) ∧ Below w.heap.size w w' := by
  have START : Hid (TakeInv (bys s) w 0 (.string s) ((w.alloc (.cells #[.bool false, .string ⟨#[]⟩, .string ⟨#[]⟩, .int .i64 0] 41)).alloc (.cells #[.bool false, .string ⟨#[]⟩, .string ⟨#[]⟩, .int .i64 0] 41))) :=
    ⟨by omega, by rw [show restK (bys s) 0 = bys s from rfl, mk_bys], ((Below.refl _ _).alloc (Nat.le_refl _) _).alloc (by simp) _, (Blk.new _ _ _).alloc _, Blk.newAt _ _ (by simp) _ _, by omega, by omega⟩
  obtain ⟨L, hL⟩ : ∃ L, L = bys s := ⟨_, rfl⟩
  have HLEN : Hid (L.length ≤ 281474976710656) := by rw [hL, bys_len]; exact hs
  rw [← hL] at START ⊢
  clear hL hs
  go_enter Tryz.func30, Tryz.ntmps30
  go_wp2
  go_step3
  go_wp2
  go_step3
  go_wp2
  go_loopw [0, 10] (fun r i wr => ∃ (k : Nat) (z : Int), i = .int .i64 z ∧ z = (k : Int) ∧ Hid (TakeInv L w k r wr)) (fun _ i _ => 5 - (intOf i).toNat)
  case atStart => exact ⟨0, 0, rfl, rfl, START.out⟩
  case round =>
    clear START
    obtain ⟨k, z, rfl, hz, INV⟩ := hrel
    obtain rfl := INV.out.hr
    have hk := INV.out.hk
    obtain ⟨wq, hq⟩ : ∃ x, x = wr := ⟨_, rfl⟩
    subst hq
    rcases k with _ | _ | _ | _ | _ | k
    · obtain rfl : z = 0 := by omega
      have y0 : wq.cell? ⟨w.heap.size + 1, 0, none⟩ = some (.bool false) := INV.out.num.cell 0
      have f0 := INV.out.num.free 0
      have y1 : wq.cell? ⟨w.heap.size + 1, 1, none⟩ = some (.string ⟨#[]⟩) := INV.out.num.cell 1
      have f1 := INV.out.num.free 1
      have y2 : wq.cell? ⟨w.heap.size + 1, 2, none⟩ = some (.string ⟨#[]⟩) := INV.out.num.cell 2
      have f2 := INV.out.num.free 2
      have y3 : wq.cell? ⟨w.heap.size + 1, 3, none⟩ = some (.int .i64 0) := INV.out.num.cell 3
      have f3 := INV.out.num.free 3
      rw [show restK L 0 = L from rfl]
      clear hz hk
      go_wp2_with fail
      refine (cutp L 45 _).mono ?_
      rintro e w1 ⟨rfl, rfl⟩
      go_wp2
      exact ⟨⟨1, 1, rfl, rfl, by omega, rfl, INV.out.low.setCell (Nat.le_succ _) _, INV.out.res.other (by simp) _, INV.out.num.set0 _, by omega, by omega⟩, by simp [intOf]⟩
    · obtain rfl : z = 1 := by omega
      rw [show restK L 1 = p1 L from rfl]
      have CD := hide (fun W => cutd (p1 L) W (Nat.le_trans (p1_len L) HLEN.out))
      obtain ⟨R, hR⟩ : ∃ R : ByteArray, R = ⟨(p1 L).toArray⟩ := ⟨_, rfl⟩
      rw [← hR] at CD ⊢
      clear hz hk hR
      go_wp2_with fail
      refine (CD.out _).mono ?_
      rintro e w1 ⟨rfl, hb⟩
      have BN := hide (INV.out.num.below hb INV.out.num.lt)
      have BR := hide (INV.out.res.below hb INV.out.res.lt)
      have HB := hide (INV.out.low.trans (hb.mono INV.out.low.size))
      clear hb INV
      have y0 : w1.cell? ⟨w.heap.size + 1, 0, none⟩ = some (.bool (Lib.hasPrefix L [45])) := BN.out.cell 0
      have f0 := BN.out.free 0
      have y1 : w1.cell? ⟨w.heap.size + 1, 1, none⟩ = some (.string ⟨#[]⟩) := BN.out.cell 1
      have f1 := BN.out.free 1
      have y2 : w1.cell? ⟨w.heap.size + 1, 2, none⟩ = some (.string ⟨#[]⟩) := BN.out.cell 2
      have f2 := BN.out.free 2
      have y3 : w1.cell? ⟨w.heap.size + 1, 3, none⟩ = some (.int .i64 0) := BN.out.cell 3
      have f3 := BN.out.free 3
      go_wp2
      exact ⟨⟨2, 2, rfl, rfl, by omega, rfl, HB.out.setCell (Nat.le_succ _) _, BR.out.other (by simp) _, BN.out.set1 _, by omega, by omega⟩, by simp [intOf]⟩
    · obtain rfl : z = 2 := by omega
      rw [show restK L 2 = p2 L from rfl]
      have CP := hide (fun W => cutp (p2 L) 46 W)
      rw [show Lib.hasPrefix (p2 L) [46] = pDot L from rfl] at CP
      have HT := hide (Nat.le_trans (tp_len (p2 L) [46]) (Nat.le_trans (p2_len L) HLEN.out))
      have CD := hide (fun W => cutd (Lib.trimPrefix (p2 L) [46]) W HT.out)
      obtain ⟨R, hR⟩ : ∃ R : ByteArray, R = ⟨(p2 L).toArray⟩ := ⟨_, rfl⟩
      obtain ⟨T, hT⟩ : ∃ T : ByteArray, T = ⟨(Lib.trimPrefix (p2 L) [46]).toArray⟩ := ⟨_, rfl⟩
      rw [← hT] at CD
      rw [← hR] at CP ⊢
      rw [← hT] at CP
      have HR := hide hR
      clear hz hk hR hT HT
      by_cases hd : ¬ pDot L = true
      · rw [show pDot L = false by simpa using hd] at CP
        have EB : Hid (pBehind L = []) := by unfold pBehind; rw [if_neg hd]; rfl
        have E3 : Hid (p3 L = p2 L) := by unfold p3; rw [if_neg hd]; rfl
        clear CD hd
        by_cases ha : pAhead L = []
        · have PN : Hid (parseT L = none) := by unfold parseT; rw [if_pos ⟨ha, EB.out⟩]; rfl
          have y0 : wq.cell? ⟨w.heap.size + 1, 0, none⟩ = some (.bool (Lib.hasPrefix L [45])) := INV.out.num.cell 0
          have f0 := INV.out.num.free 0
          have y1 : wq.cell? ⟨w.heap.size + 1, 1, none⟩ = some (.string ⟨#[]⟩) := by have := INV.out.num.cell 1; rw [this]; show some (Value.string ⟨(pAhead L).toArray⟩) = _; rw [ha]
          have f1 := INV.out.num.free 1
          have y2 : wq.cell? ⟨w.heap.size + 1, 2, none⟩ = some (.string ⟨#[]⟩) := INV.out.num.cell 2
          have f2 := INV.out.num.free 2
          have y3 : wq.cell? ⟨w.heap.size + 1, 3, none⟩ = some (.int .i64 0) := INV.out.num.cell 3
          have f3 := INV.out.num.free 3
          have z0 : wq.cell? ⟨w.heap.size, 0, none⟩ = some (.bool false) := INV.out.res.cell 0
          have g0 := INV.out.res.free 0
          have z1 : wq.cell? ⟨w.heap.size, 1, none⟩ = some (.string ⟨#[]⟩) := INV.out.res.cell 1
          have g1 := INV.out.res.free 1
          have z2 : wq.cell? ⟨w.heap.size, 2, none⟩ = some (.string ⟨#[]⟩) := INV.out.res.cell 2
          have g2 := INV.out.res.free 2
          have z3 : wq.cell? ⟨w.heap.size, 3, none⟩ = some (.int .i64 0) := INV.out.res.cell 3
          have g3 := INV.out.res.free 3
          clear ha
          go_wp2_with fail
          refine (CP.out _).mono ?_
          rintro e w1 ⟨rfl, rfl⟩
          go_wp2
          rw [Exit.noGoto_ret]
          refine bodyPost_ret (results_num2 rfl _ _ _ _ _ _ _ rfl (INV.out.res.put4 _ _ _ _)) rfl ?_
          exact ⟨by rw [PN.out]; rfl, below_put4 (INV.out.low) (Nat.le_refl _) _ _ _ _⟩
        · obtain ⟨A, hA⟩ : ∃ A : ByteArray, A = ⟨(pAhead L).toArray⟩ := ⟨_, rfl⟩
          have hne : A.size ≠ 0 := by rw [hA, size_mk0]; exact fun e => ha (List.length_eq_zero_iff.1 e)
          have hA1 := toList_ne hne
          have HA := hide hA
          clear hne hA
          have y0 : wq.cell? ⟨w.heap.size + 1, 0, none⟩ = some (.bool (Lib.hasPrefix L [45])) := INV.out.num.cell 0
          have f0 := INV.out.num.free 0
          have y1 : wq.cell? ⟨w.heap.size + 1, 1, none⟩ = some (.string A) := by rw [HA.out]; exact INV.out.num.cell 1
          have f1 := INV.out.num.free 1
          have y2 : wq.cell? ⟨w.heap.size + 1, 2, none⟩ = some (.string ⟨#[]⟩) := INV.out.num.cell 2
          have f2 := INV.out.num.free 2
          have y3 : wq.cell? ⟨w.heap.size + 1, 3, none⟩ = some (.int .i64 0) := INV.out.num.cell 3
          have f3 := INV.out.num.free 3
          have NE : Hid (¬ (pAhead L = [] ∧ pBehind L = [])) := fun e => ha e.1
          clear ha
          go_wp2_with fail
          refine (CP.out _).mono ?_
          rintro e w1 ⟨rfl, rfl⟩
          go_wp2
          refine ⟨⟨3, 3, rfl, rfl, by omega, ?_, INV.out.low, INV.out.res, ?_, fun _ => NE.out, by omega⟩, by simp [intOf]⟩
          · rw [HR.out, ← E3.out]; rfl
          · have h := INV.out.num
            rw [show behindK L 3 = pBehind L from rfl, EB.out]
            exact h
      · have hd := Classical.not_not.1 hd
        rw [hd] at CP
        have EB : Hid (pBehind L = dgs (Lib.trimPrefix (p2 L) [46])) := by unfold pBehind; rw [if_pos hd]; rfl
        have E3 : Hid (p3 L = aft (Lib.trimPrefix (p2 L) [46])) := by unfold p3; rw [if_pos hd]; rfl
        rw [← EB.out, ← E3.out] at CD
        obtain ⟨P, hP⟩ : ∃ P : ByteArray, P = ⟨(p3 L).toArray⟩ := ⟨_, rfl⟩
        rw [← hP] at CD
        have HP := hide hP
        clear hd hP EB E3
        by_cases ha : pAhead L = []
        · by_cases hb0 : pBehind L = []
          · have PN : Hid (parseT L = none) := by unfold parseT; rw [if_pos ⟨ha, hb0⟩]; rfl
            rw [hb0] at CD
            go_wp2_with fail
            refine (CP.out _).mono ?_
            rintro e w1 ⟨rfl, rfl⟩
            go_wp2_with fail
            refine (CD.out _).mono ?_
            rintro e w1 ⟨rfl, hb⟩
            have BN := hide (INV.out.num.below hb INV.out.num.lt)
            have BR := hide (INV.out.res.below hb INV.out.res.lt)
            have HB := hide (INV.out.low.trans (hb.mono INV.out.low.size))
            clear hb INV
            have y0 : w1.cell? ⟨w.heap.size + 1, 0, none⟩ = some (.bool (Lib.hasPrefix L [45])) := BN.out.cell 0
            have f0 := BN.out.free 0
            have y1 : w1.cell? ⟨w.heap.size + 1, 1, none⟩ = some (.string ⟨#[]⟩) := by have := BN.out.cell 1; rw [this]; show some (Value.string ⟨(pAhead L).toArray⟩) = _; rw [ha]
            have f1 := BN.out.free 1
            have y2 : w1.cell? ⟨w.heap.size + 1, 2, none⟩ = some (.string ⟨#[]⟩) := BN.out.cell 2
            have f2 := BN.out.free 2
            have y3 : w1.cell? ⟨w.heap.size + 1, 3, none⟩ = some (.int .i64 0) := BN.out.cell 3
            have f3 := BN.out.free 3
            have z0 : w1.cell? ⟨w.heap.size, 0, none⟩ = some (.bool false) := BR.out.cell 0
            have g0 := BR.out.free 0
            have z1 : w1.cell? ⟨w.heap.size, 1, none⟩ = some (.string ⟨#[]⟩) := BR.out.cell 1
            have g1 := BR.out.free 1
            have z2 : w1.cell? ⟨w.heap.size, 2, none⟩ = some (.string ⟨#[]⟩) := BR.out.cell 2
            have g2 := BR.out.free 2
            have z3 : w1.cell? ⟨w.heap.size, 3, none⟩ = some (.int .i64 0) := BR.out.cell 3
            have g3 := BR.out.free 3
            clear ha hb0
            go_wp2
            rw [Exit.noGoto_ret]
            refine bodyPost_ret (results_num2 rfl _ _ _ _ _ _ _ rfl ((BR.out.other (by simp) _).put4 _ _ _ _)) rfl ?_
            exact ⟨by rw [PN.out]; rfl, below_put4 (HB.out.setCell (Nat.le_succ _) _) (Nat.le_refl _) _ _ _ _⟩
          · obtain ⟨B, hB⟩ : ∃ B : ByteArray, B = ⟨(pBehind L).toArray⟩ := ⟨_, rfl⟩
            have hne : B.size ≠ 0 := by rw [hB, size_mk0]; exact fun e => hb0 (List.length_eq_zero_iff.1 e)
            have hB1 := toList_ne hne
            have NE : Hid (¬ (pAhead L = [] ∧ pBehind L = [])) := fun e => hb0 e.2
            rw [← hB] at CD
            have HBB := hide hB
            clear hne hB
            go_wp2_with fail
            refine (CP.out _).mono ?_
            rintro e w1 ⟨rfl, rfl⟩
            go_wp2_with fail
            refine (CD.out _).mono ?_
            rintro e w1 ⟨rfl, hb⟩
            have BN := hide (INV.out.num.below hb INV.out.num.lt)
            have BR := hide (INV.out.res.below hb INV.out.res.lt)
            have HB := hide (INV.out.low.trans (hb.mono INV.out.low.size))
            clear hb INV
            have y0 : w1.cell? ⟨w.heap.size + 1, 0, none⟩ = some (.bool (Lib.hasPrefix L [45])) := BN.out.cell 0
            have f0 := BN.out.free 0
            have y1 : w1.cell? ⟨w.heap.size + 1, 1, none⟩ = some (.string ⟨#[]⟩) := by have := BN.out.cell 1; rw [this]; show some (Value.string ⟨(pAhead L).toArray⟩) = _; rw [ha]
            have f1 := BN.out.free 1
            have y2 : w1.cell? ⟨w.heap.size + 1, 2, none⟩ = some (.string ⟨#[]⟩) := BN.out.cell 2
            have f2 := BN.out.free 2
            have y3 : w1.cell? ⟨w.heap.size + 1, 3, none⟩ = some (.int .i64 0) := BN.out.cell 3
            have f3 := BN.out.free 3
            have EA := hide ha
            clear ha hb0
            go_wp2
            refine ⟨⟨3, 3, rfl, rfl, by omega, by rw [HP.out]; rfl, HB.out.setCell (Nat.le_succ _) _, BR.out.other (by simp) _, ?_, fun _ => NE.out, by omega⟩, by simp [intOf]⟩
            have h := BN.out.set2 (.string B)
            rw [HBB.out] at h ⊢
            exact h
        · obtain ⟨A, hA⟩ : ∃ A : ByteArray, A = ⟨(pAhead L).toArray⟩ := ⟨_, rfl⟩
          have hne : A.size ≠ 0 := by rw [hA, size_mk0]; exact fun e => ha (List.length_eq_zero_iff.1 e)
          have hA1 := toList_ne hne
          have HA := hide hA
          clear hne hA
          obtain ⟨B, hB⟩ : ∃ B : ByteArray, B = ⟨(pBehind L).toArray⟩ := ⟨_, rfl⟩
          have NE : Hid (¬ (pAhead L = [] ∧ pBehind L = [])) := fun e => ha e.1
          rw [← hB] at CD
          have HBB := hide hB
          clear hB ha
          go_wp2_with fail
          refine (CP.out _).mono ?_
          rintro e w1 ⟨rfl, rfl⟩
          go_wp2_with fail
          refine (CD.out _).mono ?_
          rintro e w1 ⟨rfl, hb⟩
          have BN := hide (INV.out.num.below hb INV.out.num.lt)
          have BR := hide (INV.out.res.below hb INV.out.res.lt)
          have HB := hide (INV.out.low.trans (hb.mono INV.out.low.size))
          clear hb INV
          have y0 : w1.cell? ⟨w.heap.size + 1, 0, none⟩ = some (.bool (Lib.hasPrefix L [45])) := BN.out.cell 0
          have f0 := BN.out.free 0
          have y1 : w1.cell? ⟨w.heap.size + 1, 1, none⟩ = some (.string A) := by rw [HA.out]; exact BN.out.cell 1
          have f1 := BN.out.free 1
          have y2 : w1.cell? ⟨w.heap.size + 1, 2, none⟩ = some (.string ⟨#[]⟩) := BN.out.cell 2
          have f2 := BN.out.free 2
          have y3 : w1.cell? ⟨w.heap.size + 1, 3, none⟩ = some (.int .i64 0) := BN.out.cell 3
          have f3 := BN.out.free 3
          go_wp2
          refine ⟨⟨3, 3, rfl, rfl, by omega, by rw [HP.out]; rfl, HB.out.setCell (Nat.le_succ _) _, BR.out.other (by simp) _, ?_, fun _ => NE.out, by omega⟩, by simp [intOf]⟩
          have h := BN.out.set2 (.string B)
          rw [HBB.out] at h ⊢
          exact h
    · obtain rfl : z = 3 := by omega
      rw [show restK L 3 = p3 L from rfl]
      have NE := hide (INV.out.some (by omega))
      obtain ⟨A, hA⟩ : ∃ A : ByteArray, A = ⟨(pAhead L).toArray⟩ := ⟨_, rfl⟩
      obtain ⟨B, hB⟩ : ∃ B : ByteArray, B = ⟨(pBehind L).toArray⟩ := ⟨_, rfl⟩
      obtain ⟨S, hS⟩ : ∃ S : Bool, S = Lib.hasPrefix L [45] := ⟨_, rfl⟩
      have NUM : Hid (Blk wq (w.heap.size + 1) #[.bool S, .string A, .string B, .int .i64 0] 41) := by rw [hA, hB, hS]; exact INV.out.num
      have HA := hide hA
      have HBB := hide hB
      have HSS := hide hS
      clear hA hB hS
      have y0 : wq.cell? ⟨w.heap.size + 1, 0, none⟩ = some (.bool S) := NUM.out.cell 0
      have f0 := NUM.out.free 0
      have y1 : wq.cell? ⟨w.heap.size + 1, 1, none⟩ = some (.string A) := NUM.out.cell 1
      have f1 := NUM.out.free 1
      have y2 : wq.cell? ⟨w.heap.size + 1, 2, none⟩ = some (.string B) := NUM.out.cell 2
      have f2 := NUM.out.free 2
      have y3 : wq.cell? ⟨w.heap.size + 1, 3, none⟩ = some (.int .i64 0) := NUM.out.cell 3
      have f3 := NUM.out.free 3
      have z0 : wq.cell? ⟨w.heap.size, 0, none⟩ = some (.bool false) := INV.out.res.cell 0
      have g0 := INV.out.res.free 0
      have z1 : wq.cell? ⟨w.heap.size, 1, none⟩ = some (.string ⟨#[]⟩) := INV.out.res.cell 1
      have g1 := INV.out.res.free 1
      have z2 : wq.cell? ⟨w.heap.size, 2, none⟩ = some (.string ⟨#[]⟩) := INV.out.res.cell 2
      have g2 := INV.out.res.free 2
      have z3 : wq.cell? ⟨w.heap.size, 3, none⟩ = some (.int .i64 0) := INV.out.res.cell 3
      have g3 := INV.out.res.free 3
      clear hz hk
      by_cases h3 : p3 L = []
      · have PN : Hid (parseT L = some ⟨Lib.hasPrefix L [45], pAhead L, pBehind L, 0⟩) := by unfold parseT; rw [if_neg NE.out, if_pos h3]; rfl
        rw [h3]
        clear h3
        go_wp2
        rw [Exit.noGoto_ret]
        refine bodyPost_ret (results_num2 rfl _ _ _ _ _ _ _ rfl (INV.out.res.put4 _ _ _ _)) rfl ?_
        exact ⟨by rw [PN.out]; unfold partsV; simp only; rw [HA.out, HBB.out, HSS.out]; rfl, below_put4 (INV.out.low) (Nat.le_refl _) _ _ _ _⟩
      · obtain ⟨P, hP⟩ : ∃ P : ByteArray, P = ⟨(p3 L).toArray⟩ := ⟨_, rfl⟩
        have hne : P.size ≠ 0 := by rw [hP, size_mk0]; exact fun e => h3 (List.length_eq_zero_iff.1 e)
        have hP1 := toList_ne hne
        have hp0 : 0 < P.size := by omega
        have hg : ∀ h : 0 < P.size, P[0].toNat = byt (p3 L) 0 := fun h => by rw [byt_get P 0 h, hP, bys_mk]
        have HX : Hid (P.extract 1 P.size = ⟨(p4 L).toArray⟩) := by rw [Lib.extract_from, hP, mk_data0]; rfl
        rw [← hP]
        obtain ⟨b, hb⟩ : ∃ b, b = byt (p3 L) 0 := ⟨_, rfl⟩
        rw [← hb] at hg
        have hp1 : (1 : Int) ≤ (P.size : Int) := by omega
        clear hne hP
        by_cases hm : b = 101
        · have e1 : ((b : Int) != 101) = false := by rw [show (b : Int) = 101 by omega]; rfl
          have MK : Hid (p3 L ≠ [] ∧ (byt (p3 L) 0 = 101 ∨ byt (p3 L) 0 = 69)) := ⟨h3, .inl (by omega)⟩
          clear h3 hb hm
          go_wp2
          refine ⟨⟨4, 4, rfl, rfl, by omega, by rw [HX.out]; rfl, INV.out.low, INV.out.res, INV.out.num, fun _ => NE.out, fun _ => MK.out⟩, by simp [intOf]⟩
        · have e1 : ((b : Int) != 101) = true := by
            have : ¬ (b : Int) = 101 := by omega
            simpa using this
          by_cases hm2 : b = 69
          · have e2 : ((b : Int) != 69) = false := by rw [show (b : Int) = 69 by omega]; rfl
            have MK : Hid (p3 L ≠ [] ∧ (byt (p3 L) 0 = 101 ∨ byt (p3 L) 0 = 69)) := ⟨h3, .inr (by omega)⟩
            clear h3 hb hm hm2
            go_wp2
            refine ⟨⟨4, 4, rfl, rfl, by omega, by rw [HX.out]; rfl, INV.out.low, INV.out.res, INV.out.num, fun _ => NE.out, fun _ => MK.out⟩, by simp [intOf]⟩
          · have e2 : ((b : Int) != 69) = true := by
              have : ¬ (b : Int) = 69 := by omega
              simpa using this
            have PN : Hid (parseT L = none) := by unfold parseT; rw [if_neg NE.out, if_neg h3, if_pos (by omega)]; rfl
            clear h3 hb hm hm2
            go_wp2
            rw [Exit.noGoto_ret]
            refine bodyPost_ret (results_num2 rfl _ _ _ _ _ _ _ rfl (INV.out.res.put4 _ _ _ _)) rfl ?_
            exact ⟨by rw [PN.out]; rfl, below_put4 (INV.out.low) (Nat.le_refl _) _ _ _ _⟩
    · obtain rfl : z = 4 := by omega
      rw [show restK L 4 = p4 L from rfl]
      have NE := hide (INV.out.some (by omega))
      have MK := hide (INV.out.mark (by omega))
      obtain ⟨A, hA⟩ : ∃ A : ByteArray, A = ⟨(pAhead L).toArray⟩ := ⟨_, rfl⟩
      obtain ⟨B, hB⟩ : ∃ B : ByteArray, B = ⟨(pBehind L).toArray⟩ := ⟨_, rfl⟩
      obtain ⟨S, hS⟩ : ∃ S : Bool, S = Lib.hasPrefix L [45] := ⟨_, rfl⟩
      have NUM : Hid (Blk wq (w.heap.size + 1) #[.bool S, .string A, .string B, .int .i64 0] 41) := by rw [hA, hB, hS]; exact INV.out.num
      have HA := hide hA
      have HBB := hide hB
      have HSS := hide hS
      clear hA hB hS
      clear hz hk
      have US := hide (fun W => unsd (p4 L) W)
      have HU := hide (Nat.le_trans (unsg_len (p4 L)) (Nat.le_trans (p4_len L) HLEN.out))
      have CD := hide (fun W => cutd (unsg (p4 L)) W HU.out)
      obtain ⟨U, hU⟩ : ∃ U : ByteArray, U = ⟨(unsg (p4 L)).toArray⟩ := ⟨_, rfl⟩
      rw [← hU] at US CD
      obtain ⟨P, hP⟩ : ∃ P : ByteArray, P = ⟨(p4 L).toArray⟩ := ⟨_, rfl⟩
      rw [← hP] at US ⊢
      obtain ⟨D, hD⟩ : ∃ D : ByteArray, D = ⟨(dgs (unsg (p4 L))).toArray⟩ := ⟨_, rfl⟩
      obtain ⟨F, hF⟩ : ∃ F : ByteArray, F = ⟨(aft (unsg (p4 L))).toArray⟩ := ⟨_, rfl⟩
      rw [← hD, ← hF] at CD
      have hDs : D.size = (dgs (unsg (p4 L))).length := by rw [hD, size_mk0]
      have hFs : F.size = (aft (unsg (p4 L))).length := by rw [hF, size_mk0]
      have HPP := hide hP
      have HDD := hide hD
      have HFF := hide hF
      clear hU HU hP hD hF
      by_cases h1 : dgs (unsg (p4 L)) = []
      · have PN : Hid (parseT L = none) := by unfold parseT; rw [if_neg NE.out, if_neg MK.out.1, if_neg (fun e => e MK.out.2), if_pos (.inl h1)]; rfl
        obtain rfl : D = ⟨#[]⟩ := by rw [HDD.out, h1]
        clear h1 HDD HFF hDs hFs
        go_wp2_with fail
        refine (US.out _).mono ?_
        rintro e w1 ⟨rfl, rfl⟩
        go_wp2_with fail
        refine (CD.out _).mono ?_
        rintro e w1 ⟨rfl, hb⟩
        have BN := hide (NUM.out.below hb NUM.out.lt)
        have BR := hide (INV.out.res.below hb INV.out.res.lt)
        have HB := hide (INV.out.low.trans (hb.mono INV.out.low.size))
        clear hb INV NUM
        have y0 : w1.cell? ⟨w.heap.size + 1, 0, none⟩ = some (.bool S) := BN.out.cell 0
        have f0 := BN.out.free 0
        have y1 : w1.cell? ⟨w.heap.size + 1, 1, none⟩ = some (.string A) := BN.out.cell 1
        have f1 := BN.out.free 1
        have y2 : w1.cell? ⟨w.heap.size + 1, 2, none⟩ = some (.string B) := BN.out.cell 2
        have f2 := BN.out.free 2
        have y3 : w1.cell? ⟨w.heap.size + 1, 3, none⟩ = some (.int .i64 0) := BN.out.cell 3
        have f3 := BN.out.free 3
        have z0 : w1.cell? ⟨w.heap.size, 0, none⟩ = some (.bool false) := BR.out.cell 0
        have g0 := BR.out.free 0
        have z1 : w1.cell? ⟨w.heap.size, 1, none⟩ = some (.string ⟨#[]⟩) := BR.out.cell 1
        have g1 := BR.out.free 1
        have z2 : w1.cell? ⟨w.heap.size, 2, none⟩ = some (.string ⟨#[]⟩) := BR.out.cell 2
        have g2 := BR.out.free 2
        have z3 : w1.cell? ⟨w.heap.size, 3, none⟩ = some (.int .i64 0) := BR.out.cell 3
        have g3 := BR.out.free 3
        go_wp2
        rw [Exit.noGoto_ret]
        refine bodyPost_ret (results_num2 rfl _ _ _ _ _ _ _ rfl (BR.out.put4 _ _ _ _)) rfl ?_
        exact ⟨by rw [PN.out]; rfl, below_put4 (HB.out) (Nat.le_refl _) _ _ _ _⟩
      · have hd0 : D.size ≠ 0 := by rw [hDs]; exact fun e => h1 (List.length_eq_zero_iff.1 e)
        have hd1 := toList_ne hd0
        by_cases h2 : 5 < (dgs (unsg (p4 L))).length
        · have PN : Hid (parseT L = none) := by unfold parseT; rw [if_neg NE.out, if_neg MK.out.1, if_neg (fun e => e MK.out.2), if_pos (.inr (.inl h2))]; rfl
          have h2' : decide ((5 : Int) < (D.size : Int)) = true := decide_eq_true (by omega)
          clear h1 h2 HDD HFF hDs hFs hd0
          go_wp2_with fail
          refine (US.out _).mono ?_
          rintro e w1 ⟨rfl, rfl⟩
          go_wp2_with fail
          refine (CD.out _).mono ?_
          rintro e w1 ⟨rfl, hb⟩
          have BN := hide (NUM.out.below hb NUM.out.lt)
          have BR := hide (INV.out.res.below hb INV.out.res.lt)
          have HB := hide (INV.out.low.trans (hb.mono INV.out.low.size))
          clear hb INV NUM
          have y0 : w1.cell? ⟨w.heap.size + 1, 0, none⟩ = some (.bool S) := BN.out.cell 0
          have f0 := BN.out.free 0
          have y1 : w1.cell? ⟨w.heap.size + 1, 1, none⟩ = some (.string A) := BN.out.cell 1
          have f1 := BN.out.free 1
          have y2 : w1.cell? ⟨w.heap.size + 1, 2, none⟩ = some (.string B) := BN.out.cell 2
          have f2 := BN.out.free 2
          have y3 : w1.cell? ⟨w.heap.size + 1, 3, none⟩ = some (.int .i64 0) := BN.out.cell 3
          have f3 := BN.out.free 3
          have z0 : w1.cell? ⟨w.heap.size, 0, none⟩ = some (.bool false) := BR.out.cell 0
          have g0 := BR.out.free 0
          have z1 : w1.cell? ⟨w.heap.size, 1, none⟩ = some (.string ⟨#[]⟩) := BR.out.cell 1
          have g1 := BR.out.free 1
          have z2 : w1.cell? ⟨w.heap.size, 2, none⟩ = some (.string ⟨#[]⟩) := BR.out.cell 2
          have g2 := BR.out.free 2
          have z3 : w1.cell? ⟨w.heap.size, 3, none⟩ = some (.int .i64 0) := BR.out.cell 3
          have g3 := BR.out.free 3
          go_wp2
          rw [Exit.noGoto_ret]
          refine bodyPost_ret (results_num2 rfl _ _ _ _ _ _ _ rfl (BR.out.put4 _ _ _ _)) rfl ?_
          exact ⟨by rw [PN.out]; rfl, below_put4 (HB.out) (Nat.le_refl _) _ _ _ _⟩
        · have h2' : decide ((5 : Int) < (D.size : Int)) = false := decide_eq_false (by omega)
          by_cases h3 : aft (unsg (p4 L)) ≠ []
          · have PN : Hid (parseT L = none) := by unfold parseT; rw [if_neg NE.out, if_neg MK.out.1, if_neg (fun e => e MK.out.2), if_pos (.inr (.inr h3))]; rfl
            have hf0 : F.size ≠ 0 := by rw [hFs]; exact fun e => h3 (List.length_eq_zero_iff.1 e)
            have hf1 := toList_ne hf0
            clear h1 h2 h3 HDD HFF hDs hFs hd0 hf0
            go_wp2_with fail
            refine (US.out _).mono ?_
            rintro e w1 ⟨rfl, rfl⟩
            go_wp2_with fail
            refine (CD.out _).mono ?_
            rintro e w1 ⟨rfl, hb⟩
            have BN := hide (NUM.out.below hb NUM.out.lt)
            have BR := hide (INV.out.res.below hb INV.out.res.lt)
            have HB := hide (INV.out.low.trans (hb.mono INV.out.low.size))
            clear hb INV NUM
            have y0 : w1.cell? ⟨w.heap.size + 1, 0, none⟩ = some (.bool S) := BN.out.cell 0
            have f0 := BN.out.free 0
            have y1 : w1.cell? ⟨w.heap.size + 1, 1, none⟩ = some (.string A) := BN.out.cell 1
            have f1 := BN.out.free 1
            have y2 : w1.cell? ⟨w.heap.size + 1, 2, none⟩ = some (.string B) := BN.out.cell 2
            have f2 := BN.out.free 2
            have y3 : w1.cell? ⟨w.heap.size + 1, 3, none⟩ = some (.int .i64 0) := BN.out.cell 3
            have f3 := BN.out.free 3
            have z0 : w1.cell? ⟨w.heap.size, 0, none⟩ = some (.bool false) := BR.out.cell 0
            have g0 := BR.out.free 0
            have z1 : w1.cell? ⟨w.heap.size, 1, none⟩ = some (.string ⟨#[]⟩) := BR.out.cell 1
            have g1 := BR.out.free 1
            have z2 : w1.cell? ⟨w.heap.size, 2, none⟩ = some (.string ⟨#[]⟩) := BR.out.cell 2
            have g2 := BR.out.free 2
            have z3 : w1.cell? ⟨w.heap.size, 3, none⟩ = some (.int .i64 0) := BR.out.cell 3
            have g3 := BR.out.free 3
            go_wp2
            rw [Exit.noGoto_ret]
            refine bodyPost_ret (results_num2 rfl _ _ _ _ _ _ _ rfl (BR.out.put4 _ _ _ _)) rfl ?_
            exact ⟨by rw [PN.out]; rfl, below_put4 (HB.out) (Nat.le_refl _) _ _ _ _⟩
          · have h3 := Classical.not_not.1 h3
            have PN : Hid (parseT L = some ⟨Lib.hasPrefix L [45], pAhead L, pBehind L, powV (p4 L)⟩) := by unfold parseT; rw [if_neg NE.out, if_neg MK.out.1, if_neg (fun e => e MK.out.2), if_neg (fun h => h.elim (fun e => h1 e) fun h => h.elim (fun e => h2 e) fun e => e h3)]; rfl
            obtain rfl : F = ⟨#[]⟩ := by rw [HFF.out, h3]
            have AT := hide (atoi_val h1 h3)
            have HLN : Hid (P.size ≤ 18) := by rw [HPP.out, size_mk0]; exact atoi_len h2 h3
            have AC := hide (fun W => Tryz.strconv_Atoi P (powV (p4 L)) HLN.out (by rw [HPP.out, mk_data0]; exact AT.out) W)
            obtain ⟨q, hq⟩ : ∃ q, q = powV (p4 L) := ⟨_, rfl⟩
            rw [← hq] at AC PN
            clear h1 h2 h3 HDD HFF hDs hFs hd0 AT HLN hq
            go_wp2_with fail
            refine (US.out _).mono ?_
            rintro e w1 ⟨rfl, rfl⟩
            go_wp2_with fail
            refine (CD.out _).mono ?_
            rintro e w1 ⟨rfl, hb⟩
            have BN := hide (NUM.out.below hb NUM.out.lt)
            have BR := hide (INV.out.res.below hb INV.out.res.lt)
            have HB := hide (INV.out.low.trans (hb.mono INV.out.low.size))
            clear hb INV NUM
            have y0 : w1.cell? ⟨w.heap.size + 1, 0, none⟩ = some (.bool S) := BN.out.cell 0
            have f0 := BN.out.free 0
            have y1 : w1.cell? ⟨w.heap.size + 1, 1, none⟩ = some (.string A) := BN.out.cell 1
            have f1 := BN.out.free 1
            have y2 : w1.cell? ⟨w.heap.size + 1, 2, none⟩ = some (.string B) := BN.out.cell 2
            have f2 := BN.out.free 2
            have y3 : w1.cell? ⟨w.heap.size + 1, 3, none⟩ = some (.int .i64 0) := BN.out.cell 3
            have f3 := BN.out.free 3
            have z0 : w1.cell? ⟨w.heap.size, 0, none⟩ = some (.bool false) := BR.out.cell 0
            have g0 := BR.out.free 0
            have z1 : w1.cell? ⟨w.heap.size, 1, none⟩ = some (.string ⟨#[]⟩) := BR.out.cell 1
            have g1 := BR.out.free 1
            have z2 : w1.cell? ⟨w.heap.size, 2, none⟩ = some (.string ⟨#[]⟩) := BR.out.cell 2
            have g2 := BR.out.free 2
            have z3 : w1.cell? ⟨w.heap.size, 3, none⟩ = some (.int .i64 0) := BR.out.cell 3
            have g3 := BR.out.free 3
            go_wp2_with fail
            refine (AC.out _).mono ?_
            rintro e w2 ⟨rfl, tq, hw⟩
            have hb : Below w1.heap.size w1 w2 := by rw [hw]; exact bytes_below _ _ _
            have BN2 := hide (BN.out.below hb BN.out.lt)
            have BR2 := hide (BR.out.below hb BR.out.lt)
            have HB2 := hide (HB.out.trans (hb.mono HB.out.size))
            clear hb hw BN BR HB y0 y1 y2 y3 f0 f1 f2 f3 z0 z1 z2 z3 g0 g1 g2 g3
            have y0 : w2.cell? ⟨w.heap.size + 1, 0, none⟩ = some (.bool S) := BN2.out.cell 0
            have f0 := BN2.out.free 0
            have y1 : w2.cell? ⟨w.heap.size + 1, 1, none⟩ = some (.string A) := BN2.out.cell 1
            have f1 := BN2.out.free 1
            have y2 : w2.cell? ⟨w.heap.size + 1, 2, none⟩ = some (.string B) := BN2.out.cell 2
            have f2 := BN2.out.free 2
            have y3 : w2.cell? ⟨w.heap.size + 1, 3, none⟩ = some (.int .i64 0) := BN2.out.cell 3
            have f3 := BN2.out.free 3
            have z0 : w2.cell? ⟨w.heap.size, 0, none⟩ = some (.bool false) := BR2.out.cell 0
            have g0 := BR2.out.free 0
            have z1 : w2.cell? ⟨w.heap.size, 1, none⟩ = some (.string ⟨#[]⟩) := BR2.out.cell 1
            have g1 := BR2.out.free 1
            have z2 : w2.cell? ⟨w.heap.size, 2, none⟩ = some (.string ⟨#[]⟩) := BR2.out.cell 2
            have g2 := BR2.out.free 2
            have z3 : w2.cell? ⟨w.heap.size, 3, none⟩ = some (.int .i64 0) := BR2.out.cell 3
            have g3 := BR2.out.free 3
            go_wp2
            rw [Exit.noGoto_ret]
            refine bodyPost_ret (results_num2 rfl _ _ _ _ _ _ _ rfl ((BR2.out.other (by simp) _).put4 _ _ _ _)) rfl ?_
            exact ⟨by rw [PN.out]; unfold partsV; simp only; rw [HA.out, HBB.out, HSS.out]; rfl, below_put4 (HB2.out.setCell (Nat.le_succ _) _) (Nat.le_refl _) _ _ _ _⟩
    · omega

end Go.Proofs.YtifpacgacbpalaaGreatDoor
