/-
  What dec's cutDigits and unsigned do.
  What dec's takeApart does: the parts of a text of a number.
  What dec's Parse does.
  quipulaw05's awake: the calls answer what the document fixes.
  What the rows' list of package variables gives, and a world that holds them.
-/
import Derived.Test.YtafljhfamjabeaaGreatDoorZB6
import Derived.Test.YtafljhfamjabeaaGreatDoorZB4
import Derived.WalkMore
import Derived.Lib.SmallJoins
import Derived.Test.YtafljhfamjabeaaGreatDoorZB5
import Derived.Test.YtafljhfamjabeaaGreatDoorRows
import Derived.Lib.LaidTab
import Derived.Deep.DeepHandedRow
namespace Go.Proofs.YtafljhfamjabeaaGreatDoor
open Go.RowKit

theorem hp_one (l : List UInt8) (c : UInt8) : Lib.hasPrefix l [c] = decide (l.head? = some c) := by
  unfold Lib.hasPrefix
  cases l with
  | nil => rfl
  | cons b t =>
    by_cases h : b = c
    · subst h; simp
    · have h' : ¬ c = b := fun e => h e.symm
      show (c == b && List.isPrefixOf [] t) = _
      simp [h, h']

theorem head_pos {l : List UInt8} {c : UInt8} (h : l.head? = some c) : 0 < l.length := by
  cases l with
  | nil => simp at h
  | cons b t => simp

theorem unsg_drop {l : List UInt8} (h : l.head? = some 45 ∨ l.head? = some 43) : unsg l = l.drop 1 := by
  cases l with
  | nil => rfl
  | cons b t => simp at h; simp [unsg, h]

theorem unsg_same {l : List UInt8} (h1 : ¬ l.head? = some 45) (h2 : ¬ l.head? = some 43) : unsg l = l := by
  cases l with
  | nil => rfl
  | cons b t => simp at h1 h2; simp [unsg, h1, h2]

set_option maxHeartbeats 1000000 in
theorem dcut_any (s : ByteArray) (w : World) (hs : s.size ≤ 281474976710656) :
    Calls Tryz.prog 55 #[.string s] w fun e w' => e = .returned (.tuple #[.string ⟨(dgs (bys s)).toArray⟩, .string ⟨(aft (bys s)).toArray⟩]) ∧ Below w.heap.size w w' := by
  have H1 := hide (fun (k : Nat) (h : k < (dgs (bys s)).length) => dgs_at (bys s) h)
  have H2 := hide (dgs_stop (bys s))
  have H3 := hide (dgs_take (bys s))
  have H4 := hide (dgs_drop (bys s))
  have hle := dgs_len (bys s)
  rw [bys_len] at hle H2
  obtain ⟨n, hn⟩ : ∃ n, n = (dgs (bys s)).length := ⟨_, rfl⟩
  rw [← hn] at hle H1 H2 H3 H4
  obtain ⟨A, hA⟩ : ∃ A : ByteArray, A = ⟨(dgs (bys s)).toArray⟩ := ⟨_, rfl⟩
  obtain ⟨B, hB⟩ : ∃ B : ByteArray, B = ⟨(aft (bys s)).toArray⟩ := ⟨_, rfl⟩
  have HA : Hid (s.extract 0 n = A) := by rw [hA, ← H3.out, Lib.extract_upto]; rfl
  have HB : Hid (s.extract n s.size = B) := by rw [hB, ← H4.out, Lib.extract_from]; rfl
  rw [← hA, ← hB]
  clear hn hA hB H3 H4
  go_enter Tryz.func55, Tryz.ntmps55
  go_wp2
  go_loopw [4] (fun i wr => ∃ k : Nat, k ≤ n ∧ i = .int .i64 (k : Int) ∧ wr = w) (fun i _ => n - (intOf i).toNat)
  case atStart => exact ⟨0, Nat.zero_le _, rfl, rfl⟩
  case round =>
    obtain ⟨k, hk, rfl, rfl⟩ := hrel
    by_cases hlt : k < n
    · have hlt' : (k : Int) < (s.size : Int) := by omega
      have hks : k < s.size := by omega
      have hg : ∀ h : k < s.size, s[k].toNat = byt (bys s) k := fun h => byt_get s k h
      have hb := H1.out k hlt
      obtain ⟨b, hbb⟩ : ∃ b, b = byt (bys s) k := ⟨_, rfl⟩
      rw [← hbb] at hg hb
      have h1' : decide ((48 : Int) ≤ (b : Int)) = true := decide_eq_true (by omega)
      have h2' : decide ((b : Int) ≤ 57) = true := decide_eq_true (by omega)
      have h1'' : (48 : Int) ≤ (b : Int) := by omega
      have h2'' : (b : Int) ≤ 57 := by omega
      clear hbb
      go_wp2
      exact ⟨⟨k + 1, by omega, by go_num, trivial⟩, by simp [intOf]; omega⟩
    · have hkn : k = n := by omega
      by_cases hend : k < s.size
      · have hlt' : (k : Int) < (s.size : Int) := by omega
        have hg : ∀ h : k < s.size, s[k].toNat = byt (bys s) k := fun h => byt_get s k h
        have hb := H2.out (by omega)
        rw [← hkn] at hb
        obtain ⟨b, hbb⟩ : ∃ b, b = byt (bys s) k := ⟨_, rfl⟩
        rw [← hbb] at hg hb
        rw [← hkn] at HA HB
        clear hbb hkn hlt
        by_cases h1 : 48 ≤ b
        · have h1'' : (48 : Int) ≤ (b : Int) := by omega
          have h2'' : ¬ (b : Int) ≤ 57 := by omega
          go_wp2
          go_region
          go_wp2
          go_ret2
          rw [HA.out, HB.out]
          exact ⟨rfl, (Below.refl _ _).drew⟩
        · have h1'' : ¬ (48 : Int) ≤ (b : Int) := by omega
          go_wp2
          go_region
          go_wp2
          go_ret2
          rw [HA.out, HB.out]
          exact ⟨rfl, (Below.refl _ _).drew⟩
      · have hlt' : ¬ (k : Int) < (s.size : Int) := by omega
        rw [← hkn] at HA HB
        clear hkn hlt
        go_wp2
        go_region
        go_wp2
        go_ret2
        rw [HA.out, HB.out]
        exact ⟨rfl, (Below.refl _ _).drew⟩

set_option maxHeartbeats 1000000 in
theorem unsigned_any (s : ByteArray) (w : World) :
    Calls Tryz.prog 56 #[.string s] w fun e w' => e = .returned (.string ⟨(unsg (bys s)).toArray⟩) ∧ w = w' := by
  have P1 := hide (fun W => Tryz.strings_HasPrefix s ⟨#[45]⟩ W)
  have P2 := hide (fun W => Tryz.strings_HasPrefix s ⟨#[43]⟩ W)
  have hp1 : Lib.hasPrefix s.data.toList [45] = decide ((bys s).head? = some 45) := hp_one (bys s) 45
  have hp2 : Lib.hasPrefix s.data.toList [43] = decide ((bys s).head? = some 43) := hp_one (bys s) 43
  have e1 : (⟨#[45]⟩ : ByteArray).data.toList = [45] := rfl
  have e2 : (⟨#[43]⟩ : ByteArray).data.toList = [43] := rfl
  rw [e1, hp1] at P1
  rw [e2, hp2] at P2
  clear hp1 hp2 e1 e2
  by_cases h1 : (bys s).head? = some 45
  · rw [decide_eq_true h1] at P1
    have HU : Hid (s.extract 1 s.size = ⟨(unsg (bys s)).toArray⟩) := by rw [Lib.extract_from]; rw [unsg_drop (.inl h1)]; rfl
    have hs : (1 : Int) ≤ (s.size : Int) := by have := head_pos h1; rw [bys_len] at this; omega
    clear h1 P2
    go_enter Tryz.func56, Tryz.ntmps56
    go_wp2_with fail
    refine (P1.out _).mono ?_
    rintro e w' ⟨rfl, rfl⟩
    go_wp2
    go_ret
    rw [HU.out]
    exact ⟨rfl, rfl⟩
  · rw [decide_eq_false h1] at P1
    by_cases h2 : (bys s).head? = some 43
    · rw [decide_eq_true h2] at P2
      have HU : Hid (s.extract 1 s.size = ⟨(unsg (bys s)).toArray⟩) := by rw [Lib.extract_from]; rw [unsg_drop (.inr h2)]; rfl
      have hs : (1 : Int) ≤ (s.size : Int) := by have := head_pos h2; rw [bys_len] at this; omega
      clear h1 h2
      go_enter Tryz.func56, Tryz.ntmps56
      go_wp2_with fail
      refine (P1.out _).mono ?_
      rintro e w' ⟨rfl, rfl⟩
      go_wp2_with fail
      refine (P2.out _).mono ?_
      rintro e w' ⟨rfl, rfl⟩
      go_wp2
      go_ret
      rw [HU.out]
      exact ⟨rfl, rfl⟩
    · rw [decide_eq_false h2] at P2
      have HU : Hid (s = ⟨(unsg (bys s)).toArray⟩) := by rw [unsg_same h1 h2]; exact (mk_bys s).symm
      clear h1 h2
      go_enter Tryz.func56, Tryz.ntmps56
      go_wp2_with fail
      refine (P1.out _).mono ?_
      rintro e w' ⟨rfl, rfl⟩
      go_wp2_with fail
      refine (P2.out _).mono ?_
      rintro e w' ⟨rfl, rfl⟩
      go_wp2
      go_ret
      rw [← HU.out]
      exact ⟨rfl, rfl⟩

end Go.Proofs.YtafljhfamjabeaaGreatDoor

namespace Go.Proofs.YtafljhfamjabeaaGreatDoor
open Go.RowKit

section
variable {w : World} {b : Nat} {t : TypeId} {x0 x1 x2 x3 : Value}
theorem Blk.set0 (h : Blk w b #[x0, x1, x2, x3] t) (y : Value) : Blk (w.setCell ⟨b, 0, none⟩ y) b #[y, x1, x2, x3] t := by
  unfold Blk at *
  simp only [World.setCell, Array.getElem?_modify, if_true, h, Option.map_some]
  rfl
theorem Blk.set1 (h : Blk w b #[x0, x1, x2, x3] t) (y : Value) : Blk (w.setCell ⟨b, 1, none⟩ y) b #[x0, y, x2, x3] t := by
  unfold Blk at *
  simp only [World.setCell, Array.getElem?_modify, if_true, h, Option.map_some]
  rfl
theorem Blk.set2 (h : Blk w b #[x0, x1, x2, x3] t) (y : Value) : Blk (w.setCell ⟨b, 2, none⟩ y) b #[x0, x1, y, x3] t := by
  unfold Blk at *
  simp only [World.setCell, Array.getElem?_modify, if_true, h, Option.map_some]
  rfl
theorem Blk.set3 (h : Blk w b #[x0, x1, x2, x3] t) (y : Value) : Blk (w.setCell ⟨b, 3, none⟩ y) b #[x0, x1, x2, y] t := by
  unfold Blk at *
  simp only [World.setCell, Array.getElem?_modify, if_true, h, Option.map_some]
  rfl
end

/-- What takeApart answers. -/
abbrev numV (neg : Bool) (a b : List UInt8) (p : Int) : Value := .agg #[.bool neg, .string ⟨a.toArray⟩, .string ⟨b.toArray⟩, .int .i64 p]
def partsV : Option Parts → Value
  | none => .tuple #[numV false [] [] 0, .bool false]
  | some p => .tuple #[numV p.neg p.ahead p.behind p.pow, .bool true]

theorem results_num2 {fn : Func} {a c : Tmp} (h : fn.results = #[.cell a 43, .tmp c]) (tmps : Array Value) (H : Nat) (x0 x1 x2 x3 : Value) (w : World) (ht : tmps.getD a undef = .pointer (some ⟨H, 0, none⟩)) (hp : Blk w H #[x0, x1, x2, x3] 43) :
    (results fn tmps).run Tryz.prog w = .ok (.tuple #[.agg #[x0, x1, x2, x3], tmps.getD c undef]) w := by
  have c0 := hp.cell 0
  have c1 := hp.cell 1
  have c2 := hp.cell 2
  have c3 := hp.cell 3
  simp at c0 c1 c2 c3
  rw [Array.getD_eq_getD_getElem?] at ht
  simp [results, h, ht, go_sem, c0, c1, c2, c3]

/-- How far a text has been taken apart: what is left, and what its parts say so far. -/
def restK (s : List UInt8) : Nat → List UInt8
  | 0 => s
  | 1 => p1 s
  | 2 => p2 s
  | 3 => p3 s
  | _ => p4 s
def negK (s : List UInt8) (k : Nat) : Bool := if k = 0 then false else Lib.hasPrefix s [45]
def aheadK (s : List UInt8) (k : Nat) : List UInt8 := if k ≤ 1 then [] else pAhead s
def behindK (s : List UInt8) (k : Nat) : List UInt8 := if k ≤ 2 then [] else pBehind s

structure TakeInv (s : List UInt8) (w : World) (k : Nat) (r : Value) (wr : World) : Prop where
  hk : k ≤ 4
  hr : r = .string ⟨(restK s k).toArray⟩
  low : Below w.heap.size w wr
  res : Blk wr w.heap.size #[.bool false, .string ⟨#[]⟩, .string ⟨#[]⟩, .int .i64 0] 43
  num : Blk wr (w.heap.size + 1) #[.bool (negK s k), .string ⟨(aheadK s k).toArray⟩, .string ⟨(behindK s k).toArray⟩, .int .i64 0] 43
  some : 3 ≤ k → ¬ (pAhead s = [] ∧ pBehind s = [])
  mark : 4 ≤ k → p3 s ≠ [] ∧ (byt (p3 s) 0 = 101 ∨ byt (p3 s) 0 = 69)

theorem mk_data0 (l : List UInt8) : (⟨l.toArray⟩ : ByteArray).data.toList = l := by simp

theorem cutp (L : List UInt8) (c : UInt8) (W : World) : Calls Tryz.prog 54 #[.string ⟨L.toArray⟩, .string ⟨#[c]⟩] W fun e w' => e = .returned (.tuple #[.string ⟨(Lib.trimPrefix L [c]).toArray⟩, .bool (Lib.hasPrefix L [c])]) ∧ w' = W := by
  have h := Tryz.strings_CutPrefix ⟨L.toArray⟩ ⟨#[c]⟩ W
  rw [mk_data0] at h
  exact h

theorem cutd (L : List UInt8) (W : World) (h : L.length ≤ 281474976710656) : Calls Tryz.prog 55 #[.string ⟨L.toArray⟩] W fun e w' => e = .returned (.tuple #[.string ⟨(dgs L).toArray⟩, .string ⟨(aft L).toArray⟩]) ∧ Below W.heap.size W w' := by
  have h := dcut_any ⟨L.toArray⟩ W (by rw [size_mk0]; exact h)
  rw [bys_mk] at h
  exact h

theorem unsd (L : List UInt8) (W : World) : Calls Tryz.prog 56 #[.string ⟨L.toArray⟩] W fun e w' => e = .returned (.string ⟨(unsg L).toArray⟩) ∧ W = w' := by
  have h := unsigned_any ⟨L.toArray⟩ W
  rw [bys_mk] at h
  exact h

theorem atoi_len {l : List UInt8} (h2 : ¬ 5 < (dgs (unsg l)).length) (h3 : aft (unsg l) = []) : l.length ≤ 18 := by
  have h4 := congrArg List.length (dgs_aft (unsg l))
  rw [List.length_append, h3, List.length_nil] at h4
  have h5 : l.length ≤ (unsg l).length + 1 := by
    cases l with
    | nil => simp
    | cons b t => by_cases h : b = 45 ∨ b = 43 <;> simp [unsg, h]
  omega

theorem bytes_below (w : World) (T : TypeId) (t : ByteArray) : Below w.heap.size w (Lib.bytesWorld w T t) := Joins.below_bytesWorld _ w T t (Nat.le_refl _)

theorem tp_len (l p : List UInt8) : (Lib.trimPrefix l p).length ≤ l.length := Lib.trimPrefix_le l p
theorem aft_len (l : List UInt8) : (aft l).length ≤ l.length := by
  have := congrArg List.length (dgs_aft l)
  rw [List.length_append] at this; omega
theorem p1_len (s : List UInt8) : (p1 s).length ≤ s.length := tp_len _ _
theorem p2_len (s : List UInt8) : (p2 s).length ≤ s.length := Nat.le_trans (aft_len _) (p1_len s)
theorem p3_len (s : List UInt8) : (p3 s).length ≤ s.length := by
  unfold p3; split
  · exact Nat.le_trans (aft_len _) (Nat.le_trans (tp_len _ _) (p2_len s))
  · exact p2_len s
theorem unsg_len (l : List UInt8) : (unsg l).length ≤ l.length := by
  cases l with
  | nil => simp [unsg]
  | cons b t => unfold unsg; simp only; split <;> simp
theorem p4_len (s : List UInt8) : (p4 s).length ≤ s.length := by
  unfold p4; rw [List.length_drop]; have := p3_len s; omega

set_option maxRecDepth 100000 in
set_option maxHeartbeats 2000000 in
theorem take_any (s : ByteArray) (w : World) (hs : s.size ≤ 281474976710656) :
    Calls Tryz.prog 34 #[.string s] w fun e w' => e = .returned (partsV (parseT (bys s))) ∧ Below w.heap.size w w' := by
  have START : Hid (TakeInv (bys s) w 0 (.string s) ((w.alloc (.cells #[.bool false, .string ⟨#[]⟩, .string ⟨#[]⟩, .int .i64 0] 43)).alloc (.cells #[.bool false, .string ⟨#[]⟩, .string ⟨#[]⟩, .int .i64 0] 43))) :=
    ⟨by omega, by rw [show restK (bys s) 0 = bys s from rfl, mk_bys], ((Below.refl _ _).alloc (Nat.le_refl _) _).alloc (by simp) _, (Blk.new _ _ _).alloc _, Blk.newAt _ _ (by simp) _ _, by omega, by omega⟩
  obtain ⟨L, hL⟩ : ∃ L, L = bys s := ⟨_, rfl⟩
  have HLEN : Hid (L.length ≤ 281474976710656) := by rw [hL, bys_len]; exact hs
  rw [← hL] at START ⊢
  clear hL hs
  go_enter Tryz.func34, Tryz.ntmps34
  go_wp2
  go_step3
  go_wp2
  go_step3
  go_wp2
  go_loopw [0, 10] (fun r i wr => ∃ (k : Nat) (z : Int), i = .int .i64 z ∧ z = (k : Int) ∧ Hid (TakeInv L w k r wr)) (fun _ i _ => 5 - (intOf i).toNat)
  case atStart => exact ⟨0, 0, rfl, rfl, START.out⟩
  case round =>
    clear START
    obtain ⟨k, z, rfl, hz, INV⟩ := hrel
    obtain rfl := INV.out.hr
    have hk := INV.out.hk
    obtain ⟨wq, hq⟩ : ∃ x, x = wr := ⟨_, rfl⟩
    subst hq
    rcases k with _ | _ | _ | _ | _ | k
    · obtain rfl : z = 0 := by omega
      have y0 : wq.cell? ⟨w.heap.size + 1, 0, none⟩ = some (.bool false) := INV.out.num.cell 0
      have f0 := INV.out.num.free 0
      have y1 : wq.cell? ⟨w.heap.size + 1, 1, none⟩ = some (.string ⟨#[]⟩) := INV.out.num.cell 1
      have f1 := INV.out.num.free 1
      have y2 : wq.cell? ⟨w.heap.size + 1, 2, none⟩ = some (.string ⟨#[]⟩) := INV.out.num.cell 2
      have f2 := INV.out.num.free 2
      have y3 : wq.cell? ⟨w.heap.size + 1, 3, none⟩ = some (.int .i64 0) := INV.out.num.cell 3
      have f3 := INV.out.num.free 3
      rw [show restK L 0 = L from rfl]
      clear hz hk
      go_wp2_with fail
      refine (cutp L 45 _).mono ?_
      rintro e w1 ⟨rfl, rfl⟩
      go_wp2
      exact ⟨⟨1, 1, rfl, rfl, by omega, rfl, INV.out.low.setCell (Nat.le_succ _) _, INV.out.res.other (by simp) _, INV.out.num.set0 _, by omega, by omega⟩, by simp [intOf]⟩
    · obtain rfl : z = 1 := by omega
      rw [show restK L 1 = p1 L from rfl]
      have CD := hide (fun W => cutd (p1 L) W (Nat.le_trans (p1_len L) HLEN.out))
      obtain ⟨R, hR⟩ : ∃ R : ByteArray, R = ⟨(p1 L).toArray⟩ := ⟨_, rfl⟩
      rw [← hR] at CD ⊢
      clear hz hk hR
      go_wp2_with fail
      refine (CD.out _).mono ?_
      rintro e w1 ⟨rfl, hb⟩
      have BN := hide (INV.out.num.below hb INV.out.num.lt)
      have BR := hide (INV.out.res.below hb INV.out.res.lt)
      have HB := hide (INV.out.low.trans (hb.mono INV.out.low.size))
      clear hb INV
      have y0 : w1.cell? ⟨w.heap.size + 1, 0, none⟩ = some (.bool (Lib.hasPrefix L [45])) := BN.out.cell 0
      have f0 := BN.out.free 0
      have y1 : w1.cell? ⟨w.heap.size + 1, 1, none⟩ = some (.string ⟨#[]⟩) := BN.out.cell 1
      have f1 := BN.out.free 1
      have y2 : w1.cell? ⟨w.heap.size + 1, 2, none⟩ = some (.string ⟨#[]⟩) := BN.out.cell 2
      have f2 := BN.out.free 2
      have y3 : w1.cell? ⟨w.heap.size + 1, 3, none⟩ = some (.int .i64 0) := BN.out.cell 3
      have f3 := BN.out.free 3
      go_wp2
      exact ⟨⟨2, 2, rfl, rfl, by omega, rfl, HB.out.setCell (Nat.le_succ _) _, BR.out.other (by simp) _, BN.out.set1 _, by omega, by omega⟩, by simp [intOf]⟩
    · obtain rfl : z = 2 := by omega
      rw [show restK L 2 = p2 L from rfl]
      have CP := hide (fun W => cutp (p2 L) 46 W)
      rw [show Lib.hasPrefix (p2 L) [46] = pDot L from rfl] at CP
      have HT := hide (Nat.le_trans (tp_len (p2 L) [46]) (Nat.le_trans (p2_len L) HLEN.out))
      have CD := hide (fun W => cutd (Lib.trimPrefix (p2 L) [46]) W HT.out)
      obtain ⟨R, hR⟩ : ∃ R : ByteArray, R = ⟨(p2 L).toArray⟩ := ⟨_, rfl⟩
      obtain ⟨T, hT⟩ : ∃ T : ByteArray, T = ⟨(Lib.trimPrefix (p2 L) [46]).toArray⟩ := ⟨_, rfl⟩
      rw [← hT] at CD
      rw [← hR] at CP ⊢
      rw [← hT] at CP
      have HR := hide hR
      clear hz hk hR hT HT
      by_cases hd : ¬ pDot L = true
      · rw [show pDot L = false by simpa using hd] at CP
        have EB : Hid (pBehind L = []) := by unfold pBehind; rw [if_neg hd]; rfl
        have E3 : Hid (p3 L = p2 L) := by unfold p3; rw [if_neg hd]; rfl
        clear CD hd
        by_cases ha : pAhead L = []
        · have PN : Hid (parseT L = none) := by unfold parseT; rw [if_pos ⟨ha, EB.out⟩]; rfl
          have y0 : wq.cell? ⟨w.heap.size + 1, 0, none⟩ = some (.bool (Lib.hasPrefix L [45])) := INV.out.num.cell 0
          have f0 := INV.out.num.free 0
          have y1 : wq.cell? ⟨w.heap.size + 1, 1, none⟩ = some (.string ⟨#[]⟩) := by have := INV.out.num.cell 1; rw [this]; show some (Value.string ⟨(pAhead L).toArray⟩) = _; rw [ha]
          have f1 := INV.out.num.free 1
          have y2 : wq.cell? ⟨w.heap.size + 1, 2, none⟩ = some (.string ⟨#[]⟩) := INV.out.num.cell 2
          have f2 := INV.out.num.free 2
          have y3 : wq.cell? ⟨w.heap.size + 1, 3, none⟩ = some (.int .i64 0) := INV.out.num.cell 3
          have f3 := INV.out.num.free 3
          have z0 : wq.cell? ⟨w.heap.size, 0, none⟩ = some (.bool false) := INV.out.res.cell 0
          have g0 := INV.out.res.free 0
          have z1 : wq.cell? ⟨w.heap.size, 1, none⟩ = some (.string ⟨#[]⟩) := INV.out.res.cell 1
          have g1 := INV.out.res.free 1
          have z2 : wq.cell? ⟨w.heap.size, 2, none⟩ = some (.string ⟨#[]⟩) := INV.out.res.cell 2
          have g2 := INV.out.res.free 2
          have z3 : wq.cell? ⟨w.heap.size, 3, none⟩ = some (.int .i64 0) := INV.out.res.cell 3
          have g3 := INV.out.res.free 3
          clear ha
          go_wp2_with fail
          refine (CP.out _).mono ?_
          rintro e w1 ⟨rfl, rfl⟩
          go_wp2
          rw [Exit.noGoto_ret]
          refine bodyPost_ret (results_num2 rfl _ _ _ _ _ _ _ rfl (INV.out.res.put4 _ _ _ _)) rfl ?_
          exact ⟨by rw [PN.out]; rfl, below_put4 (INV.out.low) (Nat.le_refl _) _ _ _ _⟩
        · obtain ⟨A, hA⟩ : ∃ A : ByteArray, A = ⟨(pAhead L).toArray⟩ := ⟨_, rfl⟩
          have hne : A.size ≠ 0 := by rw [hA, size_mk0]; exact fun e => ha (List.length_eq_zero_iff.1 e)
          have hA1 := toList_ne hne
          have HA := hide hA
          clear hne hA
          have y0 : wq.cell? ⟨w.heap.size + 1, 0, none⟩ = some (.bool (Lib.hasPrefix L [45])) := INV.out.num.cell 0
          have f0 := INV.out.num.free 0
          have y1 : wq.cell? ⟨w.heap.size + 1, 1, none⟩ = some (.string A) := by rw [HA.out]; exact INV.out.num.cell 1
          have f1 := INV.out.num.free 1
          have y2 : wq.cell? ⟨w.heap.size + 1, 2, none⟩ = some (.string ⟨#[]⟩) := INV.out.num.cell 2
          have f2 := INV.out.num.free 2
          have y3 : wq.cell? ⟨w.heap.size + 1, 3, none⟩ = some (.int .i64 0) := INV.out.num.cell 3
          have f3 := INV.out.num.free 3
          have NE : Hid (¬ (pAhead L = [] ∧ pBehind L = [])) := fun e => ha e.1
          clear ha
          go_wp2_with fail
          refine (CP.out _).mono ?_
          rintro e w1 ⟨rfl, rfl⟩
          go_wp2
          refine ⟨⟨3, 3, rfl, rfl, by omega, ?_, INV.out.low, INV.out.res, ?_, fun _ => NE.out, by omega⟩, by simp [intOf]⟩
          · rw [HR.out, ← E3.out]; rfl
          · have h := INV.out.num
            rw [show behindK L 3 = pBehind L from rfl, EB.out]
            exact h
      · have hd := Classical.not_not.1 hd
        rw [hd] at CP
        have EB : Hid (pBehind L = dgs (Lib.trimPrefix (p2 L) [46])) := by unfold pBehind; rw [if_pos hd]; rfl
        have E3 : Hid (p3 L = aft (Lib.trimPrefix (p2 L) [46])) := by unfold p3; rw [if_pos hd]; rfl
        rw [← EB.out, ← E3.out] at CD
        obtain ⟨P, hP⟩ : ∃ P : ByteArray, P = ⟨(p3 L).toArray⟩ := ⟨_, rfl⟩
        rw [← hP] at CD
        have HP := hide hP
        clear hd hP EB E3
        by_cases ha : pAhead L = []
        · by_cases hb0 : pBehind L = []
          · have PN : Hid (parseT L = none) := by unfold parseT; rw [if_pos ⟨ha, hb0⟩]; rfl
            rw [hb0] at CD
            go_wp2_with fail
            refine (CP.out _).mono ?_
            rintro e w1 ⟨rfl, rfl⟩
            go_wp2_with fail
            refine (CD.out _).mono ?_
            rintro e w1 ⟨rfl, hb⟩
            have BN := hide (INV.out.num.below hb INV.out.num.lt)
            have BR := hide (INV.out.res.below hb INV.out.res.lt)
            have HB := hide (INV.out.low.trans (hb.mono INV.out.low.size))
            clear hb INV
            have y0 : w1.cell? ⟨w.heap.size + 1, 0, none⟩ = some (.bool (Lib.hasPrefix L [45])) := BN.out.cell 0
            have f0 := BN.out.free 0
            have y1 : w1.cell? ⟨w.heap.size + 1, 1, none⟩ = some (.string ⟨#[]⟩) := by have := BN.out.cell 1; rw [this]; show some (Value.string ⟨(pAhead L).toArray⟩) = _; rw [ha]
            have f1 := BN.out.free 1
            have y2 : w1.cell? ⟨w.heap.size + 1, 2, none⟩ = some (.string ⟨#[]⟩) := BN.out.cell 2
            have f2 := BN.out.free 2
            have y3 : w1.cell? ⟨w.heap.size + 1, 3, none⟩ = some (.int .i64 0) := BN.out.cell 3
            have f3 := BN.out.free 3
            have z0 : w1.cell? ⟨w.heap.size, 0, none⟩ = some (.bool false) := BR.out.cell 0
            have g0 := BR.out.free 0
            have z1 : w1.cell? ⟨w.heap.size, 1, none⟩ = some (.string ⟨#[]⟩) := BR.out.cell 1
            have g1 := BR.out.free 1
            have z2 : w1.cell? ⟨w.heap.size, 2, none⟩ = some (.string ⟨#[]⟩) := BR.out.cell 2
            have g2 := BR.out.free 2
            have z3 : w1.cell? ⟨w.heap.size, 3, none⟩ = some (.int .i64 0) := BR.out.cell 3
            have g3 := BR.out.free 3
            clear ha hb0
            go_wp2
            rw [Exit.noGoto_ret]
            refine bodyPost_ret (results_num2 rfl _ _ _ _ _ _ _ rfl ((BR.out.other (by simp) _).put4 _ _ _ _)) rfl ?_
            exact ⟨by rw [PN.out]; rfl, below_put4 (HB.out.setCell (Nat.le_succ _) _) (Nat.le_refl _) _ _ _ _⟩
          · obtain ⟨B, hB⟩ : ∃ B : ByteArray, B = ⟨(pBehind L).toArray⟩ := ⟨_, rfl⟩
            have hne : B.size ≠ 0 := by rw [hB, size_mk0]; exact fun e => hb0 (List.length_eq_zero_iff.1 e)
            have hB1 := toList_ne hne
            have NE : Hid (¬ (pAhead L = [] ∧ pBehind L = [])) := fun e => hb0 e.2
            rw [← hB] at CD
            have HBB := hide hB
            clear hne hB
            go_wp2_with fail
            refine (CP.out _).mono ?_
            rintro e w1 ⟨rfl, rfl⟩
            go_wp2_with fail
            refine (CD.out _).mono ?_
            rintro e w1 ⟨rfl, hb⟩
            have BN := hide (INV.out.num.below hb INV.out.num.lt)
            have BR := hide (INV.out.res.below hb INV.out.res.lt)
            have HB := hide (INV.out.low.trans (hb.mono INV.out.low.size))
            clear hb INV
            have y0 : w1.cell? ⟨w.heap.size + 1, 0, none⟩ = some (.bool (Lib.hasPrefix L [45])) := BN.out.cell 0
            have f0 := BN.out.free 0
            have y1 : w1.cell? ⟨w.heap.size + 1, 1, none⟩ = some (.string ⟨#[]⟩) := by have := BN.out.cell 1; rw [this]; show some (Value.string ⟨(pAhead L).toArray⟩) = _; rw [ha]
            have f1 := BN.out.free 1
            have y2 : w1.cell? ⟨w.heap.size + 1, 2, none⟩ = some (.string ⟨#[]⟩) := BN.out.cell 2
            have f2 := BN.out.free 2
            have y3 : w1.cell? ⟨w.heap.size + 1, 3, none⟩ = some (.int .i64 0) := BN.out.cell 3
            have f3 := BN.out.free 3
            have EA := hide ha
            clear ha hb0
            go_wp2
            refine ⟨⟨3, 3, rfl, rfl, by omega, by rw [HP.out]; rfl, HB.out.setCell (Nat.le_succ _) _, BR.out.other (by simp) _, ?_, fun _ => NE.out, by omega⟩, by simp [intOf]⟩
            have h := BN.out.set2 (.string B)
            rw [HBB.out] at h ⊢
            exact h
        · obtain ⟨A, hA⟩ : ∃ A : ByteArray, A = ⟨(pAhead L).toArray⟩ := ⟨_, rfl⟩
          have hne : A.size ≠ 0 := by rw [hA, size_mk0]; exact fun e => ha (List.length_eq_zero_iff.1 e)
          have hA1 := toList_ne hne
          have HA := hide hA
          clear hne hA
          obtain ⟨B, hB⟩ : ∃ B : ByteArray, B = ⟨(pBehind L).toArray⟩ := ⟨_, rfl⟩
          have NE : Hid (¬ (pAhead L = [] ∧ pBehind L = [])) := fun e => ha e.1
          rw [← hB] at CD
          have HBB := hide hB
          clear hB ha
          go_wp2_with fail
          refine (CP.out _).mono ?_
          rintro e w1 ⟨rfl, rfl⟩
          go_wp2_with fail
          refine (CD.out _).mono ?_
          rintro e w1 ⟨rfl, hb⟩
          have BN := hide (INV.out.num.below hb INV.out.num.lt)
          have BR := hide (INV.out.res.below hb INV.out.res.lt)
          have HB := hide (INV.out.low.trans (hb.mono INV.out.low.size))
          clear hb INV
          have y0 : w1.cell? ⟨w.heap.size + 1, 0, none⟩ = some (.bool (Lib.hasPrefix L [45])) := BN.out.cell 0
          have f0 := BN.out.free 0
          have y1 : w1.cell? ⟨w.heap.size + 1, 1, none⟩ = some (.string A) := by rw [HA.out]; exact BN.out.cell 1
          have f1 := BN.out.free 1
          have y2 : w1.cell? ⟨w.heap.size + 1, 2, none⟩ = some (.string ⟨#[]⟩) := BN.out.cell 2
          have f2 := BN.out.free 2
          have y3 : w1.cell? ⟨w.heap.size + 1, 3, none⟩ = some (.int .i64 0) := BN.out.cell 3
          have f3 := BN.out.free 3
          go_wp2
          refine ⟨⟨3, 3, rfl, rfl, by omega, by rw [HP.out]; rfl, HB.out.setCell (Nat.le_succ _) _, BR.out.other (by simp) _, ?_, fun _ => NE.out, by omega⟩, by simp [intOf]⟩
          have h := BN.out.set2 (.string B)
          rw [HBB.out] at h ⊢
          exact h
    · obtain rfl : z = 3 := by omega
      rw [show restK L 3 = p3 L from rfl]
      have NE := hide (INV.out.some (by omega))
      obtain ⟨A, hA⟩ : ∃ A : ByteArray, A = ⟨(pAhead L).toArray⟩ := ⟨_, rfl⟩
      obtain ⟨B, hB⟩ : ∃ B : ByteArray, B = ⟨(pBehind L).toArray⟩ := ⟨_, rfl⟩
      obtain ⟨S, hS⟩ : ∃ S : Bool, S = Lib.hasPrefix L [45] := ⟨_, rfl⟩
      have NUM : Hid (Blk wq (w.heap.size + 1) #[.bool S, .string A, .string B, .int .i64 0] 43) := by rw [hA, hB, hS]; exact INV.out.num
      have HA := hide hA
      have HBB := hide hB
      have HSS := hide hS
      clear hA hB hS
      have y0 : wq.cell? ⟨w.heap.size + 1, 0, none⟩ = some (.bool S) := NUM.out.cell 0
      have f0 := NUM.out.free 0
      have y1 : wq.cell? ⟨w.heap.size + 1, 1, none⟩ = some (.string A) := NUM.out.cell 1
      have f1 := NUM.out.free 1
      have y2 : wq.cell? ⟨w.heap.size + 1, 2, none⟩ = some (.string B) := NUM.out.cell 2
      have f2 := NUM.out.free 2
      have y3 : wq.cell? ⟨w.heap.size + 1, 3, none⟩ = some (.int .i64 0) := NUM.out.cell 3
      have f3 := NUM.out.free 3
      have z0 : wq.cell? ⟨w.heap.size, 0, none⟩ = some (.bool false) := INV.out.res.cell 0
      have g0 := INV.out.res.free 0
      have z1 : wq.cell? ⟨w.heap.size, 1, none⟩ = some (.string ⟨#[]⟩) := INV.out.res.cell 1
      have g1 := INV.out.res.free 1
      have z2 : wq.cell? ⟨w.heap.size, 2, none⟩ = some (.string ⟨#[]⟩) := INV.out.res.cell 2
      have g2 := INV.out.res.free 2
      have z3 : wq.cell? ⟨w.heap.size, 3, none⟩ = some (.int .i64 0) := INV.out.res.cell 3
      have g3 := INV.out.res.free 3
      clear hz hk
      by_cases h3 : p3 L = []
      · have PN : Hid (parseT L = some ⟨Lib.hasPrefix L [45], pAhead L, pBehind L, 0⟩) := by unfold parseT; rw [if_neg NE.out, if_pos h3]; rfl
        rw [h3]
        clear h3
        go_wp2
        rw [Exit.noGoto_ret]
        refine bodyPost_ret (results_num2 rfl _ _ _ _ _ _ _ rfl (INV.out.res.put4 _ _ _ _)) rfl ?_
        exact ⟨by rw [PN.out]; unfold partsV; simp only; rw [HA.out, HBB.out, HSS.out]; rfl, below_put4 (INV.out.low) (Nat.le_refl _) _ _ _ _⟩
      · obtain ⟨P, hP⟩ : ∃ P : ByteArray, P = ⟨(p3 L).toArray⟩ := ⟨_, rfl⟩
        have hne : P.size ≠ 0 := by rw [hP, size_mk0]; exact fun e => h3 (List.length_eq_zero_iff.1 e)
        have hP1 := toList_ne hne
        have hp0 : 0 < P.size := by omega
        have hg : ∀ h : 0 < P.size, P[0].toNat = byt (p3 L) 0 := fun h => by rw [byt_get P 0 h, hP, bys_mk]
        have HX : Hid (P.extract 1 P.size = ⟨(p4 L).toArray⟩) := by rw [Lib.extract_from, hP, mk_data0]; rfl
        rw [← hP]
        obtain ⟨b, hb⟩ : ∃ b, b = byt (p3 L) 0 := ⟨_, rfl⟩
        rw [← hb] at hg
        have hp1 : (1 : Int) ≤ (P.size : Int) := by omega
        clear hne hP
        by_cases hm : b = 101
        · have e1 : ((b : Int) != 101) = false := by rw [show (b : Int) = 101 by omega]; rfl
          have MK : Hid (p3 L ≠ [] ∧ (byt (p3 L) 0 = 101 ∨ byt (p3 L) 0 = 69)) := ⟨h3, .inl (by omega)⟩
          clear h3 hb hm
          go_wp2
          refine ⟨⟨4, 4, rfl, rfl, by omega, by rw [HX.out]; rfl, INV.out.low, INV.out.res, INV.out.num, fun _ => NE.out, fun _ => MK.out⟩, by simp [intOf]⟩
        · have e1 : ((b : Int) != 101) = true := by
            have : ¬ (b : Int) = 101 := by omega
            simpa using this
          by_cases hm2 : b = 69
          · have e2 : ((b : Int) != 69) = false := by rw [show (b : Int) = 69 by omega]; rfl
            have MK : Hid (p3 L ≠ [] ∧ (byt (p3 L) 0 = 101 ∨ byt (p3 L) 0 = 69)) := ⟨h3, .inr (by omega)⟩
            clear h3 hb hm hm2
            go_wp2
            refine ⟨⟨4, 4, rfl, rfl, by omega, by rw [HX.out]; rfl, INV.out.low, INV.out.res, INV.out.num, fun _ => NE.out, fun _ => MK.out⟩, by simp [intOf]⟩
          · have e2 : ((b : Int) != 69) = true := by
              have : ¬ (b : Int) = 69 := by omega
              simpa using this
            have PN : Hid (parseT L = none) := by unfold parseT; rw [if_neg NE.out, if_neg h3, if_pos (by omega)]; rfl
            clear h3 hb hm hm2
            go_wp2
            rw [Exit.noGoto_ret]
            refine bodyPost_ret (results_num2 rfl _ _ _ _ _ _ _ rfl (INV.out.res.put4 _ _ _ _)) rfl ?_
            exact ⟨by rw [PN.out]; rfl, below_put4 (INV.out.low) (Nat.le_refl _) _ _ _ _⟩
    · obtain rfl : z = 4 := by omega
      rw [show restK L 4 = p4 L from rfl]
      have NE := hide (INV.out.some (by omega))
      have MK := hide (INV.out.mark (by omega))
      obtain ⟨A, hA⟩ : ∃ A : ByteArray, A = ⟨(pAhead L).toArray⟩ := ⟨_, rfl⟩
      obtain ⟨B, hB⟩ : ∃ B : ByteArray, B = ⟨(pBehind L).toArray⟩ := ⟨_, rfl⟩
      obtain ⟨S, hS⟩ : ∃ S : Bool, S = Lib.hasPrefix L [45] := ⟨_, rfl⟩
      have NUM : Hid (Blk wq (w.heap.size + 1) #[.bool S, .string A, .string B, .int .i64 0] 43) := by rw [hA, hB, hS]; exact INV.out.num
      have HA := hide hA
      have HBB := hide hB
      have HSS := hide hS
      clear hA hB hS
      clear hz hk
      have US := hide (fun W => unsd (p4 L) W)
      have HU := hide (Nat.le_trans (unsg_len (p4 L)) (Nat.le_trans (p4_len L) HLEN.out))
      have CD := hide (fun W => cutd (unsg (p4 L)) W HU.out)
      obtain ⟨U, hU⟩ : ∃ U : ByteArray, U = ⟨(unsg (p4 L)).toArray⟩ := ⟨_, rfl⟩
      rw [← hU] at US CD
      obtain ⟨P, hP⟩ : ∃ P : ByteArray, P = ⟨(p4 L).toArray⟩ := ⟨_, rfl⟩
      rw [← hP] at US ⊢
      obtain ⟨D, hD⟩ : ∃ D : ByteArray, D = ⟨(dgs (unsg (p4 L))).toArray⟩ := ⟨_, rfl⟩
      obtain ⟨F, hF⟩ : ∃ F : ByteArray, F = ⟨(aft (unsg (p4 L))).toArray⟩ := ⟨_, rfl⟩
      rw [← hD, ← hF] at CD
      have hDs : D.size = (dgs (unsg (p4 L))).length := by rw [hD, size_mk0]
      have hFs : F.size = (aft (unsg (p4 L))).length := by rw [hF, size_mk0]
      have HPP := hide hP
      have HDD := hide hD
      have HFF := hide hF
      clear hU HU hP hD hF
      by_cases h1 : dgs (unsg (p4 L)) = []
      · have PN : Hid (parseT L = none) := by unfold parseT; rw [if_neg NE.out, if_neg MK.out.1, if_neg (fun e => e MK.out.2), if_pos (.inl h1)]; rfl
        obtain rfl : D = ⟨#[]⟩ := by rw [HDD.out, h1]
        clear h1 HDD HFF hDs hFs
        go_wp2_with fail
        refine (US.out _).mono ?_
        rintro e w1 ⟨rfl, rfl⟩
        go_wp2_with fail
        refine (CD.out _).mono ?_
        rintro e w1 ⟨rfl, hb⟩
        have BN := hide (NUM.out.below hb NUM.out.lt)
        have BR := hide (INV.out.res.below hb INV.out.res.lt)
        have HB := hide (INV.out.low.trans (hb.mono INV.out.low.size))
        clear hb INV NUM
        have y0 : w1.cell? ⟨w.heap.size + 1, 0, none⟩ = some (.bool S) := BN.out.cell 0
        have f0 := BN.out.free 0
        have y1 : w1.cell? ⟨w.heap.size + 1, 1, none⟩ = some (.string A) := BN.out.cell 1
        have f1 := BN.out.free 1
        have y2 : w1.cell? ⟨w.heap.size + 1, 2, none⟩ = some (.string B) := BN.out.cell 2
        have f2 := BN.out.free 2
        have y3 : w1.cell? ⟨w.heap.size + 1, 3, none⟩ = some (.int .i64 0) := BN.out.cell 3
        have f3 := BN.out.free 3
        have z0 : w1.cell? ⟨w.heap.size, 0, none⟩ = some (.bool false) := BR.out.cell 0
        have g0 := BR.out.free 0
        have z1 : w1.cell? ⟨w.heap.size, 1, none⟩ = some (.string ⟨#[]⟩) := BR.out.cell 1
        have g1 := BR.out.free 1
        have z2 : w1.cell? ⟨w.heap.size, 2, none⟩ = some (.string ⟨#[]⟩) := BR.out.cell 2
        have g2 := BR.out.free 2
        have z3 : w1.cell? ⟨w.heap.size, 3, none⟩ = some (.int .i64 0) := BR.out.cell 3
        have g3 := BR.out.free 3
        go_wp2
        rw [Exit.noGoto_ret]
        refine bodyPost_ret (results_num2 rfl _ _ _ _ _ _ _ rfl (BR.out.put4 _ _ _ _)) rfl ?_
        exact ⟨by rw [PN.out]; rfl, below_put4 (HB.out) (Nat.le_refl _) _ _ _ _⟩
      · have hd0 : D.size ≠ 0 := by rw [hDs]; exact fun e => h1 (List.length_eq_zero_iff.1 e)
        have hd1 := toList_ne hd0
        by_cases h2 : 5 < (dgs (unsg (p4 L))).length
        · have PN : Hid (parseT L = none) := by unfold parseT; rw [if_neg NE.out, if_neg MK.out.1, if_neg (fun e => e MK.out.2), if_pos (.inr (.inl h2))]; rfl
          have h2' : decide ((5 : Int) < (D.size : Int)) = true := decide_eq_true (by omega)
          clear h1 h2 HDD HFF hDs hFs hd0
          go_wp2_with fail
          refine (US.out _).mono ?_
          rintro e w1 ⟨rfl, rfl⟩
          go_wp2_with fail
          refine (CD.out _).mono ?_
          rintro e w1 ⟨rfl, hb⟩
          have BN := hide (NUM.out.below hb NUM.out.lt)
          have BR := hide (INV.out.res.below hb INV.out.res.lt)
          have HB := hide (INV.out.low.trans (hb.mono INV.out.low.size))
          clear hb INV NUM
          have y0 : w1.cell? ⟨w.heap.size + 1, 0, none⟩ = some (.bool S) := BN.out.cell 0
          have f0 := BN.out.free 0
          have y1 : w1.cell? ⟨w.heap.size + 1, 1, none⟩ = some (.string A) := BN.out.cell 1
          have f1 := BN.out.free 1
          have y2 : w1.cell? ⟨w.heap.size + 1, 2, none⟩ = some (.string B) := BN.out.cell 2
          have f2 := BN.out.free 2
          have y3 : w1.cell? ⟨w.heap.size + 1, 3, none⟩ = some (.int .i64 0) := BN.out.cell 3
          have f3 := BN.out.free 3
          have z0 : w1.cell? ⟨w.heap.size, 0, none⟩ = some (.bool false) := BR.out.cell 0
          have g0 := BR.out.free 0
          have z1 : w1.cell? ⟨w.heap.size, 1, none⟩ = some (.string ⟨#[]⟩) := BR.out.cell 1
          have g1 := BR.out.free 1
          have z2 : w1.cell? ⟨w.heap.size, 2, none⟩ = some (.string ⟨#[]⟩) := BR.out.cell 2
          have g2 := BR.out.free 2
          have z3 : w1.cell? ⟨w.heap.size, 3, none⟩ = some (.int .i64 0) := BR.out.cell 3
          have g3 := BR.out.free 3
          go_wp2
          rw [Exit.noGoto_ret]
          refine bodyPost_ret (results_num2 rfl _ _ _ _ _ _ _ rfl (BR.out.put4 _ _ _ _)) rfl ?_
          exact ⟨by rw [PN.out]; rfl, below_put4 (HB.out) (Nat.le_refl _) _ _ _ _⟩
        · have h2' : decide ((5 : Int) < (D.size : Int)) = false := decide_eq_false (by omega)
          by_cases h3 : aft (unsg (p4 L)) ≠ []
          · have PN : Hid (parseT L = none) := by unfold parseT; rw [if_neg NE.out, if_neg MK.out.1, if_neg (fun e => e MK.out.2), if_pos (.inr (.inr h3))]; rfl
            have hf0 : F.size ≠ 0 := by rw [hFs]; exact fun e => h3 (List.length_eq_zero_iff.1 e)
            have hf1 := toList_ne hf0
            clear h1 h2 h3 HDD HFF hDs hFs hd0 hf0
            go_wp2_with fail
            refine (US.out _).mono ?_
            rintro e w1 ⟨rfl, rfl⟩
            go_wp2_with fail
            refine (CD.out _).mono ?_
            rintro e w1 ⟨rfl, hb⟩
            have BN := hide (NUM.out.below hb NUM.out.lt)
            have BR := hide (INV.out.res.below hb INV.out.res.lt)
            have HB := hide (INV.out.low.trans (hb.mono INV.out.low.size))
            clear hb INV NUM
            have y0 : w1.cell? ⟨w.heap.size + 1, 0, none⟩ = some (.bool S) := BN.out.cell 0
            have f0 := BN.out.free 0
            have y1 : w1.cell? ⟨w.heap.size + 1, 1, none⟩ = some (.string A) := BN.out.cell 1
            have f1 := BN.out.free 1
            have y2 : w1.cell? ⟨w.heap.size + 1, 2, none⟩ = some (.string B) := BN.out.cell 2
            have f2 := BN.out.free 2
            have y3 : w1.cell? ⟨w.heap.size + 1, 3, none⟩ = some (.int .i64 0) := BN.out.cell 3
            have f3 := BN.out.free 3
            have z0 : w1.cell? ⟨w.heap.size, 0, none⟩ = some (.bool false) := BR.out.cell 0
            have g0 := BR.out.free 0
            have z1 : w1.cell? ⟨w.heap.size, 1, none⟩ = some (.string ⟨#[]⟩) := BR.out.cell 1
            have g1 := BR.out.free 1
            have z2 : w1.cell? ⟨w.heap.size, 2, none⟩ = some (.string ⟨#[]⟩) := BR.out.cell 2
            have g2 := BR.out.free 2
            have z3 : w1.cell? ⟨w.heap.size, 3, none⟩ = some (.int .i64 0) := BR.out.cell 3
            have g3 := BR.out.free 3
            go_wp2
            rw [Exit.noGoto_ret]
            refine bodyPost_ret (results_num2 rfl _ _ _ _ _ _ _ rfl (BR.out.put4 _ _ _ _)) rfl ?_
            exact ⟨by rw [PN.out]; rfl, below_put4 (HB.out) (Nat.le_refl _) _ _ _ _⟩
          · have h3 := Classical.not_not.1 h3
            have PN : Hid (parseT L = some ⟨Lib.hasPrefix L [45], pAhead L, pBehind L, powV (p4 L)⟩) := by unfold parseT; rw [if_neg NE.out, if_neg MK.out.1, if_neg (fun e => e MK.out.2), if_neg (fun h => h.elim (fun e => h1 e) fun h => h.elim (fun e => h2 e) fun e => e h3)]; rfl
            obtain rfl : F = ⟨#[]⟩ := by rw [HFF.out, h3]
            have AT := hide (atoi_val h1 h3)
            have HLN : Hid (P.size ≤ 18) := by rw [HPP.out, size_mk0]; exact atoi_len h2 h3
            have AC := hide (fun W => Tryz.strconv_Atoi P (powV (p4 L)) HLN.out (by rw [HPP.out, mk_data0]; exact AT.out) W)
            obtain ⟨q, hq⟩ : ∃ q, q = powV (p4 L) := ⟨_, rfl⟩
            rw [← hq] at AC PN
            clear h1 h2 h3 HDD HFF hDs hFs hd0 AT HLN hq
            go_wp2_with fail
            refine (US.out _).mono ?_
            rintro e w1 ⟨rfl, rfl⟩
            go_wp2_with fail
            refine (CD.out _).mono ?_
            rintro e w1 ⟨rfl, hb⟩
            have BN := hide (NUM.out.below hb NUM.out.lt)
            have BR := hide (INV.out.res.below hb INV.out.res.lt)
            have HB := hide (INV.out.low.trans (hb.mono INV.out.low.size))
            clear hb INV NUM
            have y0 : w1.cell? ⟨w.heap.size + 1, 0, none⟩ = some (.bool S) := BN.out.cell 0
            have f0 := BN.out.free 0
            have y1 : w1.cell? ⟨w.heap.size + 1, 1, none⟩ = some (.string A) := BN.out.cell 1
            have f1 := BN.out.free 1
            have y2 : w1.cell? ⟨w.heap.size + 1, 2, none⟩ = some (.string B) := BN.out.cell 2
            have f2 := BN.out.free 2
            have y3 : w1.cell? ⟨w.heap.size + 1, 3, none⟩ = some (.int .i64 0) := BN.out.cell 3
            have f3 := BN.out.free 3
            have z0 : w1.cell? ⟨w.heap.size, 0, none⟩ = some (.bool false) := BR.out.cell 0
            have g0 := BR.out.free 0
            have z1 : w1.cell? ⟨w.heap.size, 1, none⟩ = some (.string ⟨#[]⟩) := BR.out.cell 1
            have g1 := BR.out.free 1
            have z2 : w1.cell? ⟨w.heap.size, 2, none⟩ = some (.string ⟨#[]⟩) := BR.out.cell 2
            have g2 := BR.out.free 2
            have z3 : w1.cell? ⟨w.heap.size, 3, none⟩ = some (.int .i64 0) := BR.out.cell 3
            have g3 := BR.out.free 3
            go_wp2_with fail
            refine (AC.out _).mono ?_
            rintro e w2 ⟨rfl, tq, hw⟩
            have hb : Below w1.heap.size w1 w2 := by rw [hw]; exact bytes_below _ _ _
            have BN2 := hide (BN.out.below hb BN.out.lt)
            have BR2 := hide (BR.out.below hb BR.out.lt)
            have HB2 := hide (HB.out.trans (hb.mono HB.out.size))
            clear hb hw BN BR HB y0 y1 y2 y3 f0 f1 f2 f3 z0 z1 z2 z3 g0 g1 g2 g3
            have y0 : w2.cell? ⟨w.heap.size + 1, 0, none⟩ = some (.bool S) := BN2.out.cell 0
            have f0 := BN2.out.free 0
            have y1 : w2.cell? ⟨w.heap.size + 1, 1, none⟩ = some (.string A) := BN2.out.cell 1
            have f1 := BN2.out.free 1
            have y2 : w2.cell? ⟨w.heap.size + 1, 2, none⟩ = some (.string B) := BN2.out.cell 2
            have f2 := BN2.out.free 2
            have y3 : w2.cell? ⟨w.heap.size + 1, 3, none⟩ = some (.int .i64 0) := BN2.out.cell 3
            have f3 := BN2.out.free 3
            have z0 : w2.cell? ⟨w.heap.size, 0, none⟩ = some (.bool false) := BR2.out.cell 0
            have g0 := BR2.out.free 0
            have z1 : w2.cell? ⟨w.heap.size, 1, none⟩ = some (.string ⟨#[]⟩) := BR2.out.cell 1
            have g1 := BR2.out.free 1
            have z2 : w2.cell? ⟨w.heap.size, 2, none⟩ = some (.string ⟨#[]⟩) := BR2.out.cell 2
            have g2 := BR2.out.free 2
            have z3 : w2.cell? ⟨w.heap.size, 3, none⟩ = some (.int .i64 0) := BR2.out.cell 3
            have g3 := BR2.out.free 3
            go_wp2
            rw [Exit.noGoto_ret]
            refine bodyPost_ret (results_num2 rfl _ _ _ _ _ _ _ rfl ((BR2.out.other (by simp) _).put4 _ _ _ _)) rfl ?_
            exact ⟨by rw [PN.out]; unfold partsV; simp only; rw [HA.out, HBB.out, HSS.out]; rfl, below_put4 (HB2.out.setCell (Nat.le_succ _) _) (Nat.le_refl _) _ _ _ _⟩
    · omega

end Go.Proofs.YtafljhfamjabeaaGreatDoor

namespace Go.Proofs.YtafljhfamjabeaaGreatDoor
open Go.RowKit

def tNan : List UInt8 := [110, 97, 110]
def tInf : List UInt8 := [105, 110, 102]
def tNeg : List UInt8 := [45, 105, 110, 102]

/-- What a text of parts says. -/
noncomputable def partsD : Option Parts → DecT × Int
  | none => (⟨0, false, [], 0⟩, 50)
  | some p => tellF p.neg (decV (p.ahead ++ p.behind)) (p.pow - p.behind.length)

/-- What Parse answers. -/
noncomputable def parseD (l : List UInt8) : DecT × Int :=
  if l = tNan then (⟨2, false, [], 0⟩, 0) else if l = tInf then (⟨1, false, [], 0⟩, 0) else if l = tNeg then (⟨1, true, [], 0⟩, 0) else partsD (parseT l)

theorem clone_any (s : ByteArray) (w : World) (h : s.size ≤ 281474976710656) : Calls Tryz.prog 36 #[.string s] w fun e w' => e = .returned (.string s) ∧ Below w.heap.size w w' := by
  have C := hide (fun W => Tryz.stringslite_Clone s W h)
  go_enter Tryz.func36, Tryz.ntmps36
  go_wp2_with fail
  refine (C.out _).mono ?_
  rintro e w1 ⟨rfl, hb⟩
  go_wp2
  go_ret
  exact ⟨rfl, hb⟩

theorem sl_ne {s : ByteArray} {l : List UInt8} (h : bys s ≠ l) : (s.toList == l) = false := by
  rw [sl]
  exact beq_eq_false_iff_ne.2 h
theorem powV_lt {l : List UInt8} (h2 : ¬ 5 < (dgs (unsg l)).length) (h3 : aft (unsg l) = []) : -100000 ≤ powV l ∧ powV l ≤ 100000 := by
  have h4 : dgs (unsg l) = unsg l := by have := dgs_aft (unsg l); rwa [h3, List.append_nil] at this
  have h5 := decV_lt _ (unsg l) rfl (by rw [← h4]; exact dgs_digB _)
  rw [h4] at h2
  have h6 : 10 ^ (unsg l).length ≤ 10 ^ 5 := Nat.pow_le_pow_right (by omega) (by omega)
  have h7 : (10 : Nat) ^ 5 = 100000 := by decide
  unfold powV
  split <;> omega

structure PartsOk (s : List UInt8) (p : Parts) : Prop where
  ahead : DigB p.ahead
  behind : DigB p.behind
  al : p.ahead.length ≤ s.length
  bl : p.behind.length ≤ s.length
  lo : -100000 ≤ p.pow
  hi : p.pow ≤ 100000

theorem parts_ok {s : List UInt8} {p : Parts} (h : parseT s = some p) : PartsOk s p := by
  have da : DigB (pAhead s) := dgs_digB _
  have db : DigB (pBehind s) := by
    unfold pBehind; split
    · exact dgs_digB _
    · intro k hk; simp at hk
  have la : (pAhead s).length ≤ s.length := Nat.le_trans (dgs_len _) (p1_len s)
  have lb : (pBehind s).length ≤ s.length := by
    unfold pBehind; split
    · exact Nat.le_trans (dgs_len _) (Nat.le_trans (tp_len _ _) (p2_len s))
    · simp
  unfold parseT at h
  by_cases h1 : pAhead s = [] ∧ pBehind s = []
  · rw [if_pos h1] at h; cases h
  · rw [if_neg h1] at h
    by_cases h2 : p3 s = []
    · rw [if_pos h2] at h; cases h
      exact ⟨da, db, la, lb, by simp, by simp⟩
    · rw [if_neg h2] at h
      by_cases h3 : ¬ (byt (p3 s) 0 = 101 ∨ byt (p3 s) 0 = 69)
      · rw [if_pos h3] at h; cases h
      · rw [if_neg h3] at h
        by_cases h4 : dgs (unsg (p4 s)) = [] ∨ 5 < (dgs (unsg (p4 s))).length ∨ aft (unsg (p4 s)) ≠ []
        · rw [if_pos h4] at h; cases h
        · rw [if_neg h4] at h; cases h
          have h5 : ¬ 5 < (dgs (unsg (p4 s))).length := fun e => h4 (.inr (.inl e))
          have h6 : aft (unsg (p4 s)) = [] := Classical.not_not.1 fun e => h4 (.inr (.inr e))
          obtain ⟨b1, b2⟩ := powV_lt h5 h6
          exact ⟨da, db, la, lb, b1, b2⟩

theorem tellF_len (neg : Bool) (N : Nat) (e : Int) : (tellF neg N e).1.dig.length ≤ 1000 := by
  by_cases h : May (finD neg N e)
  · rw [tellF_yes h]
    rcases may_cases h with ⟨n, h⟩ | h | ⟨n, h⟩ | h
    · rw [h]; simp
    · exact h.len
    · rw [h]; simp
    · rw [h]; simp
  · rw [tellF_no h]; simp

set_option maxRecDepth 100000 in
set_option maxHeartbeats 1000000 in
theorem parse_nan (w : World) : Calls Tryz.prog 18 #[.string ⟨#[110, 97, 110]⟩] w fun e w' => e = .returned (decErr (⟨2, false, [], 0⟩, 0)) ∧ Below w.heap.size w w' := by
  have Br0 := hide (Blk.newAt w (w.heap.size) (rfl) #[.int .i64 0, .bool false, .string ⟨#[]⟩, .int .i64 0] 23)
  have HB0 : Hid (Below w.heap.size w (w.alloc (.cells #[.int .i64 0, .bool false, .string ⟨#[]⟩, .int .i64 0] 23))) := ((Below.refl _ _).alloc (Nat.le_refl _) _)
  go_enter Tryz.func18, Tryz.ntmps18
  go_wp2
  refine bodyPost_ret (results_dec2 rfl _ _ _ _ _ _ _ rfl (Blk.new _ _ _)) rfl ?_
  exact ⟨rfl, (Below.refl _ _).alloc (Nat.le_refl _) _⟩

set_option maxRecDepth 100000 in
set_option maxHeartbeats 1000000 in
theorem parse_inf (w : World) : Calls Tryz.prog 18 #[.string ⟨#[105, 110, 102]⟩] w fun e w' => e = .returned (decErr (⟨1, false, [], 0⟩, 0)) ∧ Below w.heap.size w w' := by
  have Br0 := hide (Blk.newAt w (w.heap.size) (rfl) #[.int .i64 0, .bool false, .string ⟨#[]⟩, .int .i64 0] 23)
  have HB0 : Hid (Below w.heap.size w (w.alloc (.cells #[.int .i64 0, .bool false, .string ⟨#[]⟩, .int .i64 0] 23))) := ((Below.refl _ _).alloc (Nat.le_refl _) _)
  go_enter Tryz.func18, Tryz.ntmps18
  go_wp2
  refine bodyPost_ret (results_dec2 rfl _ _ _ _ _ _ _ rfl (Blk.new _ _ _)) rfl ?_
  exact ⟨rfl, (Below.refl _ _).alloc (Nat.le_refl _) _⟩

set_option maxRecDepth 100000 in
set_option maxHeartbeats 1000000 in
theorem parse_neg (w : World) : Calls Tryz.prog 18 #[.string ⟨#[45, 105, 110, 102]⟩] w fun e w' => e = .returned (decErr (⟨1, true, [], 0⟩, 0)) ∧ Below w.heap.size w w' := by
  have Br0 := hide (Blk.newAt w (w.heap.size) (rfl) #[.int .i64 0, .bool false, .string ⟨#[]⟩, .int .i64 0] 23)
  have HB0 : Hid (Below w.heap.size w (w.alloc (.cells #[.int .i64 0, .bool false, .string ⟨#[]⟩, .int .i64 0] 23))) := ((Below.refl _ _).alloc (Nat.le_refl _) _)
  go_enter Tryz.func18, Tryz.ntmps18
  go_wp2
  refine bodyPost_ret (results_dec2 rfl _ _ _ _ _ _ _ rfl (Blk.new _ _ _)) rfl ?_
  exact ⟨rfl, (Below.refl _ _).alloc (Nat.le_refl _) _⟩

set_option maxRecDepth 100000 in
set_option maxHeartbeats 1000000 in
theorem parse_none (s : ByteArray) (w : World) (hs : s.size ≤ 281474976710656) (h1 : bys s ≠ tNan) (h2 : bys s ≠ tInf) (h3 : bys s ≠ tNeg) (hp : parseT (bys s) = none) : Calls Tryz.prog 18 #[.string s] w fun e w' => e = .returned (decErr (⟨0, false, [], 0⟩, 50)) ∧ Below w.heap.size w w' := by
  have e1 := sl_ne h1
  have e2 := sl_ne h2
  have e3 := sl_ne h3
  unfold tNan at e1
  unfold tInf at e2
  unfold tNeg at e3
  have TK := hide (fun W => take_any s W hs)
  rw [hp] at TK
  unfold partsV numV at TK
  clear h1 h2 h3 hs hp
  have Br0 := hide (Blk.newAt w (w.heap.size) (rfl) #[.int .i64 0, .bool false, .string ⟨#[]⟩, .int .i64 0] 23)
  have HB0 : Hid (Below w.heap.size w (w.alloc (.cells #[.int .i64 0, .bool false, .string ⟨#[]⟩, .int .i64 0] 23))) := ((Below.refl _ _).alloc (Nat.le_refl _) _)
  go_enter Tryz.func18, Tryz.ntmps18
  go_wp2_with fail
  refine (TK.out _).mono ?_
  rintro e w1 ⟨rfl, hb⟩
  have Br1 := hide (Br0.out.below hb Br0.out.lt)
  have HB1 := hide (HB0.out.trans (hb.mono HB0.out.size))
  clear hb Br0 HB0 
  have yr0 : w1.cell? ⟨w.heap.size, 0, none⟩ = some (.int .i64 0) := Br1.out.cell 0
  have yr1 : w1.cell? ⟨w.heap.size, 1, none⟩ = some (.bool false) := Br1.out.cell 1
  have yr2 : w1.cell? ⟨w.heap.size, 2, none⟩ = some (.string ⟨#[]⟩) := Br1.out.cell 2
  have yr3 : w1.cell? ⟨w.heap.size, 3, none⟩ = some (.int .i64 0) := Br1.out.cell 3
  have Br2 := hide ((Br1.out.alloc (.cells #[.bool false, .string ⟨#[]⟩, .string ⟨#[]⟩, .int .i64 0] 43)))
  have Bn2 := hide ((Blk.newAt w1 (w1.heap.size) (rfl) #[.bool false, .string ⟨#[]⟩, .string ⟨#[]⟩, .int .i64 0] 43))
  have HB2 : Hid (Below w.heap.size w (w1.alloc (.cells #[.bool false, .string ⟨#[]⟩, .string ⟨#[]⟩, .int .i64 0] 43))) := (HB1.out.alloc HB1.out.size _)
  clear Br1 HB1 yr0 yr1 yr2 yr3
  have yr0 : (w1.alloc (.cells #[.bool false, .string ⟨#[]⟩, .string ⟨#[]⟩, .int .i64 0] 43)).cell? ⟨w.heap.size, 0, none⟩ = some (.int .i64 0) := Br2.out.cell 0
  have yr1 : (w1.alloc (.cells #[.bool false, .string ⟨#[]⟩, .string ⟨#[]⟩, .int .i64 0] 43)).cell? ⟨w.heap.size, 1, none⟩ = some (.bool false) := Br2.out.cell 1
  have yr2 : (w1.alloc (.cells #[.bool false, .string ⟨#[]⟩, .string ⟨#[]⟩, .int .i64 0] 43)).cell? ⟨w.heap.size, 2, none⟩ = some (.string ⟨#[]⟩) := Br2.out.cell 2
  have yr3 : (w1.alloc (.cells #[.bool false, .string ⟨#[]⟩, .string ⟨#[]⟩, .int .i64 0] 43)).cell? ⟨w.heap.size, 3, none⟩ = some (.int .i64 0) := Br2.out.cell 3
  have yn0 : (w1.alloc (.cells #[.bool false, .string ⟨#[]⟩, .string ⟨#[]⟩, .int .i64 0] 43)).cell? ⟨w1.heap.size, 0, none⟩ = some (.bool false) := Bn2.out.cell 0
  have yn1 : (w1.alloc (.cells #[.bool false, .string ⟨#[]⟩, .string ⟨#[]⟩, .int .i64 0] 43)).cell? ⟨w1.heap.size, 1, none⟩ = some (.string ⟨#[]⟩) := Bn2.out.cell 1
  have yn2 : (w1.alloc (.cells #[.bool false, .string ⟨#[]⟩, .string ⟨#[]⟩, .int .i64 0] 43)).cell? ⟨w1.heap.size, 2, none⟩ = some (.string ⟨#[]⟩) := Bn2.out.cell 2
  have yn3 : (w1.alloc (.cells #[.bool false, .string ⟨#[]⟩, .string ⟨#[]⟩, .int .i64 0] 43)).cell? ⟨w1.heap.size, 3, none⟩ = some (.int .i64 0) := Bn2.out.cell 3
  have fr0 := Br2.out.free 0
  have fr1 := Br2.out.free 1
  have fr2 := Br2.out.free 2
  have fr3 := Br2.out.free 3
  go_wp2
  refine bodyPost_ret (results_dec2 rfl _ _ _ _ _ _ _ rfl (Br2.out.put4 _ _ _ _)) rfl ?_
  exact ⟨rfl, below_put4 (HB2.out) (by omega) _ _ _ _⟩

set_option maxRecDepth 100000 in
set_option maxHeartbeats 1000000 in
theorem parse_some (s : ByteArray) (w : World) (p : Parts) (hs : s.size ≤ 140737488355328) (h1 : bys s ≠ tNan) (h2 : bys s ≠ tInf) (h3 : bys s ≠ tNeg) (hp : parseT (bys s) = some p) : Calls Tryz.prog 18 #[.string s] w fun e w' => e = .returned (decErr (tellF p.neg (decV (p.ahead ++ p.behind)) (p.pow - p.behind.length))) ∧ Below w.heap.size w w' := by
  have e1 := sl_ne h1
  have e2 := sl_ne h2
  have e3 := sl_ne h3
  unfold tNan at e1
  unfold tInf at e2
  unfold tNeg at e3
  obtain ⟨pa, pb, pc, pd, pe, pf⟩ := parts_ok hp
  rw [bys_len] at pc pd
  have TK := hide (fun W => take_any s W (by omega))
  rw [hp] at TK
  unfold partsV numV at TK
  obtain ⟨S, a, b, q⟩ := p
  simp only at pa pb pc pd pe pf TK ⊢
  obtain ⟨A, hA⟩ : ∃ A : ByteArray, A = ⟨a.toArray⟩ := ⟨_, rfl⟩
  obtain ⟨B, hB⟩ : ∃ B : ByteArray, B = ⟨b.toArray⟩ := ⟨_, rfl⟩
  rw [← hA, ← hB] at TK
  have hAs : A.size = a.length := by rw [hA, size_mk0]
  have hBs : B.size = b.length := by rw [hB, size_mk0]
  have hAB : bys (A ++ B) = a ++ b := by rw [bys_append, hA, hB, bys_mk, bys_mk]
  have FI := hide (fun W => fin_any S (A ++ B) (q - (B.size : Int)) W (by rw [ByteArray.size_append]; omega) (by omega) (by omega) (by rw [hAB]; exact pa.append pb))
  rw [hAB] at FI
  rw [← hBs]
  have hsum : A.size + B.size ≤ 9223372036854775807 := by omega
  have hsum2 : ¬ 9223372036854775807 < A.size + B.size := by omega
  have hl := tellF_len S (decV (a ++ b)) (q - (B.size : Int))
  rcases hT : tellF S (decV (a ++ b)) (q - (B.size : Int)) with ⟨⟨c, n, l, e⟩, er⟩
  rw [hT] at FI hl
  unfold decErr decVal at FI ⊢
  simp only at FI hl ⊢
  obtain ⟨D, hD⟩ : ∃ D : ByteArray, D = ⟨l.toArray⟩ := ⟨_, rfl⟩
  rw [← hD] at FI ⊢
  have CL := hide (fun W => clone_any D W (by rw [hD, size_mk0]; omega))
  have hq1 : -9000000000000000000 ≤ q - (B.size : Int) := by omega
  have hq2 : q - (B.size : Int) ≤ 9000000000000000000 := by omega
  clear h1 h2 h3 hs hp hA hB hAB hT hl hD pa pb hAs hBs pc pd
  have Br0 := hide (Blk.newAt w (w.heap.size) (rfl) #[.int .i64 0, .bool false, .string ⟨#[]⟩, .int .i64 0] 23)
  have HB0 : Hid (Below w.heap.size w (w.alloc (.cells #[.int .i64 0, .bool false, .string ⟨#[]⟩, .int .i64 0] 23))) := ((Below.refl _ _).alloc (Nat.le_refl _) _)
  go_enter Tryz.func18, Tryz.ntmps18
  go_wp2_with fail
  refine (TK.out _).mono ?_
  rintro e w1 ⟨rfl, hb⟩
  have Br1 := hide (Br0.out.below hb Br0.out.lt)
  have HB1 := hide (HB0.out.trans (hb.mono HB0.out.size))
  clear hb Br0 HB0 
  have yr0 : w1.cell? ⟨w.heap.size, 0, none⟩ = some (.int .i64 0) := Br1.out.cell 0
  have yr1 : w1.cell? ⟨w.heap.size, 1, none⟩ = some (.bool false) := Br1.out.cell 1
  have yr2 : w1.cell? ⟨w.heap.size, 2, none⟩ = some (.string ⟨#[]⟩) := Br1.out.cell 2
  have yr3 : w1.cell? ⟨w.heap.size, 3, none⟩ = some (.int .i64 0) := Br1.out.cell 3
  have Br2 := hide ((Br1.out.alloc (.cells #[.bool S, .string A, .string B, .int .i64 q] 43)))
  have Bn2 := hide ((Blk.newAt w1 (w1.heap.size) (rfl) #[.bool S, .string A, .string B, .int .i64 q] 43))
  have HB2 : Hid (Below w.heap.size w (w1.alloc (.cells #[.bool S, .string A, .string B, .int .i64 q] 43))) := (HB1.out.alloc HB1.out.size _)
  clear Br1 HB1 yr0 yr1 yr2 yr3
  have yr0 : (w1.alloc (.cells #[.bool S, .string A, .string B, .int .i64 q] 43)).cell? ⟨w.heap.size, 0, none⟩ = some (.int .i64 0) := Br2.out.cell 0
  have yr1 : (w1.alloc (.cells #[.bool S, .string A, .string B, .int .i64 q] 43)).cell? ⟨w.heap.size, 1, none⟩ = some (.bool false) := Br2.out.cell 1
  have yr2 : (w1.alloc (.cells #[.bool S, .string A, .string B, .int .i64 q] 43)).cell? ⟨w.heap.size, 2, none⟩ = some (.string ⟨#[]⟩) := Br2.out.cell 2
  have yr3 : (w1.alloc (.cells #[.bool S, .string A, .string B, .int .i64 q] 43)).cell? ⟨w.heap.size, 3, none⟩ = some (.int .i64 0) := Br2.out.cell 3
  have yn0 : (w1.alloc (.cells #[.bool S, .string A, .string B, .int .i64 q] 43)).cell? ⟨w1.heap.size, 0, none⟩ = some (.bool S) := Bn2.out.cell 0
  have yn1 : (w1.alloc (.cells #[.bool S, .string A, .string B, .int .i64 q] 43)).cell? ⟨w1.heap.size, 1, none⟩ = some (.string A) := Bn2.out.cell 1
  have yn2 : (w1.alloc (.cells #[.bool S, .string A, .string B, .int .i64 q] 43)).cell? ⟨w1.heap.size, 2, none⟩ = some (.string B) := Bn2.out.cell 2
  have yn3 : (w1.alloc (.cells #[.bool S, .string A, .string B, .int .i64 q] 43)).cell? ⟨w1.heap.size, 3, none⟩ = some (.int .i64 q) := Bn2.out.cell 3
  go_wp2_with fail
  refine (FI.out _).mono ?_
  rintro e w3 ⟨rfl, hb⟩
  have Br3 := hide (Br2.out.below hb Br2.out.lt)
  have Bn3 := hide (Bn2.out.below hb Bn2.out.lt)
  have HB3 := hide (HB2.out.trans (hb.mono HB2.out.size))
  clear hb Br2 Bn2 HB2 yr0 yr1 yr2 yr3 yn0 yn1 yn2 yn3
  have hlt := Br3.out.lt
  have yr0 : w3.cell? ⟨w.heap.size, 0, none⟩ = some (.int .i64 0) := Br3.out.cell 0
  have yr1 : w3.cell? ⟨w.heap.size, 1, none⟩ = some (.bool false) := Br3.out.cell 1
  have yr2 : w3.cell? ⟨w.heap.size, 2, none⟩ = some (.string ⟨#[]⟩) := Br3.out.cell 2
  have yr3 : w3.cell? ⟨w.heap.size, 3, none⟩ = some (.int .i64 0) := Br3.out.cell 3
  have yn0 : w3.cell? ⟨w1.heap.size, 0, none⟩ = some (.bool S) := Bn3.out.cell 0
  have yn1 : w3.cell? ⟨w1.heap.size, 1, none⟩ = some (.string A) := Bn3.out.cell 1
  have yn2 : w3.cell? ⟨w1.heap.size, 2, none⟩ = some (.string B) := Bn3.out.cell 2
  have yn3 : w3.cell? ⟨w1.heap.size, 3, none⟩ = some (.int .i64 q) := Bn3.out.cell 3
  go_wp2_with fail
  refine (CL.out _).mono ?_
  rintro e w4 ⟨rfl, hb⟩
  have Br4 := hide ((Br3.out.alloc (.cells #[.int .i64 (c : Int), .bool n, .string D, .int .i64 e] 23)).below hb (Br3.out.alloc (.cells #[.int .i64 (c : Int), .bool n, .string D, .int .i64 e] 23)).lt)
  have Bn4 := hide ((Bn3.out.alloc (.cells #[.int .i64 (c : Int), .bool n, .string D, .int .i64 e] 23)).below hb (Bn3.out.alloc (.cells #[.int .i64 (c : Int), .bool n, .string D, .int .i64 e] 23)).lt)
  have Bd4 := hide ((Blk.newAt w3 (w3.heap.size) (rfl) #[.int .i64 (c : Int), .bool n, .string D, .int .i64 e] 23).below hb (Blk.newAt w3 (w3.heap.size) (rfl) #[.int .i64 (c : Int), .bool n, .string D, .int .i64 e] 23).lt)
  have HB4 := hide ((HB3.out.alloc HB3.out.size _).trans (hb.mono (HB3.out.alloc HB3.out.size _).size))
  clear hb Br3 Bn3 HB3 yr0 yr1 yr2 yr3 yn0 yn1 yn2 yn3
  have hn1 : ¬ w3.heap.size = w.heap.size := by omega
  have hn2 : ¬ w.heap.size = w3.heap.size := by omega
  have hge : w.heap.size ≤ w3.heap.size := by omega
  clear hlt
  have fd2 := Bd4.out.free 2
  have yr0 : w4.cell? ⟨w.heap.size, 0, none⟩ = some (.int .i64 0) := Br4.out.cell 0
  have yr1 : w4.cell? ⟨w.heap.size, 1, none⟩ = some (.bool false) := Br4.out.cell 1
  have yr2 : w4.cell? ⟨w.heap.size, 2, none⟩ = some (.string ⟨#[]⟩) := Br4.out.cell 2
  have yr3 : w4.cell? ⟨w.heap.size, 3, none⟩ = some (.int .i64 0) := Br4.out.cell 3
  have yn0 : w4.cell? ⟨w1.heap.size, 0, none⟩ = some (.bool S) := Bn4.out.cell 0
  have yn1 : w4.cell? ⟨w1.heap.size, 1, none⟩ = some (.string A) := Bn4.out.cell 1
  have yn2 : w4.cell? ⟨w1.heap.size, 2, none⟩ = some (.string B) := Bn4.out.cell 2
  have yn3 : w4.cell? ⟨w1.heap.size, 3, none⟩ = some (.int .i64 q) := Bn4.out.cell 3
  have yd0 : w4.cell? ⟨w3.heap.size, 0, none⟩ = some (.int .i64 (c : Int)) := Bd4.out.cell 0
  have yd1 : w4.cell? ⟨w3.heap.size, 1, none⟩ = some (.bool n) := Bd4.out.cell 1
  have yd2 : w4.cell? ⟨w3.heap.size, 2, none⟩ = some (.string D) := Bd4.out.cell 2
  have yd3 : w4.cell? ⟨w3.heap.size, 3, none⟩ = some (.int .i64 e) := Bd4.out.cell 3
  have fr0 := Br4.out.free 0
  have fr1 := Br4.out.free 1
  have fr2 := Br4.out.free 2
  have fr3 := Br4.out.free 3
  go_wp2
  refine bodyPost_ret (results_dec2 rfl _ _ _ _ _ _ _ rfl ((Br4.out.other (by simpa using hn1) _).put4 _ _ _ _)) rfl ?_
  exact ⟨rfl, below_put4 (HB4.out.setCell hge _) (by omega) _ _ _ _⟩

theorem Parse_any (s : ByteArray) (w : World) (hs : s.size ≤ 140737488355328) : Calls Tryz.prog 18 #[.string s] w fun e w' => e = .returned (decErr (parseD (bys s))) ∧ Below w.heap.size w w' := by
  unfold parseD
  by_cases h1 : bys s = tNan
  · rw [if_pos h1, ← mk_bys s, h1]; exact parse_nan w
  · rw [if_neg h1]
    by_cases h2 : bys s = tInf
    · rw [if_pos h2, ← mk_bys s, h2]; exact parse_inf w
    · rw [if_neg h2]
      by_cases h3 : bys s = tNeg
      · rw [if_pos h3, ← mk_bys s, h3]; exact parse_neg w
      · rw [if_neg h3]
        rcases hp : parseT (bys s) with _ | p
        · exact parse_none s w (by omega) h1 h2 h3 hp
        · exact parse_some s w p hs h1 h2 h3 hp

end Go.Proofs.YtafljhfamjabeaaGreatDoor

namespace Go.Proofs.YtafljhfamjabeaaGreatDoor
open Go.RowKit

theorem digB_of {l : List UInt8} (h : l.all isDg = true) : DigB l := by
  have := (dgs_all_of h)
  rw [← this]; exact dgs_digB l
where
  dgs_all_of : ∀ {l : List UInt8}, l.all isDg = true → dgs l = l
    | [], _ => rfl
    | b :: t, h => by
      simp only [List.all_cons, Bool.and_eq_true] at h
      unfold dgs
      rw [List.takeWhile_cons_of_pos h.1]
      congr 1
      exact dgs_all_of h.2

theorem tell_of {neg : Bool} {l : List UInt8} {e : Int} {N : Nat} {d : DecT} (hd : DigB l) (hN : N = decV l) (h : ofD neg l e = d) (hm : May d) : tellF neg N e = (d, 0) := by
  have e1 : finD neg N e = d := by rw [hN, ← ofD_fin neg l e hd]; exact h
  rw [tellF_yes (by rw [e1]; exact hm), e1]
theorem tell_not {neg : Bool} {l : List UInt8} {e : Int} {N : Nat} {d : DecT} (hd : DigB l) (hN : N = decV l) (h : ofD neg l e = d) (hm : ¬ May d) : tellF neg N e = (⟨0, false, [], 0⟩, 51) := by
  have e1 : finD neg N e = d := by rw [hN, ← ofD_fin neg l e hd]; exact h
  exact tellF_no (by rw [e1]; exact hm)

def dA : DecT := ⟨0, false, [49, 53], -1⟩
def dX : DecT := ⟨0, false, [51], 0⟩
def dY : DecT := ⟨0, false, [50, 50, 53], -2⟩

theorem finA : Fin dA := ⟨rfl, by decide, by decide, by decide, by decide, by decide, by decide, digB_of rfl⟩
theorem finX : Fin dX := ⟨rfl, by decide, by decide, by decide, by decide, by decide, by decide, digB_of rfl⟩
theorem finY : Fin dY := ⟨rfl, by decide, by decide, by decide, by decide, by decide, by decide, digB_of rfl⟩

theorem aw1 : parseD [49, 46, 53, 48] = (dA, 0) := by
  have h : parseT [49, 46, 53, 48] = some ⟨false, [49], [53, 48], 0⟩ := by rfl
  unfold parseD
  rw [if_neg (by decide), if_neg (by decide), if_neg (by decide), h]
  exact tell_of (l := [49, 53, 48]) (digB_of rfl) rfl rfl finA.may

theorem aw3 : parseD [] = (⟨0, false, [], 0⟩, 50) := by
  have h : parseT [] = none := by rfl
  unfold parseD
  rw [if_neg (by decide), if_neg (by decide), if_neg (by decide), h]
  rfl

theorem aw4 : parseD [49, 101, 50, 48, 48, 48] = (⟨0, false, [], 0⟩, 51) := by
  have h : parseT [49, 101, 50, 48, 48, 48] = some ⟨false, [49], [], 2000⟩ := by rfl
  unfold parseD
  rw [if_neg (by decide), if_neg (by decide), if_neg (by decide), h]
  refine tell_not (l := [49]) (d := ⟨0, false, [49], 2000⟩) (digB_of rfl) rfl rfl ?_
  rintro (⟨_, ⟨h1, _⟩ | ⟨_, _, _, h1, _⟩⟩ | ⟨h1, _⟩ | ⟨h1, _⟩)
  · cases h1
  · exact absurd h1 (by decide)
  · exact absurd h1 (by decide)
  · exact absurd h1 (by decide)

theorem itoa_m1 : Lib.itoa (-1) = [45, 49] := by
  unfold Lib.itoa
  rw [if_pos (by decide), show (-1 : Int).natAbs = 1 from rfl, Lib.decDigits_one (by decide)]
  rfl
theorem aw2 : printT dA = [49, 53, 101, 45, 49] := by
  show [49, 53] ++ [101] ++ Lib.itoa (-1) = _
  rw [itoa_m1]; rfl

theorem aw6 : sumT dA dA = (dX, 0) := by
  unfold sumT
  rw [if_pos ⟨rfl, rfl⟩]
  exact tell_of (l := [51, 48]) (digB_of rfl) rfl rfl finX.may
theorem aw7 : prodT dA dA = (dY, 0) := by
  unfold prodT
  rw [if_pos ⟨rfl, rfl⟩]
  exact tell_of (l := [50, 50, 53]) (digB_of rfl) rfl rfl finY.may

theorem aw9 : cmpI (wD dA) (wD dX) = -1 := by
  rw [← rank_or]
  rfl
where
  rank_or : amtI dA dX = cmpI (wD dA) (wD dX) := by
    have := same_cmp finA.may finX.may rfl
    exact this

theorem bysmk (a : Array UInt8) : bys ⟨a⟩ = a.toList := rfl

theorem aPars1 (w : World) : Calls Tryz.prog 18 #[.string ⟨#[49, 46, 53, 48]⟩] w fun e w' => e = .returned (.tuple #[.agg #[.int .i64 0, .bool false, .string ⟨#[49, 53]⟩, .int .i64 (-1)], .int .i64 0]) ∧ Below w.heap.size w w' := by
  have h := Parse_any ⟨#[49, 46, 53, 48]⟩ w (by decide)
  rw [bysmk, aw1] at h
  exact h
theorem aPars3 (w : World) : Calls Tryz.prog 18 #[.string ⟨#[]⟩] w fun e w' => e = .returned (.tuple #[.agg #[.int .i64 0, .bool false, .string ⟨#[]⟩, .int .i64 0], .int .i64 50]) ∧ Below w.heap.size w w' := by
  have h := Parse_any ⟨#[]⟩ w (by decide)
  rw [bysmk, aw3] at h
  exact h
theorem aPars4 (w : World) : Calls Tryz.prog 18 #[.string ⟨#[49, 101, 50, 48, 48, 48]⟩] w fun e w' => e = .returned (.tuple #[.agg #[.int .i64 0, .bool false, .string ⟨#[]⟩, .int .i64 0], .int .i64 51]) ∧ Below w.heap.size w w' := by
  have h := Parse_any ⟨#[49, 101, 50, 48, 48, 48]⟩ w (by decide)
  rw [bysmk, aw4] at h
  exact h
abbrev vA : Value := .agg #[.int .i64 0, .bool false, .string ⟨#[49, 53]⟩, .int .i64 (-1)]
theorem aPrint (w : World) (h : Tab w) : Calls Tryz.prog 20 #[vA] w fun e w' => e = .returned (.tuple #[.string ⟨#[49, 53, 101, 45, 49]⟩, .int .i64 0]) ∧ Below w.heap.size w w' := by
  have h := Print_d dA w finA.may h
  rw [aw2] at h
  exact h
theorem aPrint5 (w : World) : Calls Tryz.prog 20 #[.agg #[.int .i64 0, .bool false, .string ⟨#[]⟩, .int .i64 1]] w fun e w' => e = .returned (.tuple #[.string ⟨#[]⟩, .int .i64 52]) ∧ Below w.heap.size w w' :=
  Print_no 0 false ⟨#[]⟩ 1 w (by
    rintro (⟨_, ⟨_, h1⟩ | ⟨h1, _⟩⟩ | ⟨h1, _⟩ | ⟨h1, _⟩)
    · cases h1
    · exact h1 rfl
    · cases h1
    · cases h1)
theorem aAdd (w : World) (h : Tab w) : Calls Tryz.prog 28 #[vA, vA] w fun e w' => e = .returned (.tuple #[.agg #[.int .i64 0, .bool false, .string ⟨#[51]⟩, .int .i64 0], .int .i64 0]) ∧ Below w.heap.size w w' := by
  have h := Add_d dA dA finA.may finA.may w h
  rw [aw6] at h
  exact h
theorem aMul (w : World) (h : Tab w) : Calls Tryz.prog 30 #[vA, vA] w fun e w' => e = .returned (.tuple #[.agg #[.int .i64 0, .bool false, .string ⟨#[50, 50, 53]⟩, .int .i64 (-2)], .int .i64 0]) ∧ Below w.heap.size w w' := by
  have h := Mul_d dA dA finA.may finA.may w h
  rw [aw7] at h
  exact h
theorem aScale (w : World) : Calls Tryz.prog 26 #[vA, .int .i64 3] w fun e w' => e = .returned (.tuple #[.agg #[.int .i64 0, .bool false, .string ⟨#[49, 53]⟩, .int .i64 2], .int .i64 0]) ∧ Below w.heap.size w w' :=
  Scale_in 0 false ⟨#[49, 53]⟩ (-1) 3 w finA.may (by decide) (by decide) (by decide)
theorem aCmp (w : World) : Calls Tryz.prog 22 #[vA, .agg #[.int .i64 0, .bool false, .string ⟨#[51]⟩, .int .i64 0]] w fun e w' => e = .returned (.tuple #[.int .i64 (-1), .int .i64 0]) ∧ Below w.heap.size w w' := by
  have h := Cmp_d dA dX w finA.may finX.may
  rw [aw9] at h
  exact h
theorem aNeg (w : World) : Calls Tryz.prog 24 #[vA] w fun e w' => e = .returned (.tuple #[.agg #[.int .i64 0, .bool true, .string ⟨#[49, 53]⟩, .int .i64 (-1)], .int .i64 0]) ∧ Below w.heap.size w w' :=
  Neg_yes 0 false ⟨#[49, 53]⟩ (-1) w finA.may (by decide)
theorem aMay (w : World) : Calls Tryz.prog 14 #[vA] w fun e w' => e = .returned (.bool true) ∧ Below w.heap.size w w' := dmay_yes 0 false ⟨#[49, 53]⟩ (-1) w finA.may
theorem aPlace (w : World) : Calls Tryz.prog 16 #[vA] w fun e w' => e = .returned (.int .i64 1) ∧ Below w.heap.size w w' := Place_yes 0 false ⟨#[49, 53]⟩ (-1) w finA.may

set_option maxRecDepth 100000 in
set_option maxHeartbeats 4000000 in
theorem dawake_any (w : World) (htab : Tab w) : Calls Tryz.prog 13 #[] w fun e w' => e = .returned (.bool true) ∧ Below w.heap.size w w' := by
  have HT := hide htab
  clear htab
  have HB0 : Hid (Below w.heap.size w w) := Below.refl _ _
  go_enter Tryz.func13, Tryz.ntmps13
  go_wp2_with fail
  refine (aPars1 _).mono ?_
  rintro e w1 ⟨rfl, hb⟩
  have HB1 := hide (HB0.out.trans (hb.mono HB0.out.size))
  clear hb  HB0 
  go_wp2_with fail
  refine (aPrint _ ((HT.out.below HB1.out).alloc _)).mono ?_
  rintro e w2 ⟨rfl, hb⟩
  have Bd2 := hide ((Blk.newAt w1 (w1.heap.size) (rfl) #[.int .i64 0, .bool false, .string ⟨#[49, 53]⟩, .int .i64 (-1)] 23).below hb (Blk.newAt w1 (w1.heap.size) (rfl) #[.int .i64 0, .bool false, .string ⟨#[49, 53]⟩, .int .i64 (-1)] 23).lt)
  have HB2 := hide ((HB1.out.alloc HB1.out.size _).trans (hb.mono (HB1.out.alloc HB1.out.size _).size))
  clear hb  HB1 
  have yd0 : w2.cell? ⟨w1.heap.size, 0, none⟩ = some (.int .i64 0) := Bd2.out.cell 0
  have yd1 : w2.cell? ⟨w1.heap.size, 1, none⟩ = some (.bool false) := Bd2.out.cell 1
  have yd2 : w2.cell? ⟨w1.heap.size, 2, none⟩ = some (.string ⟨#[49, 53]⟩) := Bd2.out.cell 2
  have yd3 : w2.cell? ⟨w1.heap.size, 3, none⟩ = some (.int .i64 (-1)) := Bd2.out.cell 3
  go_wp2_with fail
  refine (aPars3 _).mono ?_
  rintro e w3 ⟨rfl, hb⟩
  have Bd3 := hide (Bd2.out.below hb Bd2.out.lt)
  have HB3 := hide (HB2.out.trans (hb.mono HB2.out.size))
  clear hb Bd2 HB2 yd0 yd1 yd2 yd3
  have yd0 : w3.cell? ⟨w1.heap.size, 0, none⟩ = some (.int .i64 0) := Bd3.out.cell 0
  have yd1 : w3.cell? ⟨w1.heap.size, 1, none⟩ = some (.bool false) := Bd3.out.cell 1
  have yd2 : w3.cell? ⟨w1.heap.size, 2, none⟩ = some (.string ⟨#[49, 53]⟩) := Bd3.out.cell 2
  have yd3 : w3.cell? ⟨w1.heap.size, 3, none⟩ = some (.int .i64 (-1)) := Bd3.out.cell 3
  go_wp2_with fail
  refine (aPars4 _).mono ?_
  rintro e w4 ⟨rfl, hb⟩
  have Bd4 := hide ((Bd3.out.alloc (.cells #[.int .i64 0, .bool false, .string ⟨#[]⟩, .int .i64 0] 23)).below hb (Bd3.out.alloc (.cells #[.int .i64 0, .bool false, .string ⟨#[]⟩, .int .i64 0] 23)).lt)
  have Bu4 := hide ((Blk.newAt w3 (w3.heap.size) (rfl) #[.int .i64 0, .bool false, .string ⟨#[]⟩, .int .i64 0] 23).below hb (Blk.newAt w3 (w3.heap.size) (rfl) #[.int .i64 0, .bool false, .string ⟨#[]⟩, .int .i64 0] 23).lt)
  have HB4 := hide ((HB3.out.alloc HB3.out.size _).trans (hb.mono (HB3.out.alloc HB3.out.size _).size))
  clear hb Bd3 HB3 yd0 yd1 yd2 yd3
  have yd0 : w4.cell? ⟨w1.heap.size, 0, none⟩ = some (.int .i64 0) := Bd4.out.cell 0
  have yd1 : w4.cell? ⟨w1.heap.size, 1, none⟩ = some (.bool false) := Bd4.out.cell 1
  have yd2 : w4.cell? ⟨w1.heap.size, 2, none⟩ = some (.string ⟨#[49, 53]⟩) := Bd4.out.cell 2
  have yd3 : w4.cell? ⟨w1.heap.size, 3, none⟩ = some (.int .i64 (-1)) := Bd4.out.cell 3
  have yu0 : w4.cell? ⟨w3.heap.size, 0, none⟩ = some (.int .i64 0) := Bu4.out.cell 0
  have yu1 : w4.cell? ⟨w3.heap.size, 1, none⟩ = some (.bool false) := Bu4.out.cell 1
  have yu2 : w4.cell? ⟨w3.heap.size, 2, none⟩ = some (.string ⟨#[]⟩) := Bu4.out.cell 2
  have yu3 : w4.cell? ⟨w3.heap.size, 3, none⟩ = some (.int .i64 0) := Bu4.out.cell 3
  go_wp2_with fail
  refine (aPrint5 _).mono ?_
  rintro e w5 ⟨rfl, hb⟩
  have Bd5 := hide ((Bd4.out.alloc (.cells #[.int .i64 0, .bool false, .string ⟨#[]⟩, .int .i64 0] 23)).below hb (Bd4.out.alloc (.cells #[.int .i64 0, .bool false, .string ⟨#[]⟩, .int .i64 0] 23)).lt)
  have Bu5 := hide ((Bu4.out.alloc (.cells #[.int .i64 0, .bool false, .string ⟨#[]⟩, .int .i64 0] 23)).below hb (Bu4.out.alloc (.cells #[.int .i64 0, .bool false, .string ⟨#[]⟩, .int .i64 0] 23)).lt)
  have Bv5 := hide ((Blk.newAt w4 (w4.heap.size) (rfl) #[.int .i64 0, .bool false, .string ⟨#[]⟩, .int .i64 0] 23).below hb (Blk.newAt w4 (w4.heap.size) (rfl) #[.int .i64 0, .bool false, .string ⟨#[]⟩, .int .i64 0] 23).lt)
  have HB5 := hide ((HB4.out.alloc HB4.out.size _).trans (hb.mono (HB4.out.alloc HB4.out.size _).size))
  clear hb Bd4 Bu4 HB4 yd0 yd1 yd2 yd3 yu0 yu1 yu2 yu3
  have yd0 : w5.cell? ⟨w1.heap.size, 0, none⟩ = some (.int .i64 0) := Bd5.out.cell 0
  have yd1 : w5.cell? ⟨w1.heap.size, 1, none⟩ = some (.bool false) := Bd5.out.cell 1
  have yd2 : w5.cell? ⟨w1.heap.size, 2, none⟩ = some (.string ⟨#[49, 53]⟩) := Bd5.out.cell 2
  have yd3 : w5.cell? ⟨w1.heap.size, 3, none⟩ = some (.int .i64 (-1)) := Bd5.out.cell 3
  have yu0 : w5.cell? ⟨w3.heap.size, 0, none⟩ = some (.int .i64 0) := Bu5.out.cell 0
  have yu1 : w5.cell? ⟨w3.heap.size, 1, none⟩ = some (.bool false) := Bu5.out.cell 1
  have yu2 : w5.cell? ⟨w3.heap.size, 2, none⟩ = some (.string ⟨#[]⟩) := Bu5.out.cell 2
  have yu3 : w5.cell? ⟨w3.heap.size, 3, none⟩ = some (.int .i64 0) := Bu5.out.cell 3
  have yv0 : w5.cell? ⟨w4.heap.size, 0, none⟩ = some (.int .i64 0) := Bv5.out.cell 0
  have yv1 : w5.cell? ⟨w4.heap.size, 1, none⟩ = some (.bool false) := Bv5.out.cell 1
  have yv2 : w5.cell? ⟨w4.heap.size, 2, none⟩ = some (.string ⟨#[]⟩) := Bv5.out.cell 2
  have yv3 : w5.cell? ⟨w4.heap.size, 3, none⟩ = some (.int .i64 0) := Bv5.out.cell 3
  go_wp2_with fail
  refine (aAdd _ (HT.out.below HB5.out)).mono ?_
  rintro e w6 ⟨rfl, hb⟩
  have Bd6 := hide (Bd5.out.below hb Bd5.out.lt)
  have Bu6 := hide (Bu5.out.below hb Bu5.out.lt)
  have Bv6 := hide (Bv5.out.below hb Bv5.out.lt)
  have HB6 := hide (HB5.out.trans (hb.mono HB5.out.size))
  clear hb Bd5 Bu5 Bv5 HB5 yd0 yd1 yd2 yd3 yu0 yu1 yu2 yu3 yv0 yv1 yv2 yv3
  have yd0 : w6.cell? ⟨w1.heap.size, 0, none⟩ = some (.int .i64 0) := Bd6.out.cell 0
  have yd1 : w6.cell? ⟨w1.heap.size, 1, none⟩ = some (.bool false) := Bd6.out.cell 1
  have yd2 : w6.cell? ⟨w1.heap.size, 2, none⟩ = some (.string ⟨#[49, 53]⟩) := Bd6.out.cell 2
  have yd3 : w6.cell? ⟨w1.heap.size, 3, none⟩ = some (.int .i64 (-1)) := Bd6.out.cell 3
  have yu0 : w6.cell? ⟨w3.heap.size, 0, none⟩ = some (.int .i64 0) := Bu6.out.cell 0
  have yu1 : w6.cell? ⟨w3.heap.size, 1, none⟩ = some (.bool false) := Bu6.out.cell 1
  have yu2 : w6.cell? ⟨w3.heap.size, 2, none⟩ = some (.string ⟨#[]⟩) := Bu6.out.cell 2
  have yu3 : w6.cell? ⟨w3.heap.size, 3, none⟩ = some (.int .i64 0) := Bu6.out.cell 3
  have yv0 : w6.cell? ⟨w4.heap.size, 0, none⟩ = some (.int .i64 0) := Bv6.out.cell 0
  have yv1 : w6.cell? ⟨w4.heap.size, 1, none⟩ = some (.bool false) := Bv6.out.cell 1
  have yv2 : w6.cell? ⟨w4.heap.size, 2, none⟩ = some (.string ⟨#[]⟩) := Bv6.out.cell 2
  have yv3 : w6.cell? ⟨w4.heap.size, 3, none⟩ = some (.int .i64 0) := Bv6.out.cell 3
  have Bd7 := hide ((Bd6.out.alloc (.cells #[.int .i64 0, .bool false, .string ⟨#[51]⟩, .int .i64 0] 23)))
  have Bu7 := hide ((Bu6.out.alloc (.cells #[.int .i64 0, .bool false, .string ⟨#[51]⟩, .int .i64 0] 23)))
  have Bv7 := hide ((Bv6.out.alloc (.cells #[.int .i64 0, .bool false, .string ⟨#[51]⟩, .int .i64 0] 23)))
  have Bx7 := hide ((Blk.newAt w6 (w6.heap.size) (rfl) #[.int .i64 0, .bool false, .string ⟨#[51]⟩, .int .i64 0] 23))
  have HB7 : Hid (Below w.heap.size w (w6.alloc (.cells #[.int .i64 0, .bool false, .string ⟨#[51]⟩, .int .i64 0] 23))) := (HB6.out.alloc HB6.out.size _)
  clear Bd6 Bu6 Bv6 HB6 yd0 yd1 yd2 yd3 yu0 yu1 yu2 yu3 yv0 yv1 yv2 yv3
  have yd0 : (w6.alloc (.cells #[.int .i64 0, .bool false, .string ⟨#[51]⟩, .int .i64 0] 23)).cell? ⟨w1.heap.size, 0, none⟩ = some (.int .i64 0) := Bd7.out.cell 0
  have yd1 : (w6.alloc (.cells #[.int .i64 0, .bool false, .string ⟨#[51]⟩, .int .i64 0] 23)).cell? ⟨w1.heap.size, 1, none⟩ = some (.bool false) := Bd7.out.cell 1
  have yd2 : (w6.alloc (.cells #[.int .i64 0, .bool false, .string ⟨#[51]⟩, .int .i64 0] 23)).cell? ⟨w1.heap.size, 2, none⟩ = some (.string ⟨#[49, 53]⟩) := Bd7.out.cell 2
  have yd3 : (w6.alloc (.cells #[.int .i64 0, .bool false, .string ⟨#[51]⟩, .int .i64 0] 23)).cell? ⟨w1.heap.size, 3, none⟩ = some (.int .i64 (-1)) := Bd7.out.cell 3
  have yu0 : (w6.alloc (.cells #[.int .i64 0, .bool false, .string ⟨#[51]⟩, .int .i64 0] 23)).cell? ⟨w3.heap.size, 0, none⟩ = some (.int .i64 0) := Bu7.out.cell 0
  have yu1 : (w6.alloc (.cells #[.int .i64 0, .bool false, .string ⟨#[51]⟩, .int .i64 0] 23)).cell? ⟨w3.heap.size, 1, none⟩ = some (.bool false) := Bu7.out.cell 1
  have yu2 : (w6.alloc (.cells #[.int .i64 0, .bool false, .string ⟨#[51]⟩, .int .i64 0] 23)).cell? ⟨w3.heap.size, 2, none⟩ = some (.string ⟨#[]⟩) := Bu7.out.cell 2
  have yu3 : (w6.alloc (.cells #[.int .i64 0, .bool false, .string ⟨#[51]⟩, .int .i64 0] 23)).cell? ⟨w3.heap.size, 3, none⟩ = some (.int .i64 0) := Bu7.out.cell 3
  have yv0 : (w6.alloc (.cells #[.int .i64 0, .bool false, .string ⟨#[51]⟩, .int .i64 0] 23)).cell? ⟨w4.heap.size, 0, none⟩ = some (.int .i64 0) := Bv7.out.cell 0
  have yv1 : (w6.alloc (.cells #[.int .i64 0, .bool false, .string ⟨#[51]⟩, .int .i64 0] 23)).cell? ⟨w4.heap.size, 1, none⟩ = some (.bool false) := Bv7.out.cell 1
  have yv2 : (w6.alloc (.cells #[.int .i64 0, .bool false, .string ⟨#[51]⟩, .int .i64 0] 23)).cell? ⟨w4.heap.size, 2, none⟩ = some (.string ⟨#[]⟩) := Bv7.out.cell 2
  have yv3 : (w6.alloc (.cells #[.int .i64 0, .bool false, .string ⟨#[51]⟩, .int .i64 0] 23)).cell? ⟨w4.heap.size, 3, none⟩ = some (.int .i64 0) := Bv7.out.cell 3
  have yx0 : (w6.alloc (.cells #[.int .i64 0, .bool false, .string ⟨#[51]⟩, .int .i64 0] 23)).cell? ⟨w6.heap.size, 0, none⟩ = some (.int .i64 0) := Bx7.out.cell 0
  have yx1 : (w6.alloc (.cells #[.int .i64 0, .bool false, .string ⟨#[51]⟩, .int .i64 0] 23)).cell? ⟨w6.heap.size, 1, none⟩ = some (.bool false) := Bx7.out.cell 1
  have yx2 : (w6.alloc (.cells #[.int .i64 0, .bool false, .string ⟨#[51]⟩, .int .i64 0] 23)).cell? ⟨w6.heap.size, 2, none⟩ = some (.string ⟨#[51]⟩) := Bx7.out.cell 2
  have yx3 : (w6.alloc (.cells #[.int .i64 0, .bool false, .string ⟨#[51]⟩, .int .i64 0] 23)).cell? ⟨w6.heap.size, 3, none⟩ = some (.int .i64 0) := Bx7.out.cell 3
  go_wp2_with fail
  refine (aMul _ (HT.out.below HB7.out)).mono ?_
  rintro e w8 ⟨rfl, hb⟩
  have Bd8 := hide (Bd7.out.below hb Bd7.out.lt)
  have Bu8 := hide (Bu7.out.below hb Bu7.out.lt)
  have Bv8 := hide (Bv7.out.below hb Bv7.out.lt)
  have Bx8 := hide (Bx7.out.below hb Bx7.out.lt)
  have HB8 := hide (HB7.out.trans (hb.mono HB7.out.size))
  clear hb Bd7 Bu7 Bv7 Bx7 HB7 yd0 yd1 yd2 yd3 yu0 yu1 yu2 yu3 yv0 yv1 yv2 yv3 yx0 yx1 yx2 yx3
  have yd0 : w8.cell? ⟨w1.heap.size, 0, none⟩ = some (.int .i64 0) := Bd8.out.cell 0
  have yd1 : w8.cell? ⟨w1.heap.size, 1, none⟩ = some (.bool false) := Bd8.out.cell 1
  have yd2 : w8.cell? ⟨w1.heap.size, 2, none⟩ = some (.string ⟨#[49, 53]⟩) := Bd8.out.cell 2
  have yd3 : w8.cell? ⟨w1.heap.size, 3, none⟩ = some (.int .i64 (-1)) := Bd8.out.cell 3
  have yu0 : w8.cell? ⟨w3.heap.size, 0, none⟩ = some (.int .i64 0) := Bu8.out.cell 0
  have yu1 : w8.cell? ⟨w3.heap.size, 1, none⟩ = some (.bool false) := Bu8.out.cell 1
  have yu2 : w8.cell? ⟨w3.heap.size, 2, none⟩ = some (.string ⟨#[]⟩) := Bu8.out.cell 2
  have yu3 : w8.cell? ⟨w3.heap.size, 3, none⟩ = some (.int .i64 0) := Bu8.out.cell 3
  have yv0 : w8.cell? ⟨w4.heap.size, 0, none⟩ = some (.int .i64 0) := Bv8.out.cell 0
  have yv1 : w8.cell? ⟨w4.heap.size, 1, none⟩ = some (.bool false) := Bv8.out.cell 1
  have yv2 : w8.cell? ⟨w4.heap.size, 2, none⟩ = some (.string ⟨#[]⟩) := Bv8.out.cell 2
  have yv3 : w8.cell? ⟨w4.heap.size, 3, none⟩ = some (.int .i64 0) := Bv8.out.cell 3
  have yx0 : w8.cell? ⟨w6.heap.size, 0, none⟩ = some (.int .i64 0) := Bx8.out.cell 0
  have yx1 : w8.cell? ⟨w6.heap.size, 1, none⟩ = some (.bool false) := Bx8.out.cell 1
  have yx2 : w8.cell? ⟨w6.heap.size, 2, none⟩ = some (.string ⟨#[51]⟩) := Bx8.out.cell 2
  have yx3 : w8.cell? ⟨w6.heap.size, 3, none⟩ = some (.int .i64 0) := Bx8.out.cell 3
  have Bd9 := hide ((Bd8.out.alloc (.cells #[.int .i64 0, .bool false, .string ⟨#[50, 50, 53]⟩, .int .i64 (-2)] 23)))
  have Bu9 := hide ((Bu8.out.alloc (.cells #[.int .i64 0, .bool false, .string ⟨#[50, 50, 53]⟩, .int .i64 (-2)] 23)))
  have Bv9 := hide ((Bv8.out.alloc (.cells #[.int .i64 0, .bool false, .string ⟨#[50, 50, 53]⟩, .int .i64 (-2)] 23)))
  have Bx9 := hide ((Bx8.out.alloc (.cells #[.int .i64 0, .bool false, .string ⟨#[50, 50, 53]⟩, .int .i64 (-2)] 23)))
  have By9 := hide ((Blk.newAt w8 (w8.heap.size) (rfl) #[.int .i64 0, .bool false, .string ⟨#[50, 50, 53]⟩, .int .i64 (-2)] 23))
  have HB9 : Hid (Below w.heap.size w (w8.alloc (.cells #[.int .i64 0, .bool false, .string ⟨#[50, 50, 53]⟩, .int .i64 (-2)] 23))) := (HB8.out.alloc HB8.out.size _)
  clear Bd8 Bu8 Bv8 Bx8 HB8 yd0 yd1 yd2 yd3 yu0 yu1 yu2 yu3 yv0 yv1 yv2 yv3 yx0 yx1 yx2 yx3
  have yd0 : (w8.alloc (.cells #[.int .i64 0, .bool false, .string ⟨#[50, 50, 53]⟩, .int .i64 (-2)] 23)).cell? ⟨w1.heap.size, 0, none⟩ = some (.int .i64 0) := Bd9.out.cell 0
  have yd1 : (w8.alloc (.cells #[.int .i64 0, .bool false, .string ⟨#[50, 50, 53]⟩, .int .i64 (-2)] 23)).cell? ⟨w1.heap.size, 1, none⟩ = some (.bool false) := Bd9.out.cell 1
  have yd2 : (w8.alloc (.cells #[.int .i64 0, .bool false, .string ⟨#[50, 50, 53]⟩, .int .i64 (-2)] 23)).cell? ⟨w1.heap.size, 2, none⟩ = some (.string ⟨#[49, 53]⟩) := Bd9.out.cell 2
  have yd3 : (w8.alloc (.cells #[.int .i64 0, .bool false, .string ⟨#[50, 50, 53]⟩, .int .i64 (-2)] 23)).cell? ⟨w1.heap.size, 3, none⟩ = some (.int .i64 (-1)) := Bd9.out.cell 3
  have yu0 : (w8.alloc (.cells #[.int .i64 0, .bool false, .string ⟨#[50, 50, 53]⟩, .int .i64 (-2)] 23)).cell? ⟨w3.heap.size, 0, none⟩ = some (.int .i64 0) := Bu9.out.cell 0
  have yu1 : (w8.alloc (.cells #[.int .i64 0, .bool false, .string ⟨#[50, 50, 53]⟩, .int .i64 (-2)] 23)).cell? ⟨w3.heap.size, 1, none⟩ = some (.bool false) := Bu9.out.cell 1
  have yu2 : (w8.alloc (.cells #[.int .i64 0, .bool false, .string ⟨#[50, 50, 53]⟩, .int .i64 (-2)] 23)).cell? ⟨w3.heap.size, 2, none⟩ = some (.string ⟨#[]⟩) := Bu9.out.cell 2
  have yu3 : (w8.alloc (.cells #[.int .i64 0, .bool false, .string ⟨#[50, 50, 53]⟩, .int .i64 (-2)] 23)).cell? ⟨w3.heap.size, 3, none⟩ = some (.int .i64 0) := Bu9.out.cell 3
  have yv0 : (w8.alloc (.cells #[.int .i64 0, .bool false, .string ⟨#[50, 50, 53]⟩, .int .i64 (-2)] 23)).cell? ⟨w4.heap.size, 0, none⟩ = some (.int .i64 0) := Bv9.out.cell 0
  have yv1 : (w8.alloc (.cells #[.int .i64 0, .bool false, .string ⟨#[50, 50, 53]⟩, .int .i64 (-2)] 23)).cell? ⟨w4.heap.size, 1, none⟩ = some (.bool false) := Bv9.out.cell 1
  have yv2 : (w8.alloc (.cells #[.int .i64 0, .bool false, .string ⟨#[50, 50, 53]⟩, .int .i64 (-2)] 23)).cell? ⟨w4.heap.size, 2, none⟩ = some (.string ⟨#[]⟩) := Bv9.out.cell 2
  have yv3 : (w8.alloc (.cells #[.int .i64 0, .bool false, .string ⟨#[50, 50, 53]⟩, .int .i64 (-2)] 23)).cell? ⟨w4.heap.size, 3, none⟩ = some (.int .i64 0) := Bv9.out.cell 3
  have yx0 : (w8.alloc (.cells #[.int .i64 0, .bool false, .string ⟨#[50, 50, 53]⟩, .int .i64 (-2)] 23)).cell? ⟨w6.heap.size, 0, none⟩ = some (.int .i64 0) := Bx9.out.cell 0
  have yx1 : (w8.alloc (.cells #[.int .i64 0, .bool false, .string ⟨#[50, 50, 53]⟩, .int .i64 (-2)] 23)).cell? ⟨w6.heap.size, 1, none⟩ = some (.bool false) := Bx9.out.cell 1
  have yx2 : (w8.alloc (.cells #[.int .i64 0, .bool false, .string ⟨#[50, 50, 53]⟩, .int .i64 (-2)] 23)).cell? ⟨w6.heap.size, 2, none⟩ = some (.string ⟨#[51]⟩) := Bx9.out.cell 2
  have yx3 : (w8.alloc (.cells #[.int .i64 0, .bool false, .string ⟨#[50, 50, 53]⟩, .int .i64 (-2)] 23)).cell? ⟨w6.heap.size, 3, none⟩ = some (.int .i64 0) := Bx9.out.cell 3
  have yy0 : (w8.alloc (.cells #[.int .i64 0, .bool false, .string ⟨#[50, 50, 53]⟩, .int .i64 (-2)] 23)).cell? ⟨w8.heap.size, 0, none⟩ = some (.int .i64 0) := By9.out.cell 0
  have yy1 : (w8.alloc (.cells #[.int .i64 0, .bool false, .string ⟨#[50, 50, 53]⟩, .int .i64 (-2)] 23)).cell? ⟨w8.heap.size, 1, none⟩ = some (.bool false) := By9.out.cell 1
  have yy2 : (w8.alloc (.cells #[.int .i64 0, .bool false, .string ⟨#[50, 50, 53]⟩, .int .i64 (-2)] 23)).cell? ⟨w8.heap.size, 2, none⟩ = some (.string ⟨#[50, 50, 53]⟩) := By9.out.cell 2
  have yy3 : (w8.alloc (.cells #[.int .i64 0, .bool false, .string ⟨#[50, 50, 53]⟩, .int .i64 (-2)] 23)).cell? ⟨w8.heap.size, 3, none⟩ = some (.int .i64 (-2)) := By9.out.cell 3
  go_wp2_with fail
  refine (aScale _).mono ?_
  rintro e w10 ⟨rfl, hb⟩
  have Bd10 := hide (Bd9.out.below hb Bd9.out.lt)
  have Bu10 := hide (Bu9.out.below hb Bu9.out.lt)
  have Bv10 := hide (Bv9.out.below hb Bv9.out.lt)
  have Bx10 := hide (Bx9.out.below hb Bx9.out.lt)
  have By10 := hide (By9.out.below hb By9.out.lt)
  have HB10 := hide (HB9.out.trans (hb.mono HB9.out.size))
  clear hb Bd9 Bu9 Bv9 Bx9 By9 HB9 yd0 yd1 yd2 yd3 yu0 yu1 yu2 yu3 yv0 yv1 yv2 yv3 yx0 yx1 yx2 yx3 yy0 yy1 yy2 yy3
  have yd0 : w10.cell? ⟨w1.heap.size, 0, none⟩ = some (.int .i64 0) := Bd10.out.cell 0
  have yd1 : w10.cell? ⟨w1.heap.size, 1, none⟩ = some (.bool false) := Bd10.out.cell 1
  have yd2 : w10.cell? ⟨w1.heap.size, 2, none⟩ = some (.string ⟨#[49, 53]⟩) := Bd10.out.cell 2
  have yd3 : w10.cell? ⟨w1.heap.size, 3, none⟩ = some (.int .i64 (-1)) := Bd10.out.cell 3
  have yu0 : w10.cell? ⟨w3.heap.size, 0, none⟩ = some (.int .i64 0) := Bu10.out.cell 0
  have yu1 : w10.cell? ⟨w3.heap.size, 1, none⟩ = some (.bool false) := Bu10.out.cell 1
  have yu2 : w10.cell? ⟨w3.heap.size, 2, none⟩ = some (.string ⟨#[]⟩) := Bu10.out.cell 2
  have yu3 : w10.cell? ⟨w3.heap.size, 3, none⟩ = some (.int .i64 0) := Bu10.out.cell 3
  have yv0 : w10.cell? ⟨w4.heap.size, 0, none⟩ = some (.int .i64 0) := Bv10.out.cell 0
  have yv1 : w10.cell? ⟨w4.heap.size, 1, none⟩ = some (.bool false) := Bv10.out.cell 1
  have yv2 : w10.cell? ⟨w4.heap.size, 2, none⟩ = some (.string ⟨#[]⟩) := Bv10.out.cell 2
  have yv3 : w10.cell? ⟨w4.heap.size, 3, none⟩ = some (.int .i64 0) := Bv10.out.cell 3
  have yx0 : w10.cell? ⟨w6.heap.size, 0, none⟩ = some (.int .i64 0) := Bx10.out.cell 0
  have yx1 : w10.cell? ⟨w6.heap.size, 1, none⟩ = some (.bool false) := Bx10.out.cell 1
  have yx2 : w10.cell? ⟨w6.heap.size, 2, none⟩ = some (.string ⟨#[51]⟩) := Bx10.out.cell 2
  have yx3 : w10.cell? ⟨w6.heap.size, 3, none⟩ = some (.int .i64 0) := Bx10.out.cell 3
  have yy0 : w10.cell? ⟨w8.heap.size, 0, none⟩ = some (.int .i64 0) := By10.out.cell 0
  have yy1 : w10.cell? ⟨w8.heap.size, 1, none⟩ = some (.bool false) := By10.out.cell 1
  have yy2 : w10.cell? ⟨w8.heap.size, 2, none⟩ = some (.string ⟨#[50, 50, 53]⟩) := By10.out.cell 2
  have yy3 : w10.cell? ⟨w8.heap.size, 3, none⟩ = some (.int .i64 (-2)) := By10.out.cell 3
  have Bd11 := hide ((Bd10.out.alloc (.cells #[.int .i64 0, .bool false, .string ⟨#[49, 53]⟩, .int .i64 2] 23)))
  have Bu11 := hide ((Bu10.out.alloc (.cells #[.int .i64 0, .bool false, .string ⟨#[49, 53]⟩, .int .i64 2] 23)))
  have Bv11 := hide ((Bv10.out.alloc (.cells #[.int .i64 0, .bool false, .string ⟨#[49, 53]⟩, .int .i64 2] 23)))
  have Bx11 := hide ((Bx10.out.alloc (.cells #[.int .i64 0, .bool false, .string ⟨#[49, 53]⟩, .int .i64 2] 23)))
  have By11 := hide ((By10.out.alloc (.cells #[.int .i64 0, .bool false, .string ⟨#[49, 53]⟩, .int .i64 2] 23)))
  have Bz11 := hide ((Blk.newAt w10 (w10.heap.size) (rfl) #[.int .i64 0, .bool false, .string ⟨#[49, 53]⟩, .int .i64 2] 23))
  have HB11 : Hid (Below w.heap.size w (w10.alloc (.cells #[.int .i64 0, .bool false, .string ⟨#[49, 53]⟩, .int .i64 2] 23))) := (HB10.out.alloc HB10.out.size _)
  clear Bd10 Bu10 Bv10 Bx10 By10 HB10 yd0 yd1 yd2 yd3 yu0 yu1 yu2 yu3 yv0 yv1 yv2 yv3 yx0 yx1 yx2 yx3 yy0 yy1 yy2 yy3
  have yd0 : (w10.alloc (.cells #[.int .i64 0, .bool false, .string ⟨#[49, 53]⟩, .int .i64 2] 23)).cell? ⟨w1.heap.size, 0, none⟩ = some (.int .i64 0) := Bd11.out.cell 0
  have yd1 : (w10.alloc (.cells #[.int .i64 0, .bool false, .string ⟨#[49, 53]⟩, .int .i64 2] 23)).cell? ⟨w1.heap.size, 1, none⟩ = some (.bool false) := Bd11.out.cell 1
  have yd2 : (w10.alloc (.cells #[.int .i64 0, .bool false, .string ⟨#[49, 53]⟩, .int .i64 2] 23)).cell? ⟨w1.heap.size, 2, none⟩ = some (.string ⟨#[49, 53]⟩) := Bd11.out.cell 2
  have yd3 : (w10.alloc (.cells #[.int .i64 0, .bool false, .string ⟨#[49, 53]⟩, .int .i64 2] 23)).cell? ⟨w1.heap.size, 3, none⟩ = some (.int .i64 (-1)) := Bd11.out.cell 3
  have yu0 : (w10.alloc (.cells #[.int .i64 0, .bool false, .string ⟨#[49, 53]⟩, .int .i64 2] 23)).cell? ⟨w3.heap.size, 0, none⟩ = some (.int .i64 0) := Bu11.out.cell 0
  have yu1 : (w10.alloc (.cells #[.int .i64 0, .bool false, .string ⟨#[49, 53]⟩, .int .i64 2] 23)).cell? ⟨w3.heap.size, 1, none⟩ = some (.bool false) := Bu11.out.cell 1
  have yu2 : (w10.alloc (.cells #[.int .i64 0, .bool false, .string ⟨#[49, 53]⟩, .int .i64 2] 23)).cell? ⟨w3.heap.size, 2, none⟩ = some (.string ⟨#[]⟩) := Bu11.out.cell 2
  have yu3 : (w10.alloc (.cells #[.int .i64 0, .bool false, .string ⟨#[49, 53]⟩, .int .i64 2] 23)).cell? ⟨w3.heap.size, 3, none⟩ = some (.int .i64 0) := Bu11.out.cell 3
  have yv0 : (w10.alloc (.cells #[.int .i64 0, .bool false, .string ⟨#[49, 53]⟩, .int .i64 2] 23)).cell? ⟨w4.heap.size, 0, none⟩ = some (.int .i64 0) := Bv11.out.cell 0
  have yv1 : (w10.alloc (.cells #[.int .i64 0, .bool false, .string ⟨#[49, 53]⟩, .int .i64 2] 23)).cell? ⟨w4.heap.size, 1, none⟩ = some (.bool false) := Bv11.out.cell 1
  have yv2 : (w10.alloc (.cells #[.int .i64 0, .bool false, .string ⟨#[49, 53]⟩, .int .i64 2] 23)).cell? ⟨w4.heap.size, 2, none⟩ = some (.string ⟨#[]⟩) := Bv11.out.cell 2
  have yv3 : (w10.alloc (.cells #[.int .i64 0, .bool false, .string ⟨#[49, 53]⟩, .int .i64 2] 23)).cell? ⟨w4.heap.size, 3, none⟩ = some (.int .i64 0) := Bv11.out.cell 3
  have yx0 : (w10.alloc (.cells #[.int .i64 0, .bool false, .string ⟨#[49, 53]⟩, .int .i64 2] 23)).cell? ⟨w6.heap.size, 0, none⟩ = some (.int .i64 0) := Bx11.out.cell 0
  have yx1 : (w10.alloc (.cells #[.int .i64 0, .bool false, .string ⟨#[49, 53]⟩, .int .i64 2] 23)).cell? ⟨w6.heap.size, 1, none⟩ = some (.bool false) := Bx11.out.cell 1
  have yx2 : (w10.alloc (.cells #[.int .i64 0, .bool false, .string ⟨#[49, 53]⟩, .int .i64 2] 23)).cell? ⟨w6.heap.size, 2, none⟩ = some (.string ⟨#[51]⟩) := Bx11.out.cell 2
  have yx3 : (w10.alloc (.cells #[.int .i64 0, .bool false, .string ⟨#[49, 53]⟩, .int .i64 2] 23)).cell? ⟨w6.heap.size, 3, none⟩ = some (.int .i64 0) := Bx11.out.cell 3
  have yy0 : (w10.alloc (.cells #[.int .i64 0, .bool false, .string ⟨#[49, 53]⟩, .int .i64 2] 23)).cell? ⟨w8.heap.size, 0, none⟩ = some (.int .i64 0) := By11.out.cell 0
  have yy1 : (w10.alloc (.cells #[.int .i64 0, .bool false, .string ⟨#[49, 53]⟩, .int .i64 2] 23)).cell? ⟨w8.heap.size, 1, none⟩ = some (.bool false) := By11.out.cell 1
  have yy2 : (w10.alloc (.cells #[.int .i64 0, .bool false, .string ⟨#[49, 53]⟩, .int .i64 2] 23)).cell? ⟨w8.heap.size, 2, none⟩ = some (.string ⟨#[50, 50, 53]⟩) := By11.out.cell 2
  have yy3 : (w10.alloc (.cells #[.int .i64 0, .bool false, .string ⟨#[49, 53]⟩, .int .i64 2] 23)).cell? ⟨w8.heap.size, 3, none⟩ = some (.int .i64 (-2)) := By11.out.cell 3
  have yz0 : (w10.alloc (.cells #[.int .i64 0, .bool false, .string ⟨#[49, 53]⟩, .int .i64 2] 23)).cell? ⟨w10.heap.size, 0, none⟩ = some (.int .i64 0) := Bz11.out.cell 0
  have yz1 : (w10.alloc (.cells #[.int .i64 0, .bool false, .string ⟨#[49, 53]⟩, .int .i64 2] 23)).cell? ⟨w10.heap.size, 1, none⟩ = some (.bool false) := Bz11.out.cell 1
  have yz2 : (w10.alloc (.cells #[.int .i64 0, .bool false, .string ⟨#[49, 53]⟩, .int .i64 2] 23)).cell? ⟨w10.heap.size, 2, none⟩ = some (.string ⟨#[49, 53]⟩) := Bz11.out.cell 2
  have yz3 : (w10.alloc (.cells #[.int .i64 0, .bool false, .string ⟨#[49, 53]⟩, .int .i64 2] 23)).cell? ⟨w10.heap.size, 3, none⟩ = some (.int .i64 2) := Bz11.out.cell 3
  go_wp2_with fail
  refine (aCmp _).mono ?_
  rintro e w12 ⟨rfl, hb⟩
  have Bd12 := hide (Bd11.out.below hb Bd11.out.lt)
  have Bu12 := hide (Bu11.out.below hb Bu11.out.lt)
  have Bv12 := hide (Bv11.out.below hb Bv11.out.lt)
  have Bx12 := hide (Bx11.out.below hb Bx11.out.lt)
  have By12 := hide (By11.out.below hb By11.out.lt)
  have Bz12 := hide (Bz11.out.below hb Bz11.out.lt)
  have HB12 := hide (HB11.out.trans (hb.mono HB11.out.size))
  clear hb Bd11 Bu11 Bv11 Bx11 By11 Bz11 HB11 yd0 yd1 yd2 yd3 yu0 yu1 yu2 yu3 yv0 yv1 yv2 yv3 yx0 yx1 yx2 yx3 yy0 yy1 yy2 yy3 yz0 yz1 yz2 yz3
  have yd0 : w12.cell? ⟨w1.heap.size, 0, none⟩ = some (.int .i64 0) := Bd12.out.cell 0
  have yd1 : w12.cell? ⟨w1.heap.size, 1, none⟩ = some (.bool false) := Bd12.out.cell 1
  have yd2 : w12.cell? ⟨w1.heap.size, 2, none⟩ = some (.string ⟨#[49, 53]⟩) := Bd12.out.cell 2
  have yd3 : w12.cell? ⟨w1.heap.size, 3, none⟩ = some (.int .i64 (-1)) := Bd12.out.cell 3
  have yu0 : w12.cell? ⟨w3.heap.size, 0, none⟩ = some (.int .i64 0) := Bu12.out.cell 0
  have yu1 : w12.cell? ⟨w3.heap.size, 1, none⟩ = some (.bool false) := Bu12.out.cell 1
  have yu2 : w12.cell? ⟨w3.heap.size, 2, none⟩ = some (.string ⟨#[]⟩) := Bu12.out.cell 2
  have yu3 : w12.cell? ⟨w3.heap.size, 3, none⟩ = some (.int .i64 0) := Bu12.out.cell 3
  have yv0 : w12.cell? ⟨w4.heap.size, 0, none⟩ = some (.int .i64 0) := Bv12.out.cell 0
  have yv1 : w12.cell? ⟨w4.heap.size, 1, none⟩ = some (.bool false) := Bv12.out.cell 1
  have yv2 : w12.cell? ⟨w4.heap.size, 2, none⟩ = some (.string ⟨#[]⟩) := Bv12.out.cell 2
  have yv3 : w12.cell? ⟨w4.heap.size, 3, none⟩ = some (.int .i64 0) := Bv12.out.cell 3
  have yx0 : w12.cell? ⟨w6.heap.size, 0, none⟩ = some (.int .i64 0) := Bx12.out.cell 0
  have yx1 : w12.cell? ⟨w6.heap.size, 1, none⟩ = some (.bool false) := Bx12.out.cell 1
  have yx2 : w12.cell? ⟨w6.heap.size, 2, none⟩ = some (.string ⟨#[51]⟩) := Bx12.out.cell 2
  have yx3 : w12.cell? ⟨w6.heap.size, 3, none⟩ = some (.int .i64 0) := Bx12.out.cell 3
  have yy0 : w12.cell? ⟨w8.heap.size, 0, none⟩ = some (.int .i64 0) := By12.out.cell 0
  have yy1 : w12.cell? ⟨w8.heap.size, 1, none⟩ = some (.bool false) := By12.out.cell 1
  have yy2 : w12.cell? ⟨w8.heap.size, 2, none⟩ = some (.string ⟨#[50, 50, 53]⟩) := By12.out.cell 2
  have yy3 : w12.cell? ⟨w8.heap.size, 3, none⟩ = some (.int .i64 (-2)) := By12.out.cell 3
  have yz0 : w12.cell? ⟨w10.heap.size, 0, none⟩ = some (.int .i64 0) := Bz12.out.cell 0
  have yz1 : w12.cell? ⟨w10.heap.size, 1, none⟩ = some (.bool false) := Bz12.out.cell 1
  have yz2 : w12.cell? ⟨w10.heap.size, 2, none⟩ = some (.string ⟨#[49, 53]⟩) := Bz12.out.cell 2
  have yz3 : w12.cell? ⟨w10.heap.size, 3, none⟩ = some (.int .i64 2) := Bz12.out.cell 3
  go_wp2_with fail
  refine (aNeg _).mono ?_
  rintro e w13 ⟨rfl, hb⟩
  have Bd13 := hide (Bd12.out.below hb Bd12.out.lt)
  have Bu13 := hide (Bu12.out.below hb Bu12.out.lt)
  have Bv13 := hide (Bv12.out.below hb Bv12.out.lt)
  have Bx13 := hide (Bx12.out.below hb Bx12.out.lt)
  have By13 := hide (By12.out.below hb By12.out.lt)
  have Bz13 := hide (Bz12.out.below hb Bz12.out.lt)
  have HB13 := hide (HB12.out.trans (hb.mono HB12.out.size))
  clear hb Bd12 Bu12 Bv12 Bx12 By12 Bz12 HB12 yd0 yd1 yd2 yd3 yu0 yu1 yu2 yu3 yv0 yv1 yv2 yv3 yx0 yx1 yx2 yx3 yy0 yy1 yy2 yy3 yz0 yz1 yz2 yz3
  have yd0 : w13.cell? ⟨w1.heap.size, 0, none⟩ = some (.int .i64 0) := Bd13.out.cell 0
  have yd1 : w13.cell? ⟨w1.heap.size, 1, none⟩ = some (.bool false) := Bd13.out.cell 1
  have yd2 : w13.cell? ⟨w1.heap.size, 2, none⟩ = some (.string ⟨#[49, 53]⟩) := Bd13.out.cell 2
  have yd3 : w13.cell? ⟨w1.heap.size, 3, none⟩ = some (.int .i64 (-1)) := Bd13.out.cell 3
  have yu0 : w13.cell? ⟨w3.heap.size, 0, none⟩ = some (.int .i64 0) := Bu13.out.cell 0
  have yu1 : w13.cell? ⟨w3.heap.size, 1, none⟩ = some (.bool false) := Bu13.out.cell 1
  have yu2 : w13.cell? ⟨w3.heap.size, 2, none⟩ = some (.string ⟨#[]⟩) := Bu13.out.cell 2
  have yu3 : w13.cell? ⟨w3.heap.size, 3, none⟩ = some (.int .i64 0) := Bu13.out.cell 3
  have yv0 : w13.cell? ⟨w4.heap.size, 0, none⟩ = some (.int .i64 0) := Bv13.out.cell 0
  have yv1 : w13.cell? ⟨w4.heap.size, 1, none⟩ = some (.bool false) := Bv13.out.cell 1
  have yv2 : w13.cell? ⟨w4.heap.size, 2, none⟩ = some (.string ⟨#[]⟩) := Bv13.out.cell 2
  have yv3 : w13.cell? ⟨w4.heap.size, 3, none⟩ = some (.int .i64 0) := Bv13.out.cell 3
  have yx0 : w13.cell? ⟨w6.heap.size, 0, none⟩ = some (.int .i64 0) := Bx13.out.cell 0
  have yx1 : w13.cell? ⟨w6.heap.size, 1, none⟩ = some (.bool false) := Bx13.out.cell 1
  have yx2 : w13.cell? ⟨w6.heap.size, 2, none⟩ = some (.string ⟨#[51]⟩) := Bx13.out.cell 2
  have yx3 : w13.cell? ⟨w6.heap.size, 3, none⟩ = some (.int .i64 0) := Bx13.out.cell 3
  have yy0 : w13.cell? ⟨w8.heap.size, 0, none⟩ = some (.int .i64 0) := By13.out.cell 0
  have yy1 : w13.cell? ⟨w8.heap.size, 1, none⟩ = some (.bool false) := By13.out.cell 1
  have yy2 : w13.cell? ⟨w8.heap.size, 2, none⟩ = some (.string ⟨#[50, 50, 53]⟩) := By13.out.cell 2
  have yy3 : w13.cell? ⟨w8.heap.size, 3, none⟩ = some (.int .i64 (-2)) := By13.out.cell 3
  have yz0 : w13.cell? ⟨w10.heap.size, 0, none⟩ = some (.int .i64 0) := Bz13.out.cell 0
  have yz1 : w13.cell? ⟨w10.heap.size, 1, none⟩ = some (.bool false) := Bz13.out.cell 1
  have yz2 : w13.cell? ⟨w10.heap.size, 2, none⟩ = some (.string ⟨#[49, 53]⟩) := Bz13.out.cell 2
  have yz3 : w13.cell? ⟨w10.heap.size, 3, none⟩ = some (.int .i64 2) := Bz13.out.cell 3
  have Bd14 := hide ((Bd13.out.alloc (.cells #[.int .i64 0, .bool true, .string ⟨#[49, 53]⟩, .int .i64 (-1)] 23)))
  have Bu14 := hide ((Bu13.out.alloc (.cells #[.int .i64 0, .bool true, .string ⟨#[49, 53]⟩, .int .i64 (-1)] 23)))
  have Bv14 := hide ((Bv13.out.alloc (.cells #[.int .i64 0, .bool true, .string ⟨#[49, 53]⟩, .int .i64 (-1)] 23)))
  have Bx14 := hide ((Bx13.out.alloc (.cells #[.int .i64 0, .bool true, .string ⟨#[49, 53]⟩, .int .i64 (-1)] 23)))
  have By14 := hide ((By13.out.alloc (.cells #[.int .i64 0, .bool true, .string ⟨#[49, 53]⟩, .int .i64 (-1)] 23)))
  have Bz14 := hide ((Bz13.out.alloc (.cells #[.int .i64 0, .bool true, .string ⟨#[49, 53]⟩, .int .i64 (-1)] 23)))
  have Bn14 := hide ((Blk.newAt w13 (w13.heap.size) (rfl) #[.int .i64 0, .bool true, .string ⟨#[49, 53]⟩, .int .i64 (-1)] 23))
  have HB14 : Hid (Below w.heap.size w (w13.alloc (.cells #[.int .i64 0, .bool true, .string ⟨#[49, 53]⟩, .int .i64 (-1)] 23))) := (HB13.out.alloc HB13.out.size _)
  clear Bd13 Bu13 Bv13 Bx13 By13 Bz13 HB13 yd0 yd1 yd2 yd3 yu0 yu1 yu2 yu3 yv0 yv1 yv2 yv3 yx0 yx1 yx2 yx3 yy0 yy1 yy2 yy3 yz0 yz1 yz2 yz3
  have yd0 : (w13.alloc (.cells #[.int .i64 0, .bool true, .string ⟨#[49, 53]⟩, .int .i64 (-1)] 23)).cell? ⟨w1.heap.size, 0, none⟩ = some (.int .i64 0) := Bd14.out.cell 0
  have yd1 : (w13.alloc (.cells #[.int .i64 0, .bool true, .string ⟨#[49, 53]⟩, .int .i64 (-1)] 23)).cell? ⟨w1.heap.size, 1, none⟩ = some (.bool false) := Bd14.out.cell 1
  have yd2 : (w13.alloc (.cells #[.int .i64 0, .bool true, .string ⟨#[49, 53]⟩, .int .i64 (-1)] 23)).cell? ⟨w1.heap.size, 2, none⟩ = some (.string ⟨#[49, 53]⟩) := Bd14.out.cell 2
  have yd3 : (w13.alloc (.cells #[.int .i64 0, .bool true, .string ⟨#[49, 53]⟩, .int .i64 (-1)] 23)).cell? ⟨w1.heap.size, 3, none⟩ = some (.int .i64 (-1)) := Bd14.out.cell 3
  have yu0 : (w13.alloc (.cells #[.int .i64 0, .bool true, .string ⟨#[49, 53]⟩, .int .i64 (-1)] 23)).cell? ⟨w3.heap.size, 0, none⟩ = some (.int .i64 0) := Bu14.out.cell 0
  have yu1 : (w13.alloc (.cells #[.int .i64 0, .bool true, .string ⟨#[49, 53]⟩, .int .i64 (-1)] 23)).cell? ⟨w3.heap.size, 1, none⟩ = some (.bool false) := Bu14.out.cell 1
  have yu2 : (w13.alloc (.cells #[.int .i64 0, .bool true, .string ⟨#[49, 53]⟩, .int .i64 (-1)] 23)).cell? ⟨w3.heap.size, 2, none⟩ = some (.string ⟨#[]⟩) := Bu14.out.cell 2
  have yu3 : (w13.alloc (.cells #[.int .i64 0, .bool true, .string ⟨#[49, 53]⟩, .int .i64 (-1)] 23)).cell? ⟨w3.heap.size, 3, none⟩ = some (.int .i64 0) := Bu14.out.cell 3
  have yv0 : (w13.alloc (.cells #[.int .i64 0, .bool true, .string ⟨#[49, 53]⟩, .int .i64 (-1)] 23)).cell? ⟨w4.heap.size, 0, none⟩ = some (.int .i64 0) := Bv14.out.cell 0
  have yv1 : (w13.alloc (.cells #[.int .i64 0, .bool true, .string ⟨#[49, 53]⟩, .int .i64 (-1)] 23)).cell? ⟨w4.heap.size, 1, none⟩ = some (.bool false) := Bv14.out.cell 1
  have yv2 : (w13.alloc (.cells #[.int .i64 0, .bool true, .string ⟨#[49, 53]⟩, .int .i64 (-1)] 23)).cell? ⟨w4.heap.size, 2, none⟩ = some (.string ⟨#[]⟩) := Bv14.out.cell 2
  have yv3 : (w13.alloc (.cells #[.int .i64 0, .bool true, .string ⟨#[49, 53]⟩, .int .i64 (-1)] 23)).cell? ⟨w4.heap.size, 3, none⟩ = some (.int .i64 0) := Bv14.out.cell 3
  have yx0 : (w13.alloc (.cells #[.int .i64 0, .bool true, .string ⟨#[49, 53]⟩, .int .i64 (-1)] 23)).cell? ⟨w6.heap.size, 0, none⟩ = some (.int .i64 0) := Bx14.out.cell 0
  have yx1 : (w13.alloc (.cells #[.int .i64 0, .bool true, .string ⟨#[49, 53]⟩, .int .i64 (-1)] 23)).cell? ⟨w6.heap.size, 1, none⟩ = some (.bool false) := Bx14.out.cell 1
  have yx2 : (w13.alloc (.cells #[.int .i64 0, .bool true, .string ⟨#[49, 53]⟩, .int .i64 (-1)] 23)).cell? ⟨w6.heap.size, 2, none⟩ = some (.string ⟨#[51]⟩) := Bx14.out.cell 2
  have yx3 : (w13.alloc (.cells #[.int .i64 0, .bool true, .string ⟨#[49, 53]⟩, .int .i64 (-1)] 23)).cell? ⟨w6.heap.size, 3, none⟩ = some (.int .i64 0) := Bx14.out.cell 3
  have yy0 : (w13.alloc (.cells #[.int .i64 0, .bool true, .string ⟨#[49, 53]⟩, .int .i64 (-1)] 23)).cell? ⟨w8.heap.size, 0, none⟩ = some (.int .i64 0) := By14.out.cell 0
  have yy1 : (w13.alloc (.cells #[.int .i64 0, .bool true, .string ⟨#[49, 53]⟩, .int .i64 (-1)] 23)).cell? ⟨w8.heap.size, 1, none⟩ = some (.bool false) := By14.out.cell 1
  have yy2 : (w13.alloc (.cells #[.int .i64 0, .bool true, .string ⟨#[49, 53]⟩, .int .i64 (-1)] 23)).cell? ⟨w8.heap.size, 2, none⟩ = some (.string ⟨#[50, 50, 53]⟩) := By14.out.cell 2
  have yy3 : (w13.alloc (.cells #[.int .i64 0, .bool true, .string ⟨#[49, 53]⟩, .int .i64 (-1)] 23)).cell? ⟨w8.heap.size, 3, none⟩ = some (.int .i64 (-2)) := By14.out.cell 3
  have yz0 : (w13.alloc (.cells #[.int .i64 0, .bool true, .string ⟨#[49, 53]⟩, .int .i64 (-1)] 23)).cell? ⟨w10.heap.size, 0, none⟩ = some (.int .i64 0) := Bz14.out.cell 0
  have yz1 : (w13.alloc (.cells #[.int .i64 0, .bool true, .string ⟨#[49, 53]⟩, .int .i64 (-1)] 23)).cell? ⟨w10.heap.size, 1, none⟩ = some (.bool false) := Bz14.out.cell 1
  have yz2 : (w13.alloc (.cells #[.int .i64 0, .bool true, .string ⟨#[49, 53]⟩, .int .i64 (-1)] 23)).cell? ⟨w10.heap.size, 2, none⟩ = some (.string ⟨#[49, 53]⟩) := Bz14.out.cell 2
  have yz3 : (w13.alloc (.cells #[.int .i64 0, .bool true, .string ⟨#[49, 53]⟩, .int .i64 (-1)] 23)).cell? ⟨w10.heap.size, 3, none⟩ = some (.int .i64 2) := Bz14.out.cell 3
  have yn0 : (w13.alloc (.cells #[.int .i64 0, .bool true, .string ⟨#[49, 53]⟩, .int .i64 (-1)] 23)).cell? ⟨w13.heap.size, 0, none⟩ = some (.int .i64 0) := Bn14.out.cell 0
  have yn1 : (w13.alloc (.cells #[.int .i64 0, .bool true, .string ⟨#[49, 53]⟩, .int .i64 (-1)] 23)).cell? ⟨w13.heap.size, 1, none⟩ = some (.bool true) := Bn14.out.cell 1
  have yn2 : (w13.alloc (.cells #[.int .i64 0, .bool true, .string ⟨#[49, 53]⟩, .int .i64 (-1)] 23)).cell? ⟨w13.heap.size, 2, none⟩ = some (.string ⟨#[49, 53]⟩) := Bn14.out.cell 2
  have yn3 : (w13.alloc (.cells #[.int .i64 0, .bool true, .string ⟨#[49, 53]⟩, .int .i64 (-1)] 23)).cell? ⟨w13.heap.size, 3, none⟩ = some (.int .i64 (-1)) := Bn14.out.cell 3
  go_wp2_with fail
  refine (aMay _).mono ?_
  rintro e w15 ⟨rfl, hb⟩
  have Bd15 := hide (Bd14.out.below hb Bd14.out.lt)
  have Bu15 := hide (Bu14.out.below hb Bu14.out.lt)
  have Bv15 := hide (Bv14.out.below hb Bv14.out.lt)
  have Bx15 := hide (Bx14.out.below hb Bx14.out.lt)
  have By15 := hide (By14.out.below hb By14.out.lt)
  have Bz15 := hide (Bz14.out.below hb Bz14.out.lt)
  have Bn15 := hide (Bn14.out.below hb Bn14.out.lt)
  have HB15 := hide (HB14.out.trans (hb.mono HB14.out.size))
  clear hb Bd14 Bu14 Bv14 Bx14 By14 Bz14 Bn14 HB14 yd0 yd1 yd2 yd3 yu0 yu1 yu2 yu3 yv0 yv1 yv2 yv3 yx0 yx1 yx2 yx3 yy0 yy1 yy2 yy3 yz0 yz1 yz2 yz3 yn0 yn1 yn2 yn3
  have yd0 : w15.cell? ⟨w1.heap.size, 0, none⟩ = some (.int .i64 0) := Bd15.out.cell 0
  have yd1 : w15.cell? ⟨w1.heap.size, 1, none⟩ = some (.bool false) := Bd15.out.cell 1
  have yd2 : w15.cell? ⟨w1.heap.size, 2, none⟩ = some (.string ⟨#[49, 53]⟩) := Bd15.out.cell 2
  have yd3 : w15.cell? ⟨w1.heap.size, 3, none⟩ = some (.int .i64 (-1)) := Bd15.out.cell 3
  have yu0 : w15.cell? ⟨w3.heap.size, 0, none⟩ = some (.int .i64 0) := Bu15.out.cell 0
  have yu1 : w15.cell? ⟨w3.heap.size, 1, none⟩ = some (.bool false) := Bu15.out.cell 1
  have yu2 : w15.cell? ⟨w3.heap.size, 2, none⟩ = some (.string ⟨#[]⟩) := Bu15.out.cell 2
  have yu3 : w15.cell? ⟨w3.heap.size, 3, none⟩ = some (.int .i64 0) := Bu15.out.cell 3
  have yv0 : w15.cell? ⟨w4.heap.size, 0, none⟩ = some (.int .i64 0) := Bv15.out.cell 0
  have yv1 : w15.cell? ⟨w4.heap.size, 1, none⟩ = some (.bool false) := Bv15.out.cell 1
  have yv2 : w15.cell? ⟨w4.heap.size, 2, none⟩ = some (.string ⟨#[]⟩) := Bv15.out.cell 2
  have yv3 : w15.cell? ⟨w4.heap.size, 3, none⟩ = some (.int .i64 0) := Bv15.out.cell 3
  have yx0 : w15.cell? ⟨w6.heap.size, 0, none⟩ = some (.int .i64 0) := Bx15.out.cell 0
  have yx1 : w15.cell? ⟨w6.heap.size, 1, none⟩ = some (.bool false) := Bx15.out.cell 1
  have yx2 : w15.cell? ⟨w6.heap.size, 2, none⟩ = some (.string ⟨#[51]⟩) := Bx15.out.cell 2
  have yx3 : w15.cell? ⟨w6.heap.size, 3, none⟩ = some (.int .i64 0) := Bx15.out.cell 3
  have yy0 : w15.cell? ⟨w8.heap.size, 0, none⟩ = some (.int .i64 0) := By15.out.cell 0
  have yy1 : w15.cell? ⟨w8.heap.size, 1, none⟩ = some (.bool false) := By15.out.cell 1
  have yy2 : w15.cell? ⟨w8.heap.size, 2, none⟩ = some (.string ⟨#[50, 50, 53]⟩) := By15.out.cell 2
  have yy3 : w15.cell? ⟨w8.heap.size, 3, none⟩ = some (.int .i64 (-2)) := By15.out.cell 3
  have yz0 : w15.cell? ⟨w10.heap.size, 0, none⟩ = some (.int .i64 0) := Bz15.out.cell 0
  have yz1 : w15.cell? ⟨w10.heap.size, 1, none⟩ = some (.bool false) := Bz15.out.cell 1
  have yz2 : w15.cell? ⟨w10.heap.size, 2, none⟩ = some (.string ⟨#[49, 53]⟩) := Bz15.out.cell 2
  have yz3 : w15.cell? ⟨w10.heap.size, 3, none⟩ = some (.int .i64 2) := Bz15.out.cell 3
  have yn0 : w15.cell? ⟨w13.heap.size, 0, none⟩ = some (.int .i64 0) := Bn15.out.cell 0
  have yn1 : w15.cell? ⟨w13.heap.size, 1, none⟩ = some (.bool true) := Bn15.out.cell 1
  have yn2 : w15.cell? ⟨w13.heap.size, 2, none⟩ = some (.string ⟨#[49, 53]⟩) := Bn15.out.cell 2
  have yn3 : w15.cell? ⟨w13.heap.size, 3, none⟩ = some (.int .i64 (-1)) := Bn15.out.cell 3
  go_wp2_with fail
  refine (aPlace _).mono ?_
  rintro e w16 ⟨rfl, hb⟩
  have Bd16 := hide (Bd15.out.below hb Bd15.out.lt)
  have Bu16 := hide (Bu15.out.below hb Bu15.out.lt)
  have Bv16 := hide (Bv15.out.below hb Bv15.out.lt)
  have Bx16 := hide (Bx15.out.below hb Bx15.out.lt)
  have By16 := hide (By15.out.below hb By15.out.lt)
  have Bz16 := hide (Bz15.out.below hb Bz15.out.lt)
  have Bn16 := hide (Bn15.out.below hb Bn15.out.lt)
  have HB16 := hide (HB15.out.trans (hb.mono HB15.out.size))
  clear hb Bd15 Bu15 Bv15 Bx15 By15 Bz15 Bn15 HB15 yd0 yd1 yd2 yd3 yu0 yu1 yu2 yu3 yv0 yv1 yv2 yv3 yx0 yx1 yx2 yx3 yy0 yy1 yy2 yy3 yz0 yz1 yz2 yz3 yn0 yn1 yn2 yn3
  have yd0 : w16.cell? ⟨w1.heap.size, 0, none⟩ = some (.int .i64 0) := Bd16.out.cell 0
  have yd1 : w16.cell? ⟨w1.heap.size, 1, none⟩ = some (.bool false) := Bd16.out.cell 1
  have yd2 : w16.cell? ⟨w1.heap.size, 2, none⟩ = some (.string ⟨#[49, 53]⟩) := Bd16.out.cell 2
  have yd3 : w16.cell? ⟨w1.heap.size, 3, none⟩ = some (.int .i64 (-1)) := Bd16.out.cell 3
  have yu0 : w16.cell? ⟨w3.heap.size, 0, none⟩ = some (.int .i64 0) := Bu16.out.cell 0
  have yu1 : w16.cell? ⟨w3.heap.size, 1, none⟩ = some (.bool false) := Bu16.out.cell 1
  have yu2 : w16.cell? ⟨w3.heap.size, 2, none⟩ = some (.string ⟨#[]⟩) := Bu16.out.cell 2
  have yu3 : w16.cell? ⟨w3.heap.size, 3, none⟩ = some (.int .i64 0) := Bu16.out.cell 3
  have yv0 : w16.cell? ⟨w4.heap.size, 0, none⟩ = some (.int .i64 0) := Bv16.out.cell 0
  have yv1 : w16.cell? ⟨w4.heap.size, 1, none⟩ = some (.bool false) := Bv16.out.cell 1
  have yv2 : w16.cell? ⟨w4.heap.size, 2, none⟩ = some (.string ⟨#[]⟩) := Bv16.out.cell 2
  have yv3 : w16.cell? ⟨w4.heap.size, 3, none⟩ = some (.int .i64 0) := Bv16.out.cell 3
  have yx0 : w16.cell? ⟨w6.heap.size, 0, none⟩ = some (.int .i64 0) := Bx16.out.cell 0
  have yx1 : w16.cell? ⟨w6.heap.size, 1, none⟩ = some (.bool false) := Bx16.out.cell 1
  have yx2 : w16.cell? ⟨w6.heap.size, 2, none⟩ = some (.string ⟨#[51]⟩) := Bx16.out.cell 2
  have yx3 : w16.cell? ⟨w6.heap.size, 3, none⟩ = some (.int .i64 0) := Bx16.out.cell 3
  have yy0 : w16.cell? ⟨w8.heap.size, 0, none⟩ = some (.int .i64 0) := By16.out.cell 0
  have yy1 : w16.cell? ⟨w8.heap.size, 1, none⟩ = some (.bool false) := By16.out.cell 1
  have yy2 : w16.cell? ⟨w8.heap.size, 2, none⟩ = some (.string ⟨#[50, 50, 53]⟩) := By16.out.cell 2
  have yy3 : w16.cell? ⟨w8.heap.size, 3, none⟩ = some (.int .i64 (-2)) := By16.out.cell 3
  have yz0 : w16.cell? ⟨w10.heap.size, 0, none⟩ = some (.int .i64 0) := Bz16.out.cell 0
  have yz1 : w16.cell? ⟨w10.heap.size, 1, none⟩ = some (.bool false) := Bz16.out.cell 1
  have yz2 : w16.cell? ⟨w10.heap.size, 2, none⟩ = some (.string ⟨#[49, 53]⟩) := Bz16.out.cell 2
  have yz3 : w16.cell? ⟨w10.heap.size, 3, none⟩ = some (.int .i64 2) := Bz16.out.cell 3
  have yn0 : w16.cell? ⟨w13.heap.size, 0, none⟩ = some (.int .i64 0) := Bn16.out.cell 0
  have yn1 : w16.cell? ⟨w13.heap.size, 1, none⟩ = some (.bool true) := Bn16.out.cell 1
  have yn2 : w16.cell? ⟨w13.heap.size, 2, none⟩ = some (.string ⟨#[49, 53]⟩) := Bn16.out.cell 2
  have yn3 : w16.cell? ⟨w13.heap.size, 3, none⟩ = some (.int .i64 (-1)) := Bn16.out.cell 3
  go_wp2
  go_ret
  exact ⟨rfl, HB16.out⟩

end Go.Proofs.YtafljhfamjabeaaGreatDoor

namespace Go.Proofs.YtafljhfamjabeaaGreatDoor
open Go.RowKit

theorem tg : Tryz.prog.globalNamed "internal/strconv.uint64pow10" = some 3 := by kernel_rfl
theorem tgt : (Tryz.prog.globals[3]?).map (·.type) = some 184 := by kernel_rfl
theorem tc20 : Tryz.prog.cellsOf 184 = 20 := by kernel_rfl
theorem tc1 : Tryz.prog.cellsOf 78 = 1 := by kernel_rfl

theorem table {W : World} (h : laidMetH Tryz.prog [("math/bits.deBruijn32tab", Rows.laid_math_bits_deBruijn32tab), ("math/bits.deBruijn64tab", Rows.laid_math_bits_deBruijn64tab), ("internal/strconv.uint64pow10", Rows.laid_internal_strconv_uint64pow10), ("unicode/utf8.acceptRanges", Rows.laid_unicode_utf8_acceptRanges), ("strconv.ErrRange", Rows.laid_strconv_ErrRange), ("strconv.ErrSyntax", Rows.laid_strconv_ErrSyntax), ("unicode/utf8.first", Rows.laid_unicode_utf8_first)] W) : Tab W := by
  have h' : laidMet Tryz.prog [("math/bits.deBruijn32tab", Rows.laid_math_bits_deBruijn32tab), ("math/bits.deBruijn64tab", Rows.laid_math_bits_deBruijn64tab), ("internal/strconv.uint64pow10", Rows.laid_internal_strconv_uint64pow10), ("unicode/utf8.acceptRanges", Rows.laid_unicode_utf8_acceptRanges), ("strconv.ErrRange", Rows.laid_strconv_ErrRange), ("strconv.ErrSyntax", Rows.laid_strconv_ErrSyntax), ("unicode/utf8.first", Rows.laid_unicode_utf8_first)] W := h
  obtain ⟨ps, ⟨_, _, _, _, _, q1, _, _, _, _, ⟨_, _, _, _, _, q2, _, _, _, _, ⟨g', t', cs, fuel, p3, q3, hg', ht', hvar, hd, _, _⟩, _⟩, _⟩, _⟩ := h'
  obtain rfl := Option.some.inj (tg.symm.trans hg')
  obtain rfl := Option.some.inj (tgt.symm.trans ht')
  unfold Tab Lib.TabIs
  have hd' : DataW.trod (fun _ => ()) Tryz.prog W 0 (fun _ => true) false fuel 184 cs.toList = some (Lib.tabData .u64 Lib.pow10Tab, p3) := hd
  rw [hvar, ← Lib.cells_of_tab Tryz.underlying184 Tryz.underlying78 tc1 tc20 hd']

/-- The values of a table's reading, whose places hold one number or a few. -/
def tabVals : DataW Unit → Array Value
  | .agg l => (l.flatMap fun
      | .lit (.int k z) => [Value.int k z]
      | .agg l2 => l2.map fun
        | .lit (.int k z) => Value.int k z
        | _ => .int .u8 0
      | _ => []).toArray
  | _ => #[]

/-- A block that holds other values, of the same type. -/
def putVals (d : DataW Unit) : Obj → Obj
  | .cells _ t frozen => .cells (tabVals d) t frozen
  | o => o

/-- The text that an error of the library's bears. -/
def errText : DataW Unit → ByteArray
  | .iface _ (.ptr (.agg [.lit (.string l)])) => ⟨l.toArray⟩
  | _ => ⟨#[]⟩

/-- A block that holds an error of the library's, whose text lies in block b. -/
def putErr (b : Nat) : Obj → Obj
  | .cells _ t frozen => .cells #[.iface 178 (.pointer (some ⟨b, 0, none⟩))] t frozen
  | o => o

/-- The settled world, the five tables and the two errors holding what their initialisers lay. -/
noncomputable def laidWorld (os : Os) : World :=
  { World.holding Tryz.prog os ⟨#[], #[], []⟩ with
    heap := (((((((((World.holding Tryz.prog os ⟨#[], #[], []⟩).heap.modify 8 (putVals Rows.laid_math_bits_deBruijn32tab)).modify 9 (putVals Rows.laid_math_bits_deBruijn64tab)).modify 3 (putVals Rows.laid_internal_strconv_uint64pow10)).modify 5 (putVals Rows.laid_unicode_utf8_acceptRanges)).modify 4 (putVals Rows.laid_unicode_utf8_first)).modify 2 (putErr (World.holding Tryz.prog os ⟨#[], #[], []⟩).heap.size)).modify 1 (putErr ((World.holding Tryz.prog os ⟨#[], #[], []⟩).heap.size + 1))).push (.cells #[.string (errText Rows.laid_strconv_ErrRange)] 180)).push (.cells #[.string (errText Rows.laid_strconv_ErrSyntax)] 180) }

end Go.Proofs.YtafljhfamjabeaaGreatDoor
