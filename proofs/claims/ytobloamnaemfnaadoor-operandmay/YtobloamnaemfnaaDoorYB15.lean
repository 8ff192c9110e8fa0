/-
  Lists of bytes in blocks of their own, out of a conversion or an append: an append to one; what a conversion makes.
  What quipuref08's number does.
  What quipuref08's May does.
-/
import Derived.Test.YtobloamnaemfnaaDoorYB12
import Derived.ArgAppend
import Derived.Lib.ConvBytes
import Derived.Laws.BytesArg
import Derived.Test.YtobloamnaemfnaaDoorYB14
namespace Go.Proofs.YtobloamnaemfnaaDoor
open Go.RowKit

def Ob (base : Nat) (X : World) (v : Value) (ys : List Nat) : Prop :=
  ∃ g cap cur fz, v = .slice (some ⟨g, 0, none⟩) ys.length cap ∧ base ≤ g ∧ X.heap[g]? = some (.cells cur 5 fz) ∧ (fz = (0, 0) ∨ cap ≤ fz.1) ∧ ys.length ≤ cap ∧ cur.size = cap ∧ cur.toList.take ys.length = vals .u8 ys

theorem Ob.cells {base : Nat} {X : World} {g n cap : Nat} {ys : List Nat} (h : Ob base X (.slice (some ⟨g, 0, none⟩) n cap) ys) : n = ys.length ∧ base ≤ g ∧ g < X.heap.size ∧ n ≤ cap ∧ ∀ i, i < ys.length → X.cell? ⟨g, i, none⟩ = some (.int .u8 ((ys[i]?.getD 0 : Nat) : Int)) := by
  obtain ⟨g', cap', cur, fz, hv, hg1, hh, hf, hn, hsz, ht⟩ := h
  simp only [Value.slice.injEq, Option.some.injEq, Addr.mk.injEq] at hv
  obtain ⟨⟨rfl, _, _⟩, rfl, rfl⟩ := hv
  refine ⟨rfl, hg1, lt_of_block hh, hn, fun i hi => ?_⟩
  have hc : cur[i]? = (vals .u8 ys)[i]? := by rw [← ht, List.getElem?_take_of_lt hi, Array.getElem?_toList]
  simp only [World.cell?, hh, Option.isSome_none, Bool.false_eq_true, if_false, hc]
  simp [vals, hi]

theorem Ob.below {base : Nat} {X Y : World} {v : Value} {ys : List Nat} (h : Ob base X v ys) (hb : Below X.heap.size X Y) : Ob base Y v ys := by
  obtain ⟨g, cap, cur, fz, rfl, hg1, hh, hr⟩ := h
  exact ⟨g, cap, cur, fz, rfl, hg1, (hb.block g (lt_of_block hh)).trans hh, hr⟩

theorem Ob.lt {base : Nat} {X : World} {v : Value} {ys : List Nat} (h : Ob base X v ys) : ∀ g, v.ownBlock = some g → base ≤ g ∧ g < X.heap.size := by
  obtain ⟨g, cap, cur, fz, rfl, hg1, hh, hr⟩ := h
  intro k hk
  simp only [Value.ownBlock, Option.some.injEq] at hk
  subst hk
  exact ⟨hg1, lt_of_block hh⟩

theorem Ob.bytes {base : Nat} (X : World) (s : ByteArray) (h : base ≤ X.heap.size) : Ob base (Lib.bytesWorld X 5 s) (.slice (some ⟨X.heap.size, 0, none⟩) s.size (grownCap X s.size 0 5)) ((bys s).map UInt8.toNat) := by
  have hl : ((bys s).map UInt8.toNat).length = s.size := by rw [List.length_map, bys_len]
  have hle : s.size ≤ grownCap X s.size 0 5 := grownCap_ge _ _ _ _
  have hsz : (Lib.bytesCells X 5 s).size = grownCap X s.size 0 5 := by
    unfold Lib.bytesCells
    simp only [Array.size_append, Array.size_map, Array.size_replicate]
    have : s.data.size = s.size := rfl
    omega
  refine ⟨X.heap.size, grownCap X s.size 0 5, Lib.bytesCells X 5 s, _, by rw [hl], h, Lib.bytesWorld_at_new X 5 s, .inr (by rw [hsz]; exact Nat.le_refl _), by rw [hl]; exact hle, hsz, ?_⟩
  rw [hl]
  unfold Lib.bytesCells
  rw [Array.toList_append, List.take_left' (by simp), Array.toList_map]
  unfold vals bys
  rw [List.map_map]
  rfl

theorem append_ob {P : Program} {base : Nat} (X : World) {ops : Array Oper} {rest : List Oper} {o : Oper} {a : Act} {Q : Exit → Act → World → Prop}
    (hg : o.guard = none) (s x : Operand) (t : TypeId) (hop : o.op = Op.call { callee := Callee.builtin Builtin.append, args := #[s, x], argTypes := #[t, t] })
    (i : TypeInfo) (h1 : P.underlying t = some (.slice 5)) (h2 : P.info? 5 = some i) (h3 : i.zero = some (.int .u8 0)) (h4 : i.size = 1) (h5 : i.bytes = 1)
    (v : Value) (ys : List Nat) (hs : a.eval s = v) (hob : Ob base X v ys) (ad : Addr) (c d : Nat) (hx : a.eval x = .slice (some ad) 1 c) (hc : X.cell? ad = some (.int .u8 (d : Int))) (hn : ys.length ≤ 1000000)
    (h : ∀ v' w', Ob base w' v' (ys ++ [d]) → X.grownBy w' v.ownBlock → (∀ g, v'.ownBlock = some g → v.ownBlock = some g ∨ X.heap.size ≤ g) → wpList P ops Q rest (a.put o.dst v') w') : wpList P ops Q (o :: rest) a X := by
  obtain ⟨g, cap, cur, fz, rfl, hg1, hh, hf, hl, hsz, ht⟩ := hob
  have hcell : ∀ j u, (vals .u8 ys)[j]? = some u → X.cell? ⟨g, 0 + j, none⟩ = some u := by
    intro j u hj
    have hjl : j < ys.length := by
      rcases Nat.lt_or_ge j ys.length with q | q
      · exact q
      · rw [List.getElem?_eq_none (by simpa [vals] using q)] at hj; cases hj
    have : cur[j]? = (vals .u8 ys)[j]? := by rw [← ht, List.getElem?_take_of_lt hjl, Array.getElem?_toList]
    simp only [World.cell?, hh, Option.isSome_none, Bool.false_eq_true, if_false, Nat.zero_add, this, hj]
  have vl : (vals .u8 (ys ++ [d])) = vals .u8 ys ++ [.int .u8 (d : Int)] := by simp [vals]
  have hlt := lt_of_block hh
  refine wpList_append_arg X hg s x t hop 5 i (.int .u8 0) 1 1 h1 h2 h3 h4 h5 rfl (by decide) g 0 ys.length cap (vals .u8 ys) hs (by simp [vals]) hcell ad 1 c [.int .u8 (d : Int)] hx rfl ?_ ?_ ?_ ?_ ?_ ?_ ?_
  · intro j u hj
    match j, hj with
    | 0, hj =>
      simp only [List.getElem?_cons_zero, Option.some.injEq] at hj
      subst hj
      have e : ad.add 0 = ad := by unfold Addr.add; simp
      rw [e]; exact hc
  · intro u hu
    simp only [List.mem_singleton] at hu
    subst hu
    rfl
  · intro hr j hj
    have : j = 0 := by simpa using hj
    subst this
    have hi : 0 + ys.length * 1 + 0 = ys.length := by omega
    rw [hi]
    constructor
    · simp only [World.cell?, hh, Option.isSome_none, Bool.false_eq_true, if_false]
      simp; omega
    · simp only [World.frozen?, hh]
      rcases hf with rfl | hf
      · simp
      · simp; omega
  · unfold maxLen; omega
  · omega
  · intro hr
    have hi : 0 + ys.length * 1 = ys.length := by omega
    rw [hi]
    refine h _ _ ⟨g, cap, cur.set! ys.length (.int .u8 (d : Int)), fz, ?_, hg1, ?_, hf, ?_, ?_, ?_⟩ ?_ ?_
    · rw [List.length_append]; rfl
    · simp only [World.setCells, World.setCell, Array.getElem?_modify, if_true, hh, Option.map_some]
      rfl
    · rw [List.length_append]; exact hr
    · simp [hsz]
    · rw [vl, List.length_append]
      simp only [List.length_singleton, Array.set!_eq_setIfInBounds, Array.toList_setIfInBounds]
      rw [List.take_add_one, List.take_set_of_le (Nat.le_refl _), ht]
      congr 1
      rw [List.getElem?_set_self (by simp; omega)]
      rfl
    · refine ⟨rfl, rfl, rfl, ?_, fun k hk hne => ?_⟩
      · simp [World.setCells, World.setCell]
      · simp only [World.setCells, World.setCell, Array.getElem?_modify]
        rw [if_neg (fun e => hne (by simp [Value.ownBlock, e]))]
    · intro k hk
      exact .inl hk
  · intro hr v' w' ho hgr
    obtain ⟨_, ho⟩ := ho
    rcases ho with ⟨_, h0⟩ | ⟨g', cap', cur', rfl, hg', hh', hn', _, hs', ht'⟩
    · omega
    · refine h _ _ ⟨g', cap', cur', (0, 0), by rw [List.length_append]; rfl, by omega, hh', .inl rfl, by rw [List.length_append]; exact hn', by omega, by rw [vl, List.length_append]; simpa using ht'⟩ ⟨hgr.os, hgr.tape, hgr.output, hgr.size, fun k hk _ => hgr.block k hk (by simp)⟩ ?_
      intro k hk
      simp only [Value.ownBlock, Option.some.injEq] at hk
      subst hk
      exact .inr hg'

end Go.Proofs.YtobloamnaemfnaaDoor

namespace Go.Proofs.YtobloamnaemfnaaDoor
open Go.RowKit

set_option maxHeartbeats 1000000 in
theorem rnum_0 (m : Int) (w : World) : Calls Tryd.prog 19 #[.string ⟨#[48]⟩, .int .i64 m] w fun e w' => e = .returned (.bool true) ∧ Below w.heap.size w w' := by
  go_enter Tryd.func19, Tryd.ntmps19
  go_wp2
  go_ret
  exact ⟨rfl, Below.refl _ _⟩

set_option maxHeartbeats 1000000 in
theorem rnum_x (s : ByteArray) (n : Nat) (m : Int) (w : World) (hs : s.size ≤ 281474976710656) (hz : bys s ≠ [48]) (hn : n < s.size) (hd : ∀ k, k < n → 48 ≤ byt (bys s) k ∧ byt (bys s) k ≤ 57) (hx : ¬ (48 ≤ byt (bys s) n ∧ byt (bys s) n ≤ 57)) : Calls Tryd.prog 19 #[.string s, .int .i64 m] w fun e w' => e = .returned (.bool false) ∧ Below w.heap.size w w' := by
  have HD : Hid (∀ k, k < n → (48 ≤ byt (bys s) k ∧ byt (bys s) k ≤ 57) ∧ ∀ h : k < s.size, s[k].toNat = byt (bys s) k) := fun k hk => ⟨hd k (by first | exact hk | (rw [bys_len]; omega)), fun h => byt_get s k h⟩
  have hq := ne_nought hz
  clear hd hz
  go_enter Tryd.func19, Tryd.ntmps19
  go_wp2
  go_loopw [5] (fun i wr => ∃ k : Nat, k ≤ n ∧ i = .int .i64 (k : Int) ∧ wr = w) (fun i _ => n - (intOf i).toNat)
  case atStart => exact ⟨0, Nat.zero_le _, rfl, rfl⟩
  case round =>
    obtain ⟨k, hk, rfl, hw⟩ := hrel
    replace hw := hw.symm
    subst hw
    by_cases hlt : k < n
    · have hlt' : (k : Int) < (s.size : Int) := by omega
      have hks : k < s.size := by omega
      obtain ⟨hb, hg⟩ := HD.out k hlt
      obtain ⟨b, hbb⟩ : ∃ b, b = byt (bys s) k := ⟨_, rfl⟩
      rw [← hbb] at hg hb
      have h1' : ¬ (b : Int) < 48 := by omega
      have h2' : ¬ 57 < (b : Int) := by omega
      have h3' : decide ((b : Int) < 48) = false := decide_eq_false h1'
      have h4' : decide (57 < (b : Int)) = false := decide_eq_false h2'
      clear hbb HD
      go_wp2
      exact ⟨⟨k + 1, by omega, by go_num, trivial⟩, by simp [intOf]; omega⟩
    · obtain rfl : k = n := by omega
      have hlt' : (k : Int) < (s.size : Int) := by omega
      have hg : ∀ h : k < s.size, s[k].toNat = byt (bys s) k := fun h => byt_get s k h
      obtain ⟨b, hbb⟩ : ∃ b, b = byt (bys s) k := ⟨_, rfl⟩
      rw [← hbb] at hg hx
      clear hbb HD hlt hk
      by_cases h1 : (b : Int) < 48
      · have h3' : decide ((b : Int) < 48) = true := decide_eq_true h1
        go_wp2
        go_ret
        exact ⟨rfl, Below.refl _ _⟩
      · have h3' : decide ((b : Int) < 48) = false := decide_eq_false h1
        have h2 : 57 < (b : Int) := by omega
        have h4' : decide (57 < (b : Int)) = true := decide_eq_true h2
        go_wp2
        go_ret
        exact ⟨rfl, Below.refl _ _⟩

set_option maxHeartbeats 1000000 in
theorem rnum_e (m : Int) (w : World) : Calls Tryd.prog 19 #[.string ⟨#[]⟩, .int .i64 m] w fun e w' => e = .returned (.bool false) ∧ Below w.heap.size w w' := by
  go_enter Tryd.func19, Tryd.ntmps19
  go_wp2
  go_loopw [5] (fun i wr => i = .int .i64 0 ∧ wr = w) (fun _ _ => 0)
  case atStart => exact ⟨rfl, rfl⟩
  case round =>
    obtain ⟨rfl, hw⟩ := hrel
    replace hw := hw.symm
    subst hw
    go_wp2
    go_ret
    exact ⟨rfl, Below.refl _ _⟩

set_option maxHeartbeats 1000000 in
theorem rnum_z (s : ByteArray) (m : Int) (w : World) (hs : s.size ≤ 281474976710656) (hz : bys s ≠ [48]) (h0 : s.size ≠ 0) (hd : DigB (bys s)) (hx : byt (bys s) 0 = 48) : Calls Tryd.prog 19 #[.string s, .int .i64 m] w fun e w' => e = .returned (.bool false) ∧ Below w.heap.size w w' := by
  have HD : Hid (∀ k, k < s.size → (48 ≤ byt (bys s) k ∧ byt (bys s) k ≤ 57) ∧ ∀ h : k < s.size, s[k].toNat = byt (bys s) k) := fun k hk => ⟨hd k (by first | exact hk | (rw [bys_len]; omega)), fun h => byt_get s k h⟩
  have hq := ne_nought hz
  clear hd hz
  have hn := toList_ne h0
  go_enter Tryd.func19, Tryd.ntmps19
  go_wp2
  go_loopw [5] (fun i wr => ∃ k : Nat, k ≤ s.size ∧ i = .int .i64 (k : Int) ∧ wr = w) (fun i _ => s.size - (intOf i).toNat)
  case atStart => exact ⟨0, Nat.zero_le _, rfl, rfl⟩
  case round =>
    obtain ⟨k, hk, rfl, hw⟩ := hrel
    replace hw := hw.symm
    subst hw
    by_cases hlt : k < s.size
    · have hlt' : (k : Int) < (s.size : Int) := by omega
      have hks : k < s.size := by omega
      obtain ⟨hb, hg⟩ := HD.out k hlt
      obtain ⟨b, hbb⟩ : ∃ b, b = byt (bys s) k := ⟨_, rfl⟩
      rw [← hbb] at hg hb
      have h1' : ¬ (b : Int) < 48 := by omega
      have h2' : ¬ 57 < (b : Int) := by omega
      have h3' : decide ((b : Int) < 48) = false := decide_eq_false h1'
      have h4' : decide (57 < (b : Int)) = false := decide_eq_false h2'
      clear hbb HD
      go_wp2
      exact ⟨⟨k + 1, by omega, by go_num, trivial⟩, by simp [intOf]; omega⟩
    · have hlt' : ¬ (k : Int) < (s.size : Int) := by omega
      have hp : (0 : Int) < (s.size : Int) := by omega
      have hp' : 0 < s.size := by omega
      have hg : ∀ h : 0 < s.size, s[0].toNat = 48 := fun h => (byt_get s 0 h).trans hx
      clear HD hlt hk
      go_wp2
      go_ret
      exact ⟨rfl, Below.refl _ _⟩

set_option maxHeartbeats 1000000 in
theorem rnum_t (s : ByteArray) (m : Int) (w : World) (hs : s.size ≤ 281474976710656) (hz : bys s ≠ [48]) (h0 : s.size ≠ 0) (hd : DigB (bys s)) (hx : byt (bys s) 0 ≠ 48) (hm : (s.size : Int) ≤ m) : Calls Tryd.prog 19 #[.string s, .int .i64 m] w fun e w' => e = .returned (.bool true) ∧ Below w.heap.size w w' := by
  have HD : Hid (∀ k, k < s.size → (48 ≤ byt (bys s) k ∧ byt (bys s) k ≤ 57) ∧ ∀ h : k < s.size, s[k].toNat = byt (bys s) k) := fun k hk => ⟨hd k (by first | exact hk | (rw [bys_len]; omega)), fun h => byt_get s k h⟩
  have hq := ne_nought hz
  clear hd hz
  have hn := toList_ne h0
  have h5' : decide ((s.size : Int) ≤ m) = true := decide_eq_true hm
  clear hm
  go_enter Tryd.func19, Tryd.ntmps19
  go_wp2
  go_loopw [5] (fun i wr => ∃ k : Nat, k ≤ s.size ∧ i = .int .i64 (k : Int) ∧ wr = w) (fun i _ => s.size - (intOf i).toNat)
  case atStart => exact ⟨0, Nat.zero_le _, rfl, rfl⟩
  case round =>
    obtain ⟨k, hk, rfl, hw⟩ := hrel
    replace hw := hw.symm
    subst hw
    by_cases hlt : k < s.size
    · have hlt' : (k : Int) < (s.size : Int) := by omega
      have hks : k < s.size := by omega
      obtain ⟨hb, hg⟩ := HD.out k hlt
      obtain ⟨b, hbb⟩ : ∃ b, b = byt (bys s) k := ⟨_, rfl⟩
      rw [← hbb] at hg hb
      have h1' : ¬ (b : Int) < 48 := by omega
      have h2' : ¬ 57 < (b : Int) := by omega
      have h3' : decide ((b : Int) < 48) = false := decide_eq_false h1'
      have h4' : decide (57 < (b : Int)) = false := decide_eq_false h2'
      clear hbb HD
      go_wp2
      exact ⟨⟨k + 1, by omega, by go_num, trivial⟩, by simp [intOf]; omega⟩
    · have hlt' : ¬ (k : Int) < (s.size : Int) := by omega
      have hp : (0 : Int) < (s.size : Int) := by omega
      have hp' : 0 < s.size := by omega
      have hg : ∀ h : 0 < s.size, s[0].toNat = byt (bys s) 0 := fun h => byt_get s 0 h
      obtain ⟨b, hbb⟩ : ∃ b, b = byt (bys s) 0 := ⟨_, rfl⟩
      rw [← hbb] at hg hx
      have hne : ¬ (b : Int) = 48 := by omega
      have HN2 := hide (show ((b : Int) != 48) = true from bne_iff_ne.2 hne)
      clear hbb hx
      clear HD hlt hk
      go_wp2
      go_ret
      exact ⟨by first | rfl | exact congrArg (fun b => Ending.returned (Value.bool b)) (by simp [hne]) | (simp [hne]; done) | (simp; done), Below.refl _ _⟩

set_option maxHeartbeats 1000000 in
theorem rnum_l (s : ByteArray) (m : Int) (w : World) (hs : s.size ≤ 281474976710656) (hz : bys s ≠ [48]) (h0 : s.size ≠ 0) (hd : DigB (bys s)) (hx : byt (bys s) 0 ≠ 48) (hm : ¬ (s.size : Int) ≤ m) : Calls Tryd.prog 19 #[.string s, .int .i64 m] w fun e w' => e = .returned (.bool false) ∧ Below w.heap.size w w' := by
  have HD : Hid (∀ k, k < s.size → (48 ≤ byt (bys s) k ∧ byt (bys s) k ≤ 57) ∧ ∀ h : k < s.size, s[k].toNat = byt (bys s) k) := fun k hk => ⟨hd k (by first | exact hk | (rw [bys_len]; omega)), fun h => byt_get s k h⟩
  have hq := ne_nought hz
  clear hd hz
  have hn := toList_ne h0
  have h5' : decide ((s.size : Int) ≤ m) = false := decide_eq_false hm
  clear hm
  go_enter Tryd.func19, Tryd.ntmps19
  go_wp2
  go_loopw [5] (fun i wr => ∃ k : Nat, k ≤ s.size ∧ i = .int .i64 (k : Int) ∧ wr = w) (fun i _ => s.size - (intOf i).toNat)
  case atStart => exact ⟨0, Nat.zero_le _, rfl, rfl⟩
  case round =>
    obtain ⟨k, hk, rfl, hw⟩ := hrel
    replace hw := hw.symm
    subst hw
    by_cases hlt : k < s.size
    · have hlt' : (k : Int) < (s.size : Int) := by omega
      have hks : k < s.size := by omega
      obtain ⟨hb, hg⟩ := HD.out k hlt
      obtain ⟨b, hbb⟩ : ∃ b, b = byt (bys s) k := ⟨_, rfl⟩
      rw [← hbb] at hg hb
      have h1' : ¬ (b : Int) < 48 := by omega
      have h2' : ¬ 57 < (b : Int) := by omega
      have h3' : decide ((b : Int) < 48) = false := decide_eq_false h1'
      have h4' : decide (57 < (b : Int)) = false := decide_eq_false h2'
      clear hbb HD
      go_wp2
      exact ⟨⟨k + 1, by omega, by go_num, trivial⟩, by simp [intOf]; omega⟩
    · have hlt' : ¬ (k : Int) < (s.size : Int) := by omega
      have hp : (0 : Int) < (s.size : Int) := by omega
      have hp' : 0 < s.size := by omega
      have hg : ∀ h : 0 < s.size, s[0].toNat = byt (bys s) 0 := fun h => byt_get s 0 h
      obtain ⟨b, hbb⟩ : ∃ b, b = byt (bys s) 0 := ⟨_, rfl⟩
      rw [← hbb] at hg hx
      have hne : ¬ (b : Int) = 48 := by omega
      have HN2 := hide (show ((b : Int) != 48) = true from bne_iff_ne.2 hne)
      clear hbb hx
      clear HD hlt hk
      go_wp2
      go_ret
      exact ⟨by first | rfl | exact congrArg (fun b => Ending.returned (Value.bool b)) (by simp) | (simp [hne]; done) | (simp; done), Below.refl _ _⟩

theorem rnum_T (s : ByteArray) (m : Int) (w : World) (hs : s.size ≤ 281474976710656) (h : NumT (bys s) m) : Calls Tryd.prog 19 #[.string s, .int .i64 m] w fun e w' => e = .returned (.bool true) ∧ Below w.heap.size w w' := by
  rcases h with h | ⟨h1, h2, h3, h4⟩
  · obtain rfl : s = ⟨#[48]⟩ := by rw [← mk_bys s, h]
    exact rnum_0 m w
  · rw [bys_len] at h2
    exact rnum_t s m w hs (fun g => h3 (by rw [g]; rfl)) (fun g => h1 (bys_nil.2 g)) h4 h3 h2

theorem rnum_F (s : ByteArray) (m : Int) (w : World) (hs : s.size ≤ 281474976710656) (h : ¬ NumT (bys s) m) : Calls Tryd.prog 19 #[.string s, .int .i64 m] w fun e w' => e = .returned (.bool false) ∧ Below w.heap.size w w' := by
  have hz : bys s ≠ [48] := fun g => h (.inl g)
  by_cases h0 : bys s = []
  · obtain rfl : s = ⟨#[]⟩ := size_nil (bys_nil.1 h0)
    exact rnum_e m w
  have h0' : s.size ≠ 0 := fun g => h0 (bys_nil.2 g)
  by_cases hd : DigB (bys s)
  · by_cases h2 : byt (bys s) 0 = 48
    · exact rnum_z s m w hs hz h0' hd h2
    · exact rnum_l s m w hs hz h0' hd h2 (fun g => h (.inr ⟨h0, by rw [bys_len]; exact g, h2, hd⟩))
  · have hlt : (dgs (bys s)).length < (bys s).length := by
      have h1 := dgs_len (bys s)
      rcases Nat.lt_or_ge (dgs (bys s)).length (bys s).length with g | g
      · exact g
      · exfalso
        apply hd
        have h2 := dgs_take (bys s)
        rw [show (dgs (bys s)).length = (bys s).length by omega, List.take_length] at h2
        rw [h2]
        exact dgs_digB _
    exact rnum_x s (dgs (bys s)).length m w hs hz (by rw [bys_len] at hlt; exact hlt) (fun k hk => dgs_at (bys s) hk) (dgs_stop (bys s) hlt)

end Go.Proofs.YtobloamnaemfnaaDoor

namespace Go.Proofs.YtobloamnaemfnaaDoor
open Go.RowKit

theorem str_of (l : List UInt8) : strOfNums ((l.map UInt8.toNat).map fun (x : Nat) => (x : Int)) = ⟨l.toArray⟩ := by
  apply ByteArray.ext
  apply Array.toList_inj.1
  rw [strOfNums_data, List.map_map, List.map_map]
  show _ = l
  conv => rhs; rw [← List.map_id l]
  apply List.map_congr_left
  intro x _
  simp

theorem Tryd.infoBy : (Tryd.prog.info? 5).map (fun i => (i.zero, i.size, i.bytes)) = some (some (.int .u8 0), 1, 1) := by kernel_rfl

theorem conv_ob {base : Nat} {X : World} {v : Value} {l : List UInt8} (h : Ob base X v (l.map UInt8.toNat)) : (convert 46 9 v).run Tryd.prog X = .ok (.string ⟨l.toArray⟩) X := by
  obtain ⟨g, cap, cur, fz, rfl, hr⟩ := id h
  obtain ⟨_, _, _, _, hc⟩ := h.cells
  have kc := run_convert_bytes_arg (P := Tryd.prog) X 46 5 Tryd.underlying46 Tryd.underlying5 g 0 (l.map UInt8.toNat).length cap ((l.map UInt8.toNat).map fun (x : Nat) => (x : Int)) (by rw [List.length_map]) (fun i hi => by
    rw [Nat.zero_add, hc i hi]
    have : i < l.length := by simpa using hi
    simp [List.getD, this]) 9 Tryd.underlying9
  rw [str_of] at kc
  exact kc

theorem conv_by (s : ByteArray) : ∀ X : World, (convert 9 46 (.string s)).run Tryd.prog X = .ok (.slice (some ⟨X.heap.size, 0, none⟩) s.size (grownCap X s.size 0 5)) (Lib.bytesWorld X 5 s) := fun X =>
  Lib.run_convert_string_bytes (P := Tryd.prog) X 9 46 5 s Tryd.underlying9 Tryd.underlying46 Tryd.underlying5

set_option maxHeartbeats 2000000 in
theorem rmo_0 (i : ByteArray) (v z : Int) (f t : ByteArray) (e : Int) (w : World)  (k0 : v < 0) : Calls Tryd.prog 9 #[opV i v z f t e] w fun e w' => e = .returned (.bool false) ∧ Below w.heap.size w w' := by
  have g0 : decide (v < 0) = true := decide_eq_true k0
  clear k0
  have Bs0 := hide (Blk.newAt w (w.heap.size) (rfl) #[.string i, .int .i64 v, .int .i64 z, .string f, .string t, .int .i64 e] 23)
  have HB0 : Hid (Below w.heap.size w (w.alloc (.cells #[.string i, .int .i64 v, .int .i64 z, .string f, .string t, .int .i64 e] 23))) := ((Below.refl _ _).alloc (Nat.le_refl _) _)
  go_enter Tryd.func9, Tryd.ntmps9
  go_wp2
  go_ret
  exact ⟨rfl, HB0.out⟩

set_option maxHeartbeats 2000000 in
theorem rmo_1 (i : ByteArray) (v z : Int) (f t : ByteArray) (e : Int) (w : World) (k0 : ¬ v < 0) (k1 : 8192 < v) : Calls Tryd.prog 9 #[opV i v z f t e] w fun e w' => e = .returned (.bool false) ∧ Below w.heap.size w w' := by
  have g0 : decide (v < 0) = false := decide_eq_false (by omega)
  have g1 : decide (8192 < v) = true := decide_eq_true k1
  clear k0 k1
  have Bs0 := hide (Blk.newAt w (w.heap.size) (rfl) #[.string i, .int .i64 v, .int .i64 z, .string f, .string t, .int .i64 e] 23)
  have HB0 : Hid (Below w.heap.size w (w.alloc (.cells #[.string i, .int .i64 v, .int .i64 z, .string f, .string t, .int .i64 e] 23))) := ((Below.refl _ _).alloc (Nat.le_refl _) _)
  go_enter Tryd.func9, Tryd.ntmps9
  go_wp2
  go_ret
  exact ⟨rfl, HB0.out⟩

set_option maxHeartbeats 2000000 in
theorem rmo_2 (i : ByteArray) (v z : Int) (f t : ByteArray) (e : Int) (w : World) (k0 : ¬ v < 0) (k1 : ¬ 8192 < v) (k2 : z < 0) : Calls Tryd.prog 9 #[opV i v z f t e] w fun e w' => e = .returned (.bool false) ∧ Below w.heap.size w w' := by
  have g0 : decide (v < 0) = false := decide_eq_false (by omega)
  have g1 : decide (8192 < v) = false := decide_eq_false (by omega)
  have g2 : decide (z < 0) = true := decide_eq_true k2
  clear k0 k1 k2
  have Bs0 := hide (Blk.newAt w (w.heap.size) (rfl) #[.string i, .int .i64 v, .int .i64 z, .string f, .string t, .int .i64 e] 23)
  have HB0 : Hid (Below w.heap.size w (w.alloc (.cells #[.string i, .int .i64 v, .int .i64 z, .string f, .string t, .int .i64 e] 23))) := ((Below.refl _ _).alloc (Nat.le_refl _) _)
  go_enter Tryd.func9, Tryd.ntmps9
  go_wp2
  go_ret
  exact ⟨rfl, HB0.out⟩

set_option maxHeartbeats 2000000 in
theorem rmo_3 (i : ByteArray) (v z : Int) (f t : ByteArray) (e : Int) (w : World) (k0 : ¬ v < 0) (k1 : ¬ 8192 < v) (k2 : ¬ z < 0) (k3 : v < z) : Calls Tryd.prog 9 #[opV i v z f t e] w fun e w' => e = .returned (.bool false) ∧ Below w.heap.size w w' := by
  have g0 : decide (v < 0) = false := decide_eq_false (by omega)
  have g1 : decide (8192 < v) = false := decide_eq_false (by omega)
  have g2 : decide (z < 0) = false := decide_eq_false (by omega)
  have g3 : decide (v < z) = true := decide_eq_true k3
  clear k0 k1 k2 k3
  have Bs0 := hide (Blk.newAt w (w.heap.size) (rfl) #[.string i, .int .i64 v, .int .i64 z, .string f, .string t, .int .i64 e] 23)
  have HB0 : Hid (Below w.heap.size w (w.alloc (.cells #[.string i, .int .i64 v, .int .i64 z, .string f, .string t, .int .i64 e] 23))) := ((Below.refl _ _).alloc (Nat.le_refl _) _)
  go_enter Tryd.func9, Tryd.ntmps9
  go_wp2
  go_ret
  exact ⟨rfl, HB0.out⟩

set_option maxHeartbeats 2000000 in
theorem rmo_4 (i : ByteArray) (v z : Int) (f t : ByteArray) (e : Int) (w : World) (k0 : ¬ v < 0) (k1 : ¬ 8192 < v) (k2 : ¬ z < 0) (k3 : ¬ v < z) (k4 : e < 0) : Calls Tryd.prog 9 #[opV i v z f t e] w fun e w' => e = .returned (.bool false) ∧ Below w.heap.size w w' := by
  have g0 : decide (v < 0) = false := decide_eq_false (by omega)
  have g1 : decide (8192 < v) = false := decide_eq_false (by omega)
  have g2 : decide (z < 0) = false := decide_eq_false (by omega)
  have g3 : decide (v < z) = false := decide_eq_false (by omega)
  have g4 : decide (e < 0) = true := decide_eq_true k4
  clear k0 k1 k2 k3 k4
  have Bs0 := hide (Blk.newAt w (w.heap.size) (rfl) #[.string i, .int .i64 v, .int .i64 z, .string f, .string t, .int .i64 e] 23)
  have HB0 : Hid (Below w.heap.size w (w.alloc (.cells #[.string i, .int .i64 v, .int .i64 z, .string f, .string t, .int .i64 e] 23))) := ((Below.refl _ _).alloc (Nat.le_refl _) _)
  go_enter Tryd.func9, Tryd.ntmps9
  go_wp2
  go_ret
  exact ⟨rfl, HB0.out⟩

set_option maxHeartbeats 2000000 in
theorem rmo_5 (i : ByteArray) (v z : Int) (f t : ByteArray) (e : Int) (w : World) (k0 : ¬ v < 0) (k1 : ¬ 8192 < v) (k2 : ¬ z < 0) (k3 : ¬ v < z) (k4 : ¬ e < 0) (k5 : 8192 < e) : Calls Tryd.prog 9 #[opV i v z f t e] w fun e w' => e = .returned (.bool false) ∧ Below w.heap.size w w' := by
  have g0 : decide (v < 0) = false := decide_eq_false (by omega)
  have g1 : decide (8192 < v) = false := decide_eq_false (by omega)
  have g2 : decide (z < 0) = false := decide_eq_false (by omega)
  have g3 : decide (v < z) = false := decide_eq_false (by omega)
  have g4 : decide (e < 0) = false := decide_eq_false (by omega)
  have g5 : decide (8192 < e) = true := decide_eq_true k5
  clear k0 k1 k2 k3 k4 k5
  have Bs0 := hide (Blk.newAt w (w.heap.size) (rfl) #[.string i, .int .i64 v, .int .i64 z, .string f, .string t, .int .i64 e] 23)
  have HB0 : Hid (Below w.heap.size w (w.alloc (.cells #[.string i, .int .i64 v, .int .i64 z, .string f, .string t, .int .i64 e] 23))) := ((Below.refl _ _).alloc (Nat.le_refl _) _)
  go_enter Tryd.func9, Tryd.ntmps9
  go_wp2
  go_ret
  exact ⟨rfl, HB0.out⟩

set_option maxRecDepth 100000 in
set_option maxHeartbeats 4000000 in
theorem rmo_ni (i : ByteArray) (v z : Int) (f t : ByteArray) (e : Int) (w : World) (k0 : ¬ v < 0) (k1 : ¬ 8192 < v) (k2 : ¬ z < 0) (k3 : ¬ v < z) (k4 : ¬ e < 0) (k5 : ¬ 8192 < e) (b1 : (i : ByteArray).size ≤ 281474976710656) (n0 : ¬ NumT (bys i) 8192)  : Calls Tryd.prog 9 #[opV i v z f t e] w fun e w' => e = .returned (.bool false) ∧ Below w.heap.size w w' := by
  have g0 : decide (v < 0) = false := decide_eq_false (by omega)
  have g1 : decide (8192 < v) = false := decide_eq_false (by omega)
  have g2 : decide (z < 0) = false := decide_eq_false (by omega)
  have g3 : decide (v < z) = false := decide_eq_false (by omega)
  have g4 : decide (e < 0) = false := decide_eq_false (by omega)
  have g5 : decide (8192 < e) = false := decide_eq_false (by omega)
  have K0 := hide (fun W => rnum_F i 8192 W b1 n0)
  clear n0 k0 k1 k2 k3 k4 k5
  have Bs0 := hide (Blk.newAt w (w.heap.size) (rfl) #[.string i, .int .i64 v, .int .i64 z, .string f, .string t, .int .i64 e] 23)
  have HB0 : Hid (Below w.heap.size w (w.alloc (.cells #[.string i, .int .i64 v, .int .i64 z, .string f, .string t, .int .i64 e] 23))) := ((Below.refl _ _).alloc (Nat.le_refl _) _)
  go_enter Tryd.func9, Tryd.ntmps9
  go_wp2_with fail
  refine (K0.out _).mono ?_
  rintro e w1 ⟨rfl, hb⟩
  have Bs1 := Blk.on Bs0 hb
  have HB1 := hide (HB0.out.trans (hb.mono HB0.out.size))
  clear hb Bs0 HB0 
  obtain ⟨ys0, ys1, ys2, ys3, ys4, ys5⟩ := Bs1.out.six
  go_wp2
  go_ret
  exact ⟨rfl, HB1.out⟩

set_option maxRecDepth 100000 in
set_option maxHeartbeats 4000000 in
theorem rmo_nf (i : ByteArray) (v z : Int) (f t : ByteArray) (e : Int) (w : World) (k0 : ¬ v < 0) (k1 : ¬ 8192 < v) (k2 : ¬ z < 0) (k3 : ¬ v < z) (k4 : ¬ e < 0) (k5 : ¬ 8192 < e) (b1 : (i : ByteArray).size ≤ 281474976710656) (n0 : NumT (bys i) 8192) (b2 : (f : ByteArray).size ≤ 281474976710656) (n1 : ¬ NumT (bys f) v)  : Calls Tryd.prog 9 #[opV i v z f t e] w fun e w' => e = .returned (.bool false) ∧ Below w.heap.size w w' := by
  have g0 : decide (v < 0) = false := decide_eq_false (by omega)
  have g1 : decide (8192 < v) = false := decide_eq_false (by omega)
  have g2 : decide (z < 0) = false := decide_eq_false (by omega)
  have g3 : decide (v < z) = false := decide_eq_false (by omega)
  have g4 : decide (e < 0) = false := decide_eq_false (by omega)
  have g5 : decide (8192 < e) = false := decide_eq_false (by omega)
  have K0 := hide (fun W => rnum_T i 8192 W b1 n0)
  have K1 := hide (fun W => rnum_F f v W b2 n1)
  clear n0 n1 k0 k1 k2 k3 k4 k5
  have Bs0 := hide (Blk.newAt w (w.heap.size) (rfl) #[.string i, .int .i64 v, .int .i64 z, .string f, .string t, .int .i64 e] 23)
  have HB0 : Hid (Below w.heap.size w (w.alloc (.cells #[.string i, .int .i64 v, .int .i64 z, .string f, .string t, .int .i64 e] 23))) := ((Below.refl _ _).alloc (Nat.le_refl _) _)
  go_enter Tryd.func9, Tryd.ntmps9
  go_wp2_with fail
  refine (K0.out _).mono ?_
  rintro e w1 ⟨rfl, hb⟩
  have Bs1 := Blk.on Bs0 hb
  have HB1 := hide (HB0.out.trans (hb.mono HB0.out.size))
  clear hb Bs0 HB0 
  obtain ⟨ys0, ys1, ys2, ys3, ys4, ys5⟩ := Bs1.out.six
  go_wp2_with fail
  refine (K1.out _).mono ?_
  rintro e w2 ⟨rfl, hb⟩
  have Bs2 := Blk.on Bs1 hb
  have HB2 := hide (HB1.out.trans (hb.mono HB1.out.size))
  clear hb Bs1 HB1 ys0 ys1 ys2 ys3 ys4 ys5
  obtain ⟨ys0, ys1, ys2, ys3, ys4, ys5⟩ := Bs2.out.six
  go_wp2
  go_ret
  exact ⟨rfl, HB2.out⟩

set_option maxRecDepth 100000 in
set_option maxHeartbeats 4000000 in
theorem rmo_nt (i : ByteArray) (v z : Int) (f t : ByteArray) (e : Int) (w : World) (k0 : ¬ v < 0) (k1 : ¬ 8192 < v) (k2 : ¬ z < 0) (k3 : ¬ v < z) (k4 : ¬ e < 0) (k5 : ¬ 8192 < e) (b1 : (i : ByteArray).size ≤ 281474976710656) (n0 : NumT (bys i) 8192) (b2 : (f : ByteArray).size ≤ 281474976710656) (n1 : NumT (bys f) v) (b3 : (t : ByteArray).size ≤ 281474976710656) (n2 : ¬ NumT (bys t) z)  : Calls Tryd.prog 9 #[opV i v z f t e] w fun e w' => e = .returned (.bool false) ∧ Below w.heap.size w w' := by
  have g0 : decide (v < 0) = false := decide_eq_false (by omega)
  have g1 : decide (8192 < v) = false := decide_eq_false (by omega)
  have g2 : decide (z < 0) = false := decide_eq_false (by omega)
  have g3 : decide (v < z) = false := decide_eq_false (by omega)
  have g4 : decide (e < 0) = false := decide_eq_false (by omega)
  have g5 : decide (8192 < e) = false := decide_eq_false (by omega)
  have K0 := hide (fun W => rnum_T i 8192 W b1 n0)
  have K1 := hide (fun W => rnum_T f v W b2 n1)
  have K2 := hide (fun W => rnum_F t z W b3 n2)
  clear n0 n1 n2 k0 k1 k2 k3 k4 k5
  have Bs0 := hide (Blk.newAt w (w.heap.size) (rfl) #[.string i, .int .i64 v, .int .i64 z, .string f, .string t, .int .i64 e] 23)
  have HB0 : Hid (Below w.heap.size w (w.alloc (.cells #[.string i, .int .i64 v, .int .i64 z, .string f, .string t, .int .i64 e] 23))) := ((Below.refl _ _).alloc (Nat.le_refl _) _)
  go_enter Tryd.func9, Tryd.ntmps9
  go_wp2_with fail
  refine (K0.out _).mono ?_
  rintro e w1 ⟨rfl, hb⟩
  have Bs1 := Blk.on Bs0 hb
  have HB1 := hide (HB0.out.trans (hb.mono HB0.out.size))
  clear hb Bs0 HB0 
  obtain ⟨ys0, ys1, ys2, ys3, ys4, ys5⟩ := Bs1.out.six
  go_wp2_with fail
  refine (K1.out _).mono ?_
  rintro e w2 ⟨rfl, hb⟩
  have Bs2 := Blk.on Bs1 hb
  have HB2 := hide (HB1.out.trans (hb.mono HB1.out.size))
  clear hb Bs1 HB1 ys0 ys1 ys2 ys3 ys4 ys5
  obtain ⟨ys0, ys1, ys2, ys3, ys4, ys5⟩ := Bs2.out.six
  go_wp2_with fail
  refine (K2.out _).mono ?_
  rintro e w3 ⟨rfl, hb⟩
  have Bs3 := Blk.on Bs2 hb
  have HB3 := hide (HB2.out.trans (hb.mono HB2.out.size))
  clear hb Bs2 HB2 ys0 ys1 ys2 ys3 ys4 ys5
  obtain ⟨ys0, ys1, ys2, ys3, ys4, ys5⟩ := Bs3.out.six
  go_wp2
  go_ret
  exact ⟨rfl, HB3.out⟩

set_option maxRecDepth 100000 in
set_option maxHeartbeats 4000000 in
theorem rmo_zt (i : ByteArray) (v z e : Int) (w : World) (k0 : ¬ v < 0) (k1 : ¬ 8192 < v) (k2 : ¬ z < 0) (k3 : ¬ v < z) (k4 : ¬ e < 0) (k5 : ¬ 8192 < e) (b1 : (i : ByteArray).size ≤ 281474976710656) (n0 : NumT (bys i) 8192) (b2 : (⟨#[48]⟩ : ByteArray).size ≤ 281474976710656) (n1 : NumT (bys ⟨#[48]⟩) v) (b3 : (⟨#[48]⟩ : ByteArray).size ≤ 281474976710656) (n2 : NumT (bys ⟨#[48]⟩) z)  : Calls Tryd.prog 9 #[opV i v z ⟨#[48]⟩ ⟨#[48]⟩ e] w fun e w' => e = .returned (.bool true) ∧ Below w.heap.size w w' := by
  have g0 : decide (v < 0) = false := decide_eq_false (by omega)
  have g1 : decide (8192 < v) = false := decide_eq_false (by omega)
  have g2 : decide (z < 0) = false := decide_eq_false (by omega)
  have g3 : decide (v < z) = false := decide_eq_false (by omega)
  have g4 : decide (e < 0) = false := decide_eq_false (by omega)
  have g5 : decide (8192 < e) = false := decide_eq_false (by omega)
  have K0 := hide (fun W => rnum_T i 8192 W b1 n0)
  have K1 := hide (fun W => rnum_T ⟨#[48]⟩ v W b2 n1)
  have K2 := hide (fun W => rnum_T ⟨#[48]⟩ z W b3 n2)
  clear n0 n1 n2 k0 k1 k2 k3 k4 k5
  have Bs0 := hide (Blk.newAt w (w.heap.size) (rfl) #[.string i, .int .i64 v, .int .i64 z, .string ⟨#[48]⟩, .string ⟨#[48]⟩, .int .i64 e] 23)
  have HB0 : Hid (Below w.heap.size w (w.alloc (.cells #[.string i, .int .i64 v, .int .i64 z, .string ⟨#[48]⟩, .string ⟨#[48]⟩, .int .i64 e] 23))) := ((Below.refl _ _).alloc (Nat.le_refl _) _)
  go_enter Tryd.func9, Tryd.ntmps9
  go_wp2_with fail
  refine (K0.out _).mono ?_
  rintro e w1 ⟨rfl, hb⟩
  have Bs1 := Blk.on Bs0 hb
  have HB1 := hide (HB0.out.trans (hb.mono HB0.out.size))
  clear hb Bs0 HB0 
  obtain ⟨ys0, ys1, ys2, ys3, ys4, ys5⟩ := Bs1.out.six
  go_wp2_with fail
  refine (K1.out _).mono ?_
  rintro e w2 ⟨rfl, hb⟩
  have Bs2 := Blk.on Bs1 hb
  have HB2 := hide (HB1.out.trans (hb.mono HB1.out.size))
  clear hb Bs1 HB1 ys0 ys1 ys2 ys3 ys4 ys5
  obtain ⟨ys0, ys1, ys2, ys3, ys4, ys5⟩ := Bs2.out.six
  go_wp2_with fail
  refine (K2.out _).mono ?_
  rintro e w3 ⟨rfl, hb⟩
  have Bs3 := Blk.on Bs2 hb
  have HB3 := hide (HB2.out.trans (hb.mono HB2.out.size))
  clear hb Bs2 HB2 ys0 ys1 ys2 ys3 ys4 ys5
  obtain ⟨ys0, ys1, ys2, ys3, ys4, ys5⟩ := Bs3.out.six
  go_wp2
  go_ret
  exact ⟨rfl, HB3.out⟩

set_option maxRecDepth 100000 in
set_option maxHeartbeats 4000000 in
theorem rmo_zf (i : ByteArray) (v z : Int) (f : ByteArray) (e : Int) (w : World) (k0 : ¬ v < 0) (k1 : ¬ 8192 < v) (k2 : ¬ z < 0) (k3 : ¬ v < z) (k4 : ¬ e < 0) (k5 : ¬ 8192 < e) (b1 : (i : ByteArray).size ≤ 281474976710656) (n0 : NumT (bys i) 8192) (b2 : (f : ByteArray).size ≤ 281474976710656) (n1 : NumT (bys f) v) (b3 : (⟨#[48]⟩ : ByteArray).size ≤ 281474976710656) (n2 : NumT (bys ⟨#[48]⟩) z) (h6 : bys f ≠ [48]) : Calls Tryd.prog 9 #[opV i v z f ⟨#[48]⟩ e] w fun e w' => e = .returned (.bool false) ∧ Below w.heap.size w w' := by
  have g0 : decide (v < 0) = false := decide_eq_false (by omega)
  have g1 : decide (8192 < v) = false := decide_eq_false (by omega)
  have g2 : decide (z < 0) = false := decide_eq_false (by omega)
  have g3 : decide (v < z) = false := decide_eq_false (by omega)
  have g4 : decide (e < 0) = false := decide_eq_false (by omega)
  have g5 : decide (8192 < e) = false := decide_eq_false (by omega)
  have K0 := hide (fun W => rnum_T i 8192 W b1 n0)
  have K1 := hide (fun W => rnum_T f v W b2 n1)
  have K2 := hide (fun W => rnum_T ⟨#[48]⟩ z W b3 n2)
  have hq := ne_nought h6
  clear h6
  clear n0 n1 n2 k0 k1 k2 k3 k4 k5
  have Bs0 := hide (Blk.newAt w (w.heap.size) (rfl) #[.string i, .int .i64 v, .int .i64 z, .string f, .string ⟨#[48]⟩, .int .i64 e] 23)
  have HB0 : Hid (Below w.heap.size w (w.alloc (.cells #[.string i, .int .i64 v, .int .i64 z, .string f, .string ⟨#[48]⟩, .int .i64 e] 23))) := ((Below.refl _ _).alloc (Nat.le_refl _) _)
  go_enter Tryd.func9, Tryd.ntmps9
  go_wp2_with fail
  refine (K0.out _).mono ?_
  rintro e w1 ⟨rfl, hb⟩
  have Bs1 := Blk.on Bs0 hb
  have HB1 := hide (HB0.out.trans (hb.mono HB0.out.size))
  clear hb Bs0 HB0 
  obtain ⟨ys0, ys1, ys2, ys3, ys4, ys5⟩ := Bs1.out.six
  go_wp2_with fail
  refine (K1.out _).mono ?_
  rintro e w2 ⟨rfl, hb⟩
  have Bs2 := Blk.on Bs1 hb
  have HB2 := hide (HB1.out.trans (hb.mono HB1.out.size))
  clear hb Bs1 HB1 ys0 ys1 ys2 ys3 ys4 ys5
  obtain ⟨ys0, ys1, ys2, ys3, ys4, ys5⟩ := Bs2.out.six
  go_wp2_with fail
  refine (K2.out _).mono ?_
  rintro e w3 ⟨rfl, hb⟩
  have Bs3 := Blk.on Bs2 hb
  have HB3 := hide (HB2.out.trans (hb.mono HB2.out.size))
  clear hb Bs2 HB2 ys0 ys1 ys2 ys3 ys4 ys5
  obtain ⟨ys0, ys1, ys2, ys3, ys4, ys5⟩ := Bs3.out.six
  go_wp2
  go_ret
  exact ⟨rfl, HB3.out⟩

set_option maxRecDepth 100000 in
set_option maxHeartbeats 4000000 in
theorem rmo_y (i : ByteArray) (v z : Int) (f t : ByteArray) (e : Int) (w : World) (k0 : ¬ v < 0) (k1 : ¬ 8192 < v) (k2 : ¬ z < 0) (k3 : ¬ v < z) (k4 : ¬ e < 0) (k5 : ¬ 8192 < e) (b1 : (i : ByteArray).size ≤ 281474976710656) (n0 : NumT (bys i) 8192) (b2 : (f : ByteArray).size ≤ 281474976710656) (n1 : NumT (bys f) v) (b3 : (t : ByteArray).size ≤ 281474976710656) (n2 : NumT (bys t) z) (h6 : bys t ≠ [48]) (j2 : Nat) (hj2 : z + (j2 : Int) = v) (hR : f = ⟨(bys t ++ List.replicate j2 48).toArray⟩) : Calls Tryd.prog 9 #[opV i v z f t e] w fun e w' => e = .returned (.bool true) ∧ Below w.heap.size w w' := by
  have g0 : decide (v < 0) = false := decide_eq_false (by omega)
  have g1 : decide (8192 < v) = false := decide_eq_false (by omega)
  have g2 : decide (z < 0) = false := decide_eq_false (by omega)
  have g3 : decide (v < z) = false := decide_eq_false (by omega)
  have g4 : decide (e < 0) = false := decide_eq_false (by omega)
  have g5 : decide (8192 < e) = false := decide_eq_false (by omega)
  have K0 := hide (fun W => rnum_T i 8192 W b1 n0)
  have K1 := hide (fun W => rnum_T f v W b2 n1)
  have K2 := hide (fun W => rnum_T t z W b3 n2)
  have hq := ne_nought h6
  have HR := hide hR
  have vz1 : 0 ≤ z := by omega
  have vz2 : v ≤ 8192 := by omega
  have tz : t.size ≤ 8192 := by have g := (n2.resolve_left h6).2.1; rw [bys_len] at g; omega
  clear h6 hR
  clear n0 n1 n2 k0 k1 k2 k3 k4 k5
  have Bs0 := hide (Blk.newAt w (w.heap.size) (rfl) #[.string i, .int .i64 v, .int .i64 z, .string f, .string t, .int .i64 e] 23)
  have HB0 : Hid (Below w.heap.size w (w.alloc (.cells #[.string i, .int .i64 v, .int .i64 z, .string f, .string t, .int .i64 e] 23))) := ((Below.refl _ _).alloc (Nat.le_refl _) _)
  go_enter Tryd.func9, Tryd.ntmps9
  go_wp2_with fail
  refine (K0.out _).mono ?_
  rintro e w1 ⟨rfl, hb⟩
  have Bs1 := Blk.on Bs0 hb
  have HB1 := hide (HB0.out.trans (hb.mono HB0.out.size))
  clear hb Bs0 HB0 
  obtain ⟨ys0, ys1, ys2, ys3, ys4, ys5⟩ := Bs1.out.six
  go_wp2_with fail
  refine (K1.out _).mono ?_
  rintro e w2 ⟨rfl, hb⟩
  have Bs2 := Blk.on Bs1 hb
  have HB2 := hide (HB1.out.trans (hb.mono HB1.out.size))
  clear hb Bs1 HB1 ys0 ys1 ys2 ys3 ys4 ys5
  obtain ⟨ys0, ys1, ys2, ys3, ys4, ys5⟩ := Bs2.out.six
  go_wp2_with fail
  refine (K2.out _).mono ?_
  rintro e w3 ⟨rfl, hb⟩
  have Bs3 := Blk.on Bs2 hb
  have HB3 := hide (HB2.out.trans (hb.mono HB2.out.size))
  clear hb Bs2 HB2 ys0 ys1 ys2 ys3 ys4 ys5
  obtain ⟨ys0, ys1, ys2, ys3, ys4, ys5⟩ := Bs3.out.six
  have cvt := conv_by t
  go_upto_region 8 with (fail)
  have OB0 : Hid (Ob w3.heap.size (Lib.bytesWorld w3 5 t) (.slice (some ⟨w3.heap.size, 0, none⟩) t.size (grownCap w3 t.size 0 5)) ((bys t ++ List.replicate 0 48).map UInt8.toNat)) := by rw [List.replicate_zero, List.append_nil]; exact Ob.bytes w3 t (Nat.le_refl _)
  have BW0 : Hid (Below w3.heap.size w3 (Lib.bytesWorld w3 5 t)) := bytes_below _ _ _
  obtain ⟨Y, hY⟩ : ∃ Y, Y = Lib.bytesWorld w3 5 t := ⟨_, rfl⟩
  rw [← hY] at OB0 BW0
  simp only [← hY]
  clear hY cvt ys0 ys1 ys2 ys3 ys4 ys5
  have By := hide (Bs3.out.below BW0.out Bs3.out.lt)
  obtain ⟨ys0, ys1, ys2, ys3, ys4, ys5⟩ := By.out.six
  obtain ⟨i0, hi, hz0, hz1, hz2⟩ := info_parts Tryd.infoBy
  go_wp2
  clear ys0 ys1 ys2 ys3 ys4 ys5 By
  go_loopw [3, 4] (fun a b wr => ∃ j : Nat, j ≤ j2 ∧ Hid (Ob w3.heap.size wr a ((bys t ++ List.replicate j 48).map UInt8.toNat)) ∧ b = .int .i64 (z + (j : Int)) ∧ Hid (Below w3.heap.size w3 wr)) (fun _ b _ => (v - intOf b).toNat)
  case atStart => exact ⟨0, Nat.zero_le _, OB0, by simp, BW0⟩
  case round =>
    clear OB0 BW0
    obtain ⟨j, hj, hob, rfl, hbw⟩ := hrel
    have Bq := hide (Bs3.out.below hbw.out Bs3.out.lt)
    obtain ⟨ys0, ys1, ys2, ys3, ys4, ys5⟩ := Bq.out.six
    by_cases hlt : j < j2
    · have g9 : z + (j : Int) < v := by omega
      have HLT := hide (hob.out.lt)
      have e : (bys t ++ List.replicate (j + 1) 48).map UInt8.toNat = (bys t ++ List.replicate j 48).map UInt8.toNat ++ [48] := by rw [List.replicate_succ', ← List.append_assoc, List.map_append]; rfl
      have hl : ((bys t ++ List.replicate j 48).map UInt8.toNat).length ≤ 1000000 := by rw [List.length_map, List.length_append, List.length_replicate, bys_len]; omega
      obtain ⟨ys, hys⟩ : ∃ ys, ys = (bys t ++ List.replicate j 48).map UInt8.toNat := ⟨_, rfl⟩
      rw [← hys] at hob e hl
      have HX := hide (hob.out.below ((Below.refl _ _).alloc (Nat.le_refl _) (Obj.cells #[.int .u8 48] 5)))
      have EY := hide e
      clear e hys
      clear Bq
      go_wp2_with (at_builtin; refine append_ob _ rfl _ _ 46 rfl i0 Tryd.underlying46 hi hz0 hz1 hz2 _ _ rfl HX.out ⟨wr.heap.size, 0, none⟩ 1 48 rfl ?c1 ?c2 ?_)
      try case c1 => first | exact new_cell wr _ _ | simp
      try case c2 => exact hl
      intro v' w1 hob' hgr _
      have hb1 := hbw.out.alloc hbw.out.size (Obj.cells #[.int .u8 48] 5)
      have HB1 := hide (hb1.grown hgr hb1.size (fun q hq => (HLT.out q hq).1))
      have hO1 : Ob w3.heap.size w1 v' ((bys t ++ List.replicate (j + 1) 48).map UInt8.toNat) := by rw [EY.out]; exact hob'
      have HO1 := hide hO1
      clear hO1 EY hl
      clear hob hbw HX HLT hob' hgr hb1 ys0 ys1 ys2 ys3 ys4 ys5
      go_wp2
      go_roundw
      case rel => exact ⟨j + 1, by omega, HO1, by go_num, HB1⟩
      case measure => simp [intOf]; omega
    · obtain rfl : j = j2 := by omega
      have g9 : ¬ z + (j : Int) < v := by omega
      have kc := conv_ob hob.out
      have HBE := hide (HB3.out.trans (hbw.out.mono HB3.out.size))
      have hR := HR.out
      obtain ⟨R, hRR⟩ : ∃ R : ByteArray, R = ⟨(bys t ++ List.replicate j 48).toArray⟩ := ⟨_, rfl⟩
      rw [← hRR] at kc hR
      obtain rfl : f = R := hR
      clear hRR hob hbw Bq hlt hj
      go_wp2
      go_ret
      exact ⟨rfl, HBE.out⟩

set_option maxRecDepth 100000 in
set_option maxHeartbeats 4000000 in
theorem rmo_no (i : ByteArray) (v z : Int) (f t : ByteArray) (e : Int) (w : World) (k0 : ¬ v < 0) (k1 : ¬ 8192 < v) (k2 : ¬ z < 0) (k3 : ¬ v < z) (k4 : ¬ e < 0) (k5 : ¬ 8192 < e) (b1 : (i : ByteArray).size ≤ 281474976710656) (n0 : NumT (bys i) 8192) (b2 : (f : ByteArray).size ≤ 281474976710656) (n1 : NumT (bys f) v) (b3 : (t : ByteArray).size ≤ 281474976710656) (n2 : NumT (bys t) z) (h6 : bys t ≠ [48]) (j2 : Nat) (hj2 : z + (j2 : Int) = v) (hR : bys ⟨(bys t ++ List.replicate j2 48).toArray⟩ ≠ bys f) : Calls Tryd.prog 9 #[opV i v z f t e] w fun e w' => e = .returned (.bool false) ∧ Below w.heap.size w w' := by
  have g0 : decide (v < 0) = false := decide_eq_false (by omega)
  have g1 : decide (8192 < v) = false := decide_eq_false (by omega)
  have g2 : decide (z < 0) = false := decide_eq_false (by omega)
  have g3 : decide (v < z) = false := decide_eq_false (by omega)
  have g4 : decide (e < 0) = false := decide_eq_false (by omega)
  have g5 : decide (8192 < e) = false := decide_eq_false (by omega)
  have K0 := hide (fun W => rnum_T i 8192 W b1 n0)
  have K1 := hide (fun W => rnum_T f v W b2 n1)
  have K2 := hide (fun W => rnum_T t z W b3 n2)
  have hq := ne_nought h6
  have HR := hide hR
  have vz1 : 0 ≤ z := by omega
  have vz2 : v ≤ 8192 := by omega
  have tz : t.size ≤ 8192 := by have g := (n2.resolve_left h6).2.1; rw [bys_len] at g; omega
  clear h6 hR
  clear n0 n1 n2 k0 k1 k2 k3 k4 k5
  have Bs0 := hide (Blk.newAt w (w.heap.size) (rfl) #[.string i, .int .i64 v, .int .i64 z, .string f, .string t, .int .i64 e] 23)
  have HB0 : Hid (Below w.heap.size w (w.alloc (.cells #[.string i, .int .i64 v, .int .i64 z, .string f, .string t, .int .i64 e] 23))) := ((Below.refl _ _).alloc (Nat.le_refl _) _)
  go_enter Tryd.func9, Tryd.ntmps9
  go_wp2_with fail
  refine (K0.out _).mono ?_
  rintro e w1 ⟨rfl, hb⟩
  have Bs1 := Blk.on Bs0 hb
  have HB1 := hide (HB0.out.trans (hb.mono HB0.out.size))
  clear hb Bs0 HB0 
  obtain ⟨ys0, ys1, ys2, ys3, ys4, ys5⟩ := Bs1.out.six
  go_wp2_with fail
  refine (K1.out _).mono ?_
  rintro e w2 ⟨rfl, hb⟩
  have Bs2 := Blk.on Bs1 hb
  have HB2 := hide (HB1.out.trans (hb.mono HB1.out.size))
  clear hb Bs1 HB1 ys0 ys1 ys2 ys3 ys4 ys5
  obtain ⟨ys0, ys1, ys2, ys3, ys4, ys5⟩ := Bs2.out.six
  go_wp2_with fail
  refine (K2.out _).mono ?_
  rintro e w3 ⟨rfl, hb⟩
  have Bs3 := Blk.on Bs2 hb
  have HB3 := hide (HB2.out.trans (hb.mono HB2.out.size))
  clear hb Bs2 HB2 ys0 ys1 ys2 ys3 ys4 ys5
  obtain ⟨ys0, ys1, ys2, ys3, ys4, ys5⟩ := Bs3.out.six
  have cvt := conv_by t
  go_upto_region 8 with (fail)
  have OB0 : Hid (Ob w3.heap.size (Lib.bytesWorld w3 5 t) (.slice (some ⟨w3.heap.size, 0, none⟩) t.size (grownCap w3 t.size 0 5)) ((bys t ++ List.replicate 0 48).map UInt8.toNat)) := by rw [List.replicate_zero, List.append_nil]; exact Ob.bytes w3 t (Nat.le_refl _)
  have BW0 : Hid (Below w3.heap.size w3 (Lib.bytesWorld w3 5 t)) := bytes_below _ _ _
  obtain ⟨Y, hY⟩ : ∃ Y, Y = Lib.bytesWorld w3 5 t := ⟨_, rfl⟩
  rw [← hY] at OB0 BW0
  simp only [← hY]
  clear hY cvt ys0 ys1 ys2 ys3 ys4 ys5
  have By := hide (Bs3.out.below BW0.out Bs3.out.lt)
  obtain ⟨ys0, ys1, ys2, ys3, ys4, ys5⟩ := By.out.six
  obtain ⟨i0, hi, hz0, hz1, hz2⟩ := info_parts Tryd.infoBy
  go_wp2
  clear ys0 ys1 ys2 ys3 ys4 ys5 By
  go_loopw [3, 4] (fun a b wr => ∃ j : Nat, j ≤ j2 ∧ Hid (Ob w3.heap.size wr a ((bys t ++ List.replicate j 48).map UInt8.toNat)) ∧ b = .int .i64 (z + (j : Int)) ∧ Hid (Below w3.heap.size w3 wr)) (fun _ b _ => (v - intOf b).toNat)
  case atStart => exact ⟨0, Nat.zero_le _, OB0, by simp, BW0⟩
  case round =>
    clear OB0 BW0
    obtain ⟨j, hj, hob, rfl, hbw⟩ := hrel
    have Bq := hide (Bs3.out.below hbw.out Bs3.out.lt)
    obtain ⟨ys0, ys1, ys2, ys3, ys4, ys5⟩ := Bq.out.six
    by_cases hlt : j < j2
    · have g9 : z + (j : Int) < v := by omega
      have HLT := hide (hob.out.lt)
      have e : (bys t ++ List.replicate (j + 1) 48).map UInt8.toNat = (bys t ++ List.replicate j 48).map UInt8.toNat ++ [48] := by rw [List.replicate_succ', ← List.append_assoc, List.map_append]; rfl
      have hl : ((bys t ++ List.replicate j 48).map UInt8.toNat).length ≤ 1000000 := by rw [List.length_map, List.length_append, List.length_replicate, bys_len]; omega
      obtain ⟨ys, hys⟩ : ∃ ys, ys = (bys t ++ List.replicate j 48).map UInt8.toNat := ⟨_, rfl⟩
      rw [← hys] at hob e hl
      have HX := hide (hob.out.below ((Below.refl _ _).alloc (Nat.le_refl _) (Obj.cells #[.int .u8 48] 5)))
      have EY := hide e
      clear e hys
      clear Bq
      go_wp2_with (at_builtin; refine append_ob _ rfl _ _ 46 rfl i0 Tryd.underlying46 hi hz0 hz1 hz2 _ _ rfl HX.out ⟨wr.heap.size, 0, none⟩ 1 48 rfl ?c1 ?c2 ?_)
      try case c1 => first | exact new_cell wr _ _ | simp
      try case c2 => exact hl
      intro v' w1 hob' hgr _
      have hb1 := hbw.out.alloc hbw.out.size (Obj.cells #[.int .u8 48] 5)
      have HB1 := hide (hb1.grown hgr hb1.size (fun q hq => (HLT.out q hq).1))
      have hO1 : Ob w3.heap.size w1 v' ((bys t ++ List.replicate (j + 1) 48).map UInt8.toNat) := by rw [EY.out]; exact hob'
      have HO1 := hide hO1
      clear hO1 EY hl
      clear hob hbw HX HLT hob' hgr hb1 ys0 ys1 ys2 ys3 ys4 ys5
      go_wp2
      go_roundw
      case rel => exact ⟨j + 1, by omega, HO1, by go_num, HB1⟩
      case measure => simp [intOf]; omega
    · obtain rfl : j = j2 := by omega
      have g9 : ¬ z + (j : Int) < v := by omega
      have kc := conv_ob hob.out
      have HBE := hide (HB3.out.trans (hbw.out.mono HB3.out.size))
      have hR := HR.out
      obtain ⟨R, hRR⟩ : ∃ R : ByteArray, R = ⟨(bys t ++ List.replicate j 48).toArray⟩ := ⟨_, rfl⟩
      rw [← hRR] at kc hR
      have hne := ne_text hR
      clear hRR hob hbw Bq hlt hj hR
      go_wp2
      go_ret
      exact ⟨rfl, HBE.out⟩

theorem rmayO_T (i : ByteArray) (v z : Int) (f t : ByteArray) (e : Int) (w : World) (b1 : i.size ≤ 281474976710656) (b2 : f.size ≤ 281474976710656) (b3 : t.size ≤ 281474976710656) (h : MayO ⟨bys i, v, z, bys f, bys t, e⟩) : Calls Tryd.prog 9 #[opV i v z f t e] w fun e w' => e = .returned (.bool true) ∧ Below w.heap.size w w' := by
  obtain ⟨⟨v1, v2⟩, ⟨w1, w2⟩, ⟨e1, e2⟩, hi, hf, ht, h1, h2⟩ := h
  simp only at v1 v2 w1 w2 e1 e2 hi hf ht h1 h2
  by_cases hz : bys t = [48]
  · have hff := h1 hz
    obtain rfl : t = ⟨#[48]⟩ := by rw [← mk_bys t, hz]
    obtain rfl : f = ⟨#[48]⟩ := by rw [← mk_bys f, hff]
    exact rmo_zt i v z e w (by omega) (by omega) (by omega) (by omega) (by omega) (by omega) b1 hi b2 hf b3 ht
  · refine rmo_y i v z f t e w (by omega) (by omega) (by omega) (by omega) (by omega) (by omega) b1 hi b2 hf b3 ht hz (v - z).toNat (by omega) ?_
    rw [← h2 hz, mk_bys]

theorem rmayO_F (i : ByteArray) (v z : Int) (f t : ByteArray) (e : Int) (w : World) (b1 : i.size ≤ 281474976710656) (b2 : f.size ≤ 281474976710656) (b3 : t.size ≤ 281474976710656) (h : ¬ MayO ⟨bys i, v, z, bys f, bys t, e⟩) : Calls Tryd.prog 9 #[opV i v z f t e] w fun e w' => e = .returned (.bool false) ∧ Below w.heap.size w w' := by
  by_cases k0 : v < 0
  · exact rmo_0 i v z f t e w k0
  by_cases k1 : 8192 < v
  · exact rmo_1 i v z f t e w k0 k1
  by_cases k2 : z < 0
  · exact rmo_2 i v z f t e w k0 k1 k2
  by_cases k3 : v < z
  · exact rmo_3 i v z f t e w k0 k1 k2 k3
  by_cases k4 : e < 0
  · exact rmo_4 i v z f t e w k0 k1 k2 k3 k4
  by_cases k5 : 8192 < e
  · exact rmo_5 i v z f t e w k0 k1 k2 k3 k4 k5
  by_cases n0 : NumT (bys i) 8192
  rotate_left
  · exact rmo_ni i v z f t e w k0 k1 k2 k3 k4 k5 b1 n0
  by_cases n1 : NumT (bys f) v
  rotate_left
  · exact rmo_nf i v z f t e w k0 k1 k2 k3 k4 k5 b1 n0 b2 n1
  by_cases n2 : NumT (bys t) z
  rotate_left
  · exact rmo_nt i v z f t e w k0 k1 k2 k3 k4 k5 b1 n0 b2 n1 b3 n2
  have key : (bys t = [48] → bys f = [48]) → (bys t ≠ [48] → bys f = bys t ++ List.replicate (v - z).toNat 48) → False := fun q1 q2 => h ⟨⟨by simp only; omega, by simp only; omega⟩, ⟨by simp only; omega, by simp only; omega⟩, ⟨by simp only; omega, by simp only; omega⟩, n0, n1, n2, q1, q2⟩
  by_cases hz : bys t = [48]
  · have hf : bys f ≠ [48] := fun g => key (fun _ => g) (fun q => absurd hz q)
    obtain rfl : t = ⟨#[48]⟩ := by rw [← mk_bys t, hz]
    exact rmo_zf i v z f e w k0 k1 k2 k3 k4 k5 b1 n0 b2 n1 b3 n2 hf
  · refine rmo_no i v z f t e w k0 k1 k2 k3 k4 k5 b1 n0 b2 n1 b3 n2 hz (v - z).toNat (by omega) (fun g => key (fun q => absurd q hz) (fun _ => ?_))
    rw [← g, bys_mk (bys t ++ List.replicate (v - z).toNat 48)]

end Go.Proofs.YtobloamnaemfnaaDoor
