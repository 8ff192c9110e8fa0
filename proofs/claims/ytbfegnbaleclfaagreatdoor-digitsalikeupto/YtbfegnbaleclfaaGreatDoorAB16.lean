/-
  What joined, grouped, foremost and end answer.
  How a list of texts is cut into groups.
  How groups are put into a row.
  Lists of bytes in blocks of their own, out of a conversion or an append: an append to one; what a conversion makes.
  Texts and lists of bytes: conversions, there and back.
  A text that is appended to a list of bytes in a block of its own, out of a conversion or an append.
  What quipuref16's add and Write answer.
-/
import Derived.Test.YtbfegnbaleclfaaGreatDoorAB15
import Derived.Test.YtbfegnbaleclfaaGreatDoorAB2
import Derived.ArgAppend
import Derived.Lib.ConvBytes
import Derived.Laws.BytesArg
import Derived.Lib.AppendStr
namespace Go.Proofs.YtbfegnbaleclfaaGreatDoor
open Go.RowKit

theorem join_flat (xs : List (List UInt8)) : Lib.join xs [] = xs.flatten := by
  cases xs with
  | nil => rfl
  | cons x r =>
    rw [Lib.join_cons]
    unfold Lib.joinTail
    simp
theorem join_wr (s : Sy) (ds : List UInt8) : Lib.join ((ds.map (digT s)).map (·.data.toList)) (⟨#[]⟩ : ByteArray).data.toList = wrL s ds := by
  rw [show (⟨#[]⟩ : ByteArray).data.toList = [] from rfl, join_flat, List.map_map]
  rfl

set_option maxHeartbeats 1000000 in
theorem joined_at (b o n cap : Nat) (s : Sy) (ds : List UInt8) (w : World) (hn : ds.length = n) (hcells : ∀ j c, ds[j]? = some c → w.cell? ⟨b, o + j, none⟩ = some (.string (digT s c))) (hb : b < w.heap.size) (hN : n ≤ 100000) (hc : n ≤ cap) (hl : (wrL s ds).length ≤ 140737488355328) :
    Calls Tryz.prog 17 #[.slice (some ⟨b, o, none⟩) n cap] w fun e w' => e = .returned (.string (mkP (wrL s ds))) ∧ Below w.heap.size w w' := by
  have H := Tryz.strings_Join b o cap (ds.map (digT s)) ⟨#[]⟩ w (fun j x hx => by
    rw [List.getElem?_map] at hx
    cases hd : ds[j]? with
    | none => rw [hd] at hx; cases hx
    | some c =>
      rw [hd] at hx
      have := hcells j c hd
      simp only [Option.map_some, Option.some.injEq] at hx
      rw [this, hx]) hb (by rw [List.length_map]; omega) (by rw [List.length_map]; omega) (by rw [join_wr]; exact hl)
  rw [join_wr, List.length_map, hn] at H
  have HJ := hide H
  obtain ⟨r, hr⟩ : ∃ r, r = mkP (wrL s ds) := ⟨_, rfl⟩
  rw [show (⟨(wrL s ds).toArray⟩ : ByteArray) = mkP (wrL s ds) from rfl, ← hr] at HJ
  rw [← hr]
  clear H hcells hr hl hn
  go_enter Tryz.func17, Tryz.ntmps17
  go_wp2_with fail
  refine HJ.out.mono ?_
  rintro e w1 ⟨rfl, hb1⟩
  go_wp2
  go_ret
  exact ⟨rfl, hb1⟩
set_option maxHeartbeats 1000000 in
theorem joined_none (a : Option Addr) (cap : Nat) (w : World) : Calls Tryz.prog 17 #[.slice a 0 cap] w fun e w' => e = .returned (.string ⟨#[]⟩) ∧ Below w.heap.size w w' := by
  have HJ := hide (Tryz.strings_Join_none a cap ⟨#[]⟩ w)
  go_enter Tryz.func17, Tryz.ntmps17
  go_wp2_with fail
  refine HJ.out.mono ?_
  rintro e w1 ⟨rfl, rfl⟩
  go_wp2
  go_ret
  exact ⟨rfl, Below.refl _ _⟩
theorem joined_own {w : World} {B n : Nat} {v : Value} (s : Sy) (ds : List UInt8) (h : w.ownsRow B 9 1 v n (cellsD s ds)) (hn : ds.length = n) (hN : n ≤ 100000) (hl : (wrL s ds).length ≤ 140737488355328) :
    Calls Tryz.prog 17 #[v] w fun e w' => e = .returned (.string (mkP (wrL s ds))) ∧ Below w.heap.size w w' := by
  by_cases h0 : n = 0
  · obtain ⟨ao, cap, rfl⟩ := ownD_slice h
    obtain rfl : ds = [] := List.eq_nil_of_length_eq_zero (by omega)
    subst h0
    exact joined_none ao cap w
  · obtain ⟨g, cap, rfl, h1, h2, h3⟩ := ownD_some h h0
    refine joined_at g 0 n cap s ds w hn (fun j c hj => ?_) h2 hN h3 hl
    have hlt : j < n := by rw [← hn]; exact (List.getElem?_eq_some_iff.1 hj).1
    rw [Nat.zero_add, h.cellAt j (by omega)]
    unfold cellsD
    rw [List.getElem?_map, hj]
    rfl

theorem maxI_run (a b : Int) : ∀ (w : World) (ts : Array TypeId) (t : TypeId), (Builtin.max_ ts t #[.int .i64 a, .int .i64 b]).run Tryz.prog w = .ok (.int .i64 (max a b)) w := by
  intro w ts t
  rw [run_max_int2]
  congr 2
  omega

theorem results_grp {fn : Func} {a : Tmp} (h : fn.results = #[.cell a 52]) (tmps : Array Value) (H : Nat) (x0 x1 x2 : Value) (w : World) (ht : tmps.getD a undef = .pointer (some ⟨H, 0, none⟩)) (hp : Blk w H #[x0, x1, x2] 52) :
    (results fn tmps).run Tryz.prog w = .ok (.agg #[x0, x1, x2]) w := by
  have c0 := hp.cell 0
  have c1 := hp.cell 1
  have c2 := hp.cell 2
  simp at c0 c1 c2
  rw [Array.getD_eq_getD_getElem?] at ht
  simp [results, h, ht, go_sem, c0, c1, c2]
def grpV (first further least : Int) : Value := .agg #[.int .i64 first, .int .i64 (furR first further), .int .i64 (max 1 least)]

set_option maxHeartbeats 1000000 in
theorem grouped_any (first further least : Int) (w : World) : Calls Tryz.prog 14 #[.int .i64 first, .int .i64 further, .int .i64 least] w fun e w' => e = .returned (grpV first further least) ∧ Below w.heap.size w w' := by
  have MX := maxI_run 1 least
  obtain ⟨m, hm⟩ : ∃ m, m = max 1 least := ⟨_, rfl⟩
  unfold grpV
  rw [← hm] at MX ⊢
  unfold furR
  have B0 : Hid (Below w.heap.size w (w.alloc (.cells #[.int .i64 0, .int .i64 0, .int .i64 0] 52))) := (Below.refl _ _).alloc (Nat.le_refl _) _
  have R0 := hide (Blk.newAt w w.heap.size rfl #[.int .i64 0, .int .i64 0, .int .i64 0] 52)
  clear hm
  by_cases h : further ≤ 0
  · rw [if_pos h]
    have h' : decide (further ≤ 0) = true := decide_eq_true h
    go_enter Tryz.func14, Tryz.ntmps14
    go_wp2
    refine bodyPost_ret (results_grp rfl _ _ _ _ _ _ rfl (Blk.newAt w w.heap.size rfl _ _)) rfl ?_
    exact ⟨rfl, (Below.refl _ _).alloc (Nat.le_refl _) _⟩
  · rw [if_neg h]
    have h' : decide (further ≤ 0) = false := decide_eq_false h
    go_enter Tryz.func14, Tryz.ntmps14
    go_wp2
    refine bodyPost_ret (results_grp rfl _ _ _ _ _ _ rfl (Blk.newAt w w.heap.size rfl _ _)) rfl ?_
    exact ⟨rfl, (Below.refl _ _).alloc (Nat.le_refl _) _⟩

set_option maxRecDepth 100000 in
set_option maxHeartbeats 2000000 in
theorem foremost_any (n : Nat) (first further least : Int) (w : World) (hn : n ≤ 100000) (hf : first ≤ 9223372036854775807) (hu : further ≤ 9223372036854775807) :
    Calls Tryz.prog 33 #[grpV first further least, .int .i64 (n : Int)] w fun e w' => e = .returned (.int .i64 (if Grp n first least then foreI n first (furR first further) else n)) ∧ Below w.heap.size w w' := by
  have AL : Hid (∀ o, Below w.heap.size w (w.alloc o)) := hide fun o => (Below.refl _ _).alloc (Nat.le_refl _) _
  unfold grpV
  by_cases h1 : 0 < first
  · have hR := furR_pos (further := further) h1
    have hR2 : furR first further ≤ 9223372036854775807 := by unfold furR; split <;> omega
    have hm1 : 1 ≤ max 1 least := by omega
    have E1 : Hid (Grp n first least ↔ max 1 least ≤ (n : Int) - first) := hide ⟨fun h => h.2, fun h => ⟨h1, h⟩⟩
    unfold foreI
    generalize furR first further = R at *
    generalize max 1 least = m at *
    have h1' : ¬ first ≤ 0 := by omega
    by_cases h2 : m ≤ (n : Int) - first
    · rw [if_pos (E1.out.2 h2)]
      have h2' : ¬ (n : Int) - first < m := by omega
      obtain ⟨d, hd⟩ : ∃ d, d = (n : Int) - first := ⟨_, rfl⟩
      rw [← hd] at h2 h2' ⊢
      have hw : IntKind.i64.wrap ((n : Int) - first) = d := by rw [IntKind.wrap_i64]; omega
      have hd0 : 0 ≤ d := by omega
      have ht : Int.tmod d R = d % R := Int.tmod_eq_emod_of_nonneg hd0
      have hz : ¬ R = 0 := by omega
      have b1 := Int.emod_nonneg d hz
      have b2 := Int.emod_lt_of_pos d hR
      obtain ⟨r, hr⟩ : ∃ r, r = d % R := ⟨_, rfl⟩
      rw [← hr] at ht b1 b2 ⊢
      have hwr : IntKind.i64.wrap r = r := by rw [IntKind.wrap_i64]; omega
      clear E1 hd hr h1 hf hu
      by_cases h3 : 0 < r
      · rw [if_pos h3]
        go_enter Tryz.func33, Tryz.ntmps33
        go_wp2
        go_ret
        exact ⟨rfl, AL.out _⟩
      · rw [if_neg h3]
        go_enter Tryz.func33, Tryz.ntmps33
        go_wp2
        go_ret
        exact ⟨rfl, AL.out _⟩
    · rw [if_neg (fun h => h2 (E1.out.1 h))]
      have h2' : (n : Int) - first < m := by omega
      have hw : IntKind.i64.wrap ((n : Int) - first) = (n : Int) - first := by rw [IntKind.wrap_i64]; omega
      clear E1
      go_enter Tryz.func33, Tryz.ntmps33
      go_wp2
      go_ret
      exact ⟨rfl, AL.out _⟩
  · rw [if_neg (fun h : Grp n first least => h1 h.1)]
    generalize furR first further = R at *
    generalize max 1 least = m at *
    have h1' : first ≤ 0 := by omega
    go_enter Tryz.func33, Tryz.ntmps33
    go_wp2
    go_ret
    exact ⟨rfl, AL.out _⟩

set_option maxRecDepth 100000 in
set_option maxHeartbeats 2000000 in
theorem end_any (n a t : Nat) (first further least : Int) (w : World) (hn : n ≤ 100000) (ha : a ≤ n) (ht : t ≤ n) (hf : first ≤ 9223372036854775807) (hu : further ≤ 9223372036854775807) (he : endI n first further least a = (t : Int)) :
    Calls Tryz.prog 23 #[grpV first further least, .int .i64 (a : Int), .int .i64 (n : Int)] w fun e w' => e = .returned (.int .i64 (t : Int)) ∧ Below w.heap.size w w' := by
  obtain ⟨W, hW⟩ : ∃ W, W = w.alloc (.cells #[.int .i64 first, .int .i64 (furR first further), .int .i64 (max 1 least)] 52) := ⟨_, rfl⟩
  have BS := hide (show Blk W w.heap.size #[.int .i64 first, .int .i64 (furR first further), .int .i64 (max 1 least)] 52 by rw [hW]; exact Blk.newAt w w.heap.size rfl _ _)
  have BW : Hid (Below w.heap.size w W) := hide (by rw [hW]; exact (Below.refl _ _).alloc (Nat.le_refl _) _)
  have HW := hide hW.symm
  have HF := hide (foremost_any n first further least W hn hf hu)
  unfold endI at he
  clear hW
  by_cases h0 : a = 0
  · subst h0
    rw [if_pos rfl] at he
    rw [he] at HF
    unfold grpV at *
    generalize furR first further = R at *
    generalize max 1 least = m at *
    have c0 := BS.out.cell 0
    have c1 := BS.out.cell 1
    have c2 := BS.out.cell 2
    clear he
    go_enter Tryz.func23, Tryz.ntmps23
    go_wp2_with (simp only [HW.out])
    refine HF.out.mono ?_
    rintro e w1 ⟨rfl, hb1⟩
    have HB := hide (BW.out.trans (hb1.mono BW.out.size))
    clear hb1 c0 c1 c2
    go_wp2
    go_ret
    exact ⟨rfl, HB.out⟩
  · rw [if_neg h0] at he
    unfold grpV
    generalize furR first further = R at *
    generalize max 1 least = m at *
    have c0 := BS.out.cell 0
    have c1 := BS.out.cell 1
    have c2 := BS.out.cell 2
    have h0' : ((a : Int) == 0) = false := beq_eq_false_iff_ne.2 (by omega)
    have h0'' : ¬ (a : Int) = 0 := by omega
    clear HF
    by_cases h1 : first < (n : Int) - a
    · rw [if_pos h1] at he
      have hw : IntKind.i64.wrap ((a : Int) + R) = (t : Int) := by rw [IntKind.wrap_i64]; omega
      clear he
      go_enter Tryz.func23, Tryz.ntmps23
      go_wp2_with (simp only [HW.out])
      go_ret
      exact ⟨rfl, BW.out⟩
    · rw [if_neg h1] at he
      obtain rfl : n = t := by omega
      clear he
      go_enter Tryz.func23, Tryz.ntmps23
      go_wp2_with (simp only [HW.out])
      go_ret
      exact ⟨rfl, BW.out⟩

end Go.Proofs.YtbfegnbaleclfaaGreatDoor

namespace Go.Proofs.YtbfegnbaleclfaaGreatDoor
open Go.RowKit

def cellsG (b : Nat) : Nat → List Nat → List Value
  | _, [] => []
  | a, s :: t => .slice (some ⟨b, a, none⟩) s s :: cellsG b (a + s) t
theorem szG_len (n : Nat) (first further least : Int) : ∀ (f a : Nat) (L : List Nat), n - a ≤ f → Rem n first further least a L → L.length ≤ n - a
  | f, a, L, hf, h => by
    by_cases ha : a < n
    · obtain ⟨s, L', rfl, h1, h2, h3, h4, _⟩ := h.step ha
      cases f with
      | zero => omega
      | succ f =>
        have := szG_len n first further least f (a + s) L' (by omega) h4
        rw [List.length_cons]
        omega
    · have hle := h.1
      obtain rfl : a = n := by omega
      rw [h.done]
      simp
theorem Rem.len {n a : Nat} {first further least : Int} {L : List Nat} (h : Rem n first further least a L) : L.length ≤ n - a := szG_len n first further least (n - a) a L (Nat.le_refl _) h

theorem wpG_append {w : World} {ops : Array Oper} {rest : List Oper} {o : Oper} {a : Act} {Q : Exit → Act → World → Prop} (hgd : o.guard = none) (s x : Operand)
    (ho : o.op = .call { callee := .builtin .append, args := #[s, x], argTypes := #[50, 50] })
    (base : Nat) (v : Value) (n : Nat) (xs : List Value) (hs : a.eval s = v) (hown : w.ownsRow base 55 1 v n xs)
    (g : Nat) (r : Value) (h1c : r.oneCell' = true) (hx : a.eval x = .slice (some ⟨g, 0, none⟩) 1 1) (hsrc : Blk w g #[r] 55) (XS : List Value) (hX : xs ++ [r] = XS) (hb : (n + 1) * 24 ≤ 140737488355328) (hbase : base ≤ w.heap.size)
    (h : ∀ uo uc w', w'.ownsRow base 55 1 (.slice uo (n + 1) uc) (n + 1) XS → w.grownBy w' v.ownBlock → wpList Tryz.prog ops Q rest (a.put o.dst (.slice uo (n + 1) uc)) w') : wpList Tryz.prog ops Q (o :: rest) a w := by
  obtain ⟨i0, hi, hz0, hz1, hz2⟩ := info_parts infoLs
  subst hX
  refine wpList_append_own w hgd s x _ ho base _ i0 (.slice none 0 0) 1 24 Tryz.underlying50 hi hz0 hz1 hz2 rfl (by decide) v n xs hs hown ⟨g, 0, none⟩ 1 1 [r] hx rfl (fun j u hj => ?_) (fun u hu => ?_) (by unfold maxLen; omega) hb hbase (fun v' w' h3 h4 _ => ?_)
  · rw [Addr.add_lit, Nat.zero_add, hsrc.cell j]
    simpa using hj
  · rw [List.mem_singleton.1 hu]; exact h1c
  · obtain ⟨uo, uc, rfl⟩ := ownD_slice h3
    exact h uo uc w' h3 h4

set_option maxRecDepth 100000 in
set_option maxHeartbeats 4000000 in
theorem cutG_any (b n cap : Nat) (first further least : Int) (w : World) (hn : n ≤ 100000) (hc : n ≤ cap) (hf : first ≤ 9223372036854775807) (hu : further ≤ 9223372036854775807) :
    Calls Tryz.prog 15 #[grpV first further least, .slice (some ⟨b, 0, none⟩) n cap] w fun e w' => (∃ v, e = .returned v ∧ w'.ownsRow w.heap.size 55 1 v (szG n first further least).length (cellsG b 0 (szG n first further least))) ∧ Below w.heap.size w w' := by
  have R0 := hide (Rem.start n first further least)
  obtain ⟨L0, hL0⟩ : ∃ L0, L0 = szG n first further least := ⟨_, rfl⟩
  rw [← hL0] at R0 ⊢
  clear hL0
  have EN : Hid (∀ a t W, a ≤ n → t ≤ n → endI n first further least a = ((t : Nat) : Int) → Calls Tryz.prog 23 #[grpV first further least, .int .i64 ((a : Nat) : Int), .int .i64 (n : Int)] W fun e w' => e = .returned (.int .i64 ((t : Nat) : Int)) ∧ Below W.heap.size W w') := hide (fun a t W h1 h2 h3 => end_any n a t first further least W hn h1 h2 hf hu h3)
  obtain ⟨W, hW⟩ : ∃ W, W = w.alloc (.cells #[.int .i64 first, .int .i64 (furR first further), .int .i64 (max 1 least)] 52) := ⟨_, rfl⟩
  have BS0 := hide (show Blk W w.heap.size #[.int .i64 first, .int .i64 (furR first further), .int .i64 (max 1 least)] 52 by rw [hW]; exact Blk.newAt w w.heap.size rfl _ _)
  have BW : Hid (Below w.heap.size w W) := hide (by rw [hW]; exact (Below.refl _ _).alloc (Nat.le_refl _) _)
  have NW : W.heap.size = w.heap.size + 1 := by rw [hW]; simp
  have HW := hide hW.symm
  have ST : Hid (∀ a L, Rem n first further least a L → a < n → ∃ s L', L = s :: L' ∧ 0 < s ∧ a + s ≤ n ∧ endI n first further least a = ((a + s : Nat) : Int) ∧ Rem n first further least (a + s) L') := hide (fun a L h h' => by
    obtain ⟨s, L', h1, h2, h3, h4, h5, _⟩ := h.step h'
    exact ⟨s, L', h1, h2, h3, h4, h5⟩)
  have LEN : Hid (∀ a L, Rem n first further least a L → L.length ≤ n - a) := hide (fun a L h => Rem.len h)
  have DN : Hid (∀ L, Rem n first further least n L → L = []) := hide (fun L h => h.done)
  clear hW hf hu
  unfold grpV at *
  generalize furR first further = R at *
  generalize max 1 least = m at *
  have O0 : Hid (W.ownsRow (w.heap.size + 1) 55 1 (.slice none 0 0) 0 []) := hide (World.ownsRow_nil _ _ _ _)
  go_enter Tryz.func15, Tryz.ntmps15
  go_wp2_with (simp only [HW.out])
  go_loopw [5, 6] (fun x q wr => ∃ (a k : Nat) (uo : Option Addr) (uc : Nat) (L : List Nat) (xs : List Value), a ≤ n ∧ k ≤ a ∧ x = .slice uo k uc ∧ q = .int .i64 (a : Int) ∧ Hid (Rem n first further least a L ∧ xs ++ cellsG b a L = cellsG b 0 L0 ∧ k + L.length = L0.length) ∧ Hid (Blk wr w.heap.size #[.int .i64 first, .int .i64 R, .int .i64 m] 52) ∧ Hid (wr.ownsRow (w.heap.size + 1) 55 1 (.slice uo k uc) k xs) ∧ Hid (Below w.heap.size w wr)) (fun _ q _ => n - (intOf q).toNat)
  case atStart => exact ⟨0, 0, none, 0, L0, [], Nat.zero_le _, Nat.le_refl _, rfl, rfl, hide ⟨R0.out, rfl, by simp⟩, BS0, O0, BW⟩
  case round =>
    obtain ⟨a, k, uo, uc, L, xs, ha, hk, rfl, rfl, RM, BS, OW, BB⟩ := hrel
    by_cases hlt : a < n
    · obtain ⟨s, L', rfl, hs, hasn, hen, hrm⟩ := ST.out a L RM.out.1 hlt
      have HC := hide (EN.out a (a + s) wr ha hasn hen)
      obtain ⟨t, ht⟩ : ∃ t, t = a + s := ⟨_, rfl⟩
      rw [← ht] at HC hasn hrm
      have RM' : Hid (Rem n first further least t L' ∧ (xs ++ [.slice (some ⟨b, a, none⟩) s s]) ++ cellsG b t L' = cellsG b 0 L0 ∧ k + 1 + L'.length = L0.length) := hide ⟨hrm, by rw [← RM.out.2.1, List.append_assoc, cellsG, ht]; rfl, by have := RM.out.2.2; simp only [List.length_cons] at this; omega⟩
      have hts : t - a = s := by omega
      have hat : a ≤ t := by omega
      have hlt' : (a : Int) < (n : Int) := by omega
      have c0 := BS.out.cell 0
      have c1 := BS.out.cell 1
      have c2 := BS.out.cell 2
      clear hen hrm RM ST LEN DN R0 EN
      go_wp2_with fail
      refine HC.out.mono ?_
      rintro e w1 ⟨rfl, hb1⟩
      have BS1 := hide (BS.out.below hb1 BS.out.lt)
      have OW1 := hide (ownD_below OW.out hb1)
      have BB1 := hide (BB.out.trans (hb1.mono BB.out.size))
      clear hb1 BS OW BB c0 c1 c2 HC
      have BA : Hid (Below w1.heap.size w1 (w1.alloc (.cells #[.slice (some ⟨b, a, none⟩) s s] 55))) := hide ((Below.refl _ _).alloc (Nat.le_refl _) _)
      have SR := hide (Blk.newAt w1 w1.heap.size rfl #[.slice (some ⟨b, a, none⟩) s s] 55)
      have OA := hide (ownD_below OW1.out BA.out)
      have BBA := hide (BB1.out.trans (BA.out.mono BB1.out.size))
      have BASE : Hid (w.heap.size + 1 ≤ (w1.alloc (.cells #[.slice (some ⟨b, a, none⟩) s s] 55)).heap.size) := hide (by have := BA.out.size; have := BS1.out.lt; omega)
      go_wp2_with (at_builtin; refine wpG_append rfl _ _ rfl (w.heap.size + 1) (.slice uo k uc) k xs rfl OA.out w1.heap.size (.slice (some ⟨b, a, none⟩) s s) rfl rfl SR.out _ rfl (by omega) BASE.out ?_; intro uo2 uc2 w4 hown hgr)
      have S4 := hide ((BS1.out.below BA.out BS1.out.lt).grownD OA.out (Nat.lt_succ_self _) hgr)
      have B4 := hide (BBA.out.grown hgr BBA.out.size (fun q hq => Nat.le_of_succ_le (World.ownsRow.lt OA.out q hq).1))
      have O4 := hide hown
      exact ⟨⟨t, k + 1, uo2, uc2, L', _, hasn, by omega, rfl, by rw [ht]; rfl, RM', S4, O4, B4⟩, by simp [intOf]; omega⟩
    · obtain rfl : a = n := by omega
      have hlt' : ¬ (a : Int) < (a : Int) := by omega
      have E0 := DN.out L RM.out.1
      have EX : Hid (k = L0.length ∧ xs = cellsG b 0 L0) := hide (by
        obtain ⟨_, h1, h2⟩ := RM.out
        rw [E0] at h1 h2
        exact ⟨by simpa using h2, by simpa [cellsG] using h1⟩)
      clear E0 DN ST LEN RM hlt
      go_wp2
      go_ret
      refine ⟨⟨_, rfl, ?_⟩, BB.out⟩
      rw [← EX.out.1, ← EX.out.2]
      exact ownD_mono OW.out (Nat.le_succ _)

set_option maxHeartbeats 1000000 in
theorem cutG_nil (ao : Option Addr) (cap : Nat) (first further least : Int) (w : World) :
    Calls Tryz.prog 15 #[grpV first further least, .slice ao 0 cap] w fun e w' => e = .returned (.slice none 0 0) ∧ Below w.heap.size w w' := by
  have AL : Hid (∀ o, Below w.heap.size w (w.alloc o)) := hide fun o => (Below.refl _ _).alloc (Nat.le_refl _) _
  unfold grpV
  generalize furR first further = R
  generalize max 1 least = m
  go_enter Tryz.func15, Tryz.ntmps15
  go_wp2
  go_loopw [5, 6] (fun x q wr => x = .slice none 0 0 ∧ q = .int .i64 0 ∧ wr = w.alloc (.cells #[.int .i64 first, .int .i64 R, .int .i64 m] 52)) (fun _ _ _ => 0)
  case atStart => exact ⟨rfl, rfl, rfl⟩
  case round =>
    obtain ⟨rfl, rfl, rfl⟩ := hrel
    go_wp2
    go_ret
    exact ⟨rfl, AL.out _⟩

end Go.Proofs.YtbfegnbaleclfaaGreatDoor

namespace Go.Proofs.YtbfegnbaleclfaaGreatDoor
open Go.RowKit

def KD (w w' : World) : Prop := w.heap.size ≤ w'.heap.size ∧ ∀ (j : Nat) (cs : Array Value) (T : TypeId) (fz : Nat × Nat), w.heap[j]? = some (Obj.cells cs T fz) → T ≠ 47 → T ≠ 36 → w'.heap[j]? = w.heap[j]?
theorem KD.refl (w : World) : KD w w := ⟨Nat.le_refl _, fun _ _ _ _ _ _ _ => rfl⟩
theorem KD.trans {a b c : World} (h : KD a b) (k : KD b c) : KD a c := ⟨Nat.le_trans h.1 k.1, fun j cs T fz hj h1 h2 => by
  have e := h.2 j cs T fz hj h1 h2
  rw [k.2 j cs T fz (e.trans hj) h1 h2, e]⟩
theorem KD.below {w w' : World} (hb : Below w.heap.size w w') : KD w w' := ⟨hb.size, fun j _ _ _ hj _ _ => hb.block j (Array.getElem?_eq_some_iff.1 hj).1⟩
theorem KD.of {w w' : World} {D : Nat} {v : Value} {ps : List Pc} (h : RowV w D v ps) (ho : OthD D v.ownBlock w w') : KD w w' := ⟨ho.1, fun j cs T fz hj h1 h2 => by
  refine ho.2 j (Array.getElem?_eq_some_iff.1 hj).1 (fun e => ?_) (fun e => ?_)
  · subst e
    have q := h.1
    unfold Blk at q
    rw [q] at hj
    simp only [Option.some.injEq, Obj.cells.injEq] at hj
    exact h1 hj.2.1.symm
  · rcases h.2.2 with ⟨hv, _⟩ | ⟨g, cap, cur, hv, _, hg, _⟩
    · rw [hv] at e; simp [Value.ownBlock] at e
    · rw [hv] at e
      simp only [Value.ownBlock, Option.some.injEq] at e
      subst e
      rw [hg] at hj
      simp only [Option.some.injEq, Obj.cells.injEq] at hj
      exact h2 hj.2.1.symm⟩
theorem KD.own {w w' : World} {B n k : Nat} {e : TypeId} {v : Value} {xs : List Value} (h : KD w w') (ho : w.ownsRow B e k v n xs) (h1 : e ≠ 47) (h2 : e ≠ 36) : w'.ownsRow B e k v n xs := by
  refine ⟨ho.1, ?_⟩
  rcases ho.2 with q | ⟨g, cap, cur, hv, hb, hg, rest⟩
  · exact .inl q
  · exact .inr ⟨g, cap, cur, hv, hb, (h.2 g _ _ _ hg h1 h2).trans hg, rest⟩
theorem KD.blk {w w' : World} {b : Nat} {cs : Array Value} {T : TypeId} (h : KD w w') (hb : Blk w b cs T) (h1 : T ≠ 47) (h2 : T ≠ 36) : Blk w' b cs T := by
  unfold Blk at *
  exact (h.2 b _ _ _ hb h1 h2).trans hb

theorem cellsG_at (b : Nat) : ∀ (a i : Nat) (L L' : List Nat) (s : Nat), L.drop i = s :: L' → (cellsG b a L)[i]? = some (.slice (some ⟨b, a + (L.take i).sum, none⟩) s s)
  | a, 0, L, L', s, h => by
    rw [List.drop_zero] at h
    subst h
    simp [cellsG]
  | a, i + 1, [], L', s, h => by simp at h
  | a, i + 1, x :: L, L', s, h => by
    rw [List.drop_succ_cons] at h
    have q := cellsG_at b (a + x) i L L' s h
    rw [cellsG, List.getElem?_cons_succ, q, List.take_succ_cons, List.sum_cons, Nat.add_assoc]

theorem wrL_part (s : Sy) (ds : List UInt8) (a k : Nat) : (wrL s ((ds.drop a).take k)).length ≤ (wrL s ds).length := by
  have e : ds = ds.take a ++ ((ds.drop a).take k ++ (ds.drop a).drop k) := by rw [List.take_append_drop, List.take_append_drop]
  conv => rhs; rw [e, wrL_app, wrL_app]
  simp only [List.length_append]
  omega
theorem take_sum_le : ∀ (L : List Nat) (i : Nat), (L.take i).sum ≤ L.sum
  | [], i => by simp
  | x :: L, 0 => by simp
  | x :: L, i + 1 => by have := take_sum_le L i; rw [List.take_succ_cons, List.sum_cons, List.sum_cons]; omega

def leftP (s : Sy) (L : List Nat) (ds : List UInt8) (i : Nat) : List Pc := if i = 0 then intP s L ds else intT s (L.drop i) (ds.drop (L.take i).sum)
theorem leftP_end (s : Sy) (L : List Nat) (ds : List UInt8) : leftP s L ds L.length = [] := by
  unfold leftP
  split
  · rename_i h
    rw [List.eq_nil_of_length_eq_zero h]; rfl
  · rw [List.drop_length]; rfl
theorem leftP_step (s : Sy) (L : List Nat) (ds : List UInt8) (i : Nat) (h : i < L.length) : ∃ a sz, (cellsG 0 0 [] = cellsG 0 0 []) ∧ (∀ b, (cellsG b 0 L)[i]? = some (.slice (some ⟨b, a, none⟩) sz sz)) ∧ a + sz ≤ L.sum ∧ leftP s L ds i = (if i = 0 then [] else oneP s.grp 3) ++ (oneP (mkP (wrL s ((ds.drop a).take sz))) 2 ++ leftP s L ds (i + 1)) := by
  have hd : L.drop i = L[i] :: L.drop (i + 1) := List.drop_eq_getElem_cons h
  have hs : (L.take (i + 1)).sum = (L.take i).sum + L[i] := by
    rw [List.take_add_one, List.getElem?_eq_getElem h, List.sum_append]
    simp
  refine ⟨(L.take i).sum, L[i], rfl, fun b => by have := cellsG_at b 0 i L _ _ hd; rwa [Nat.zero_add] at this, by have := take_sum_le L (i + 1); omega, ?_⟩
  have e1 : leftP s L ds (i + 1) = intT s (L.drop (i + 1)) ((ds.drop (L.take i).sum).drop L[i]) := by
    unfold leftP
    rw [if_neg (by omega), hs, List.drop_drop]
  rw [e1]
  unfold leftP
  by_cases h0 : i = 0
  · subst h0
    rw [if_pos rfl, if_pos rfl, List.nil_append, List.take_zero]
    rw [List.drop_zero] at hd
    conv => lhs; rw [hd]
    rfl
  · rw [if_neg h0, if_neg h0, hd]
    rfl

set_option maxRecDepth 100000 in
set_option maxHeartbeats 4000000 in
theorem putGroups_some {w : World} {D : Nat} {v : Value} (ps : List Pc) (s : Sy) (ds : List UInt8) (L : List Nat) (bt ct gg gc Bt Bg : Nat) (h : RowV w D v ps) (hL : L.sum = ds.length) (hl : ds.length ≤ 100000) (hLn : L.length ≤ 100000) (hps : ps.length ≤ 100000) (hw : (wrL s ds).length ≤ 140737488355328)
    (hG : w.ownsRow Bg 55 1 (.slice (some ⟨gg, 0, none⟩) L.length gc) L.length (cellsG bt 0 L)) (hT : w.ownsRow Bt 9 1 (.slice (some ⟨bt, 0, none⟩) ds.length ct) ds.length (cellsD s ds)) :
    Calls Tryz.prog 13 #[.pointer (some ⟨D, 0, none⟩), .slice (some ⟨gg, 0, none⟩) L.length gc, .string s.grp] w fun e w' => e = .returned (.tuple #[]) ∧ (∃ v', RowV w' D v' (ps ++ intP s L ds)) ∧ Below D w w' ∧ KD w w' := by
  have hgc : L.length ≤ gc := by
    rcases hG.2 with ⟨q, _⟩ | ⟨g, cap, cur, q, _, _, q2, _⟩
    · cases q
    · cases q; exact q2
  have STP : Hid (∀ i, i < L.length → ∃ a sz, (∀ b, (cellsG b 0 L)[i]? = some (.slice (some ⟨b, a, none⟩) sz sz)) ∧ a + sz ≤ ds.length ∧ leftP s L ds i = (if i = 0 then [] else oneP s.grp 3) ++ (oneP (mkP (wrL s ((ds.drop a).take sz))) 2 ++ leftP s L ds (i + 1))) := hide (fun i hi => by
    obtain ⟨a, sz, _, h1, h2, h3⟩ := leftP_step s L ds i hi
    exact ⟨a, sz, h1, by omega, h3⟩)
  have EN : Hid (leftP s L ds L.length = []) := hide (leftP_end s L ds)
  have BG : Hid (leftP s L ds 0 = intP s L ds) := hide (by unfold leftP; rw [if_pos rfl])
  have WP : Hid (∀ a k, (wrL s ((ds.drop a).take k)).length ≤ 140737488355328) := hide (fun a k => Nat.le_trans (wrL_part s ds a k) hw)
  have HG := hide hG
  have HT := hide hT
  obtain ⟨N, hN⟩ : ∃ N, N = L.length := ⟨_, rfl⟩
  obtain ⟨sep, hsep⟩ : ∃ sep, sep = s.grp := ⟨_, rfl⟩
  obtain ⟨T, hTt⟩ : ∃ T, T = ps ++ intP s L ds := ⟨_, rfl⟩
  have TB : Hid (ps ++ leftP s L ds 0 = T) := hide (by rw [BG.out, hTt])
  rw [← hN] at HG EN STP hLn hgc ⊢
  rw [← hsep] at STP ⊢
  rw [← hTt]
  have R0 := hide h
  have CJ : Hid (∀ a sz wr, a + sz ≤ ds.length → KD w wr → Calls Tryz.prog 17 #[.slice (some ⟨bt, a, none⟩) sz sz] wr fun e w' => e = .returned (.string (mkP (wrL s ((ds.drop a).take sz)))) ∧ Below wr.heap.size wr w') := hide (fun a sz wr h1 hk => by
    have ho := hk.own HT.out (by decide) (by decide)
    refine joined_at bt a sz sz s _ wr (by rw [List.length_take, List.length_drop]; omega) (fun j c hj => ?_) (World.ownsRow.lt ho bt rfl).2 (by omega) (Nat.le_refl _) (WP.out a sz)
    have hlt : j < sz := by
      have := (List.getElem?_eq_some_iff.1 hj).1
      rw [List.length_take, List.length_drop] at this
      omega
    rw [List.getElem?_take_of_lt hlt, List.getElem?_drop] at hj
    rw [ho.cellAt (a + j) (by omega)]
    unfold cellsD
    rw [List.getElem?_map, hj]
    rfl)
  have GA : Hid (∀ i wr x, KD w wr → i < N → (cellsG bt 0 L)[i]? = some x → wr.cell? ⟨gg, i, none⟩ = some x) := hide (fun i wr x hk h1 h2 => by
    have ho := hk.own HG.out (by decide) (by decide)
    rw [ho.cellAt i (by omega)]
    exact h2)
  clear hN hsep hTt BG hG hT h HT HG WP hw
  go_enter Tryz.func13, Tryz.ntmps13
  go_wp2
  go_loopw [10] (fun q wr => ∃ (i : Nat) (v' : Value) (acc : List Pc), i ≤ N ∧ q = .int .i64 (i : Int) ∧ acc.length ≤ ps.length + 2 * i ∧ Hid (RowV wr D v' acc ∧ acc ++ leftP s L ds i = T) ∧ Hid (Below D w wr ∧ KD w wr)) (fun q _ => N - (intOf q).toNat)
  case atStart => exact ⟨0, v, ps, Nat.zero_le _, rfl, Nat.le_refl _, hide ⟨R0.out, TB.out⟩, hide ⟨Below.refl _ _, KD.refl _⟩⟩
  case round =>
    obtain ⟨i, v', acc, hi, rfl, hacc, RA, BB⟩ := hrel
    by_cases hlt : i < N
    · obtain ⟨a, sz, h1, h2, h3⟩ := STP.out i hlt
      have cg := GA.out i wr _ BB.out.2 hlt (h1 bt)
      rcases Nat.eq_zero_or_pos i with rfl | h0
      · rw [if_pos rfl, List.nil_append] at h3
        have hlt' : (0 : Int) < (N : Int) := by omega
        have CC := hide (CJ.out a sz wr h2 BB.out.2)
        obtain ⟨g, hg⟩ : ∃ g, g = mkP (wrL s ((ds.drop a).take sz)) := ⟨_, rfl⟩
        rw [← hg] at h3 CC
        have RT : Hid ((acc ++ oneP g 2) ++ leftP s L ds (0 + 1) = T) := hide (by rw [← RA.out.2, h3, List.append_assoc])
        clear h1 h3 STP EN GA TB R0 hg CJ
        rw [show ((0 : Nat) : Int) = 0 from rfl]
        go_wp2_with fail
        refine CC.out.mono ?_
        rintro e w1 ⟨rfl, hb1⟩
        have R1 := hide (RA.out.1.below hb1)
        have HP := hide (put_any acc g 2 R1.out (by omega))
        have B1 : Hid (Below D w w1 ∧ KD w w1) := hide ⟨BB.out.1.trans (hb1.mono (Nat.le_of_lt RA.out.1.1.lt)), BB.out.2.trans (KD.below hb1)⟩
        clear hb1 CC BB RA
        go_wp2_with fail
        refine HP.out.mono ?_
        rintro e w2 ⟨rfl, ⟨v2, hv2⟩, hb2, ho2⟩
        have R2 := hide hv2
        have B2 : Hid (Below D w w2 ∧ KD w w2) := hide ⟨B1.out.1.trans hb2, B1.out.2.trans (KD.of R1.out ho2)⟩
        clear hv2 hb2 ho2 HP B1 R1
        go_wp2
        exact ⟨⟨0 + 1, v2, acc ++ oneP g 2, by omega, by go_num, by have := oneP_len g 2; rw [List.length_append]; omega, hide ⟨R2.out, RT.out⟩, B2⟩, by simp [intOf]; omega⟩
      · rw [if_neg (by omega)] at h3
        have hlt' : (i : Int) < (N : Int) := by omega
        have h0' : (0 : Int) < (i : Int) := by omega
        obtain ⟨g, hg⟩ : ∃ g, g = mkP (wrL s ((ds.drop a).take sz)) := ⟨_, rfl⟩
        rw [← hg] at h3
        have CC : Hid (∀ X, KD w X → Calls Tryz.prog 17 #[.slice (some ⟨bt, a, none⟩) sz sz] X fun e w' => e = .returned (.string g) ∧ Below X.heap.size X w') := hide (fun X hX => by have := CJ.out a sz X h2 hX; rwa [← hg] at this)
        have RT : Hid (((acc ++ oneP sep 3) ++ oneP g 2) ++ leftP s L ds (i + 1) = T) := hide (by rw [← RA.out.2, h3]; simp only [List.append_assoc])
        have HS := hide (put_any acc sep 3 RA.out.1 (by omega))
        clear h1 h3 STP EN GA TB R0 hg CJ
        go_wp2_with fail
        refine HS.out.mono ?_
        rintro e w1 ⟨rfl, ⟨v1, hv1⟩, hb1, ho1⟩
        have R1 := hide hv1
        have B1 : Hid (Below D w w1 ∧ KD w w1) := hide ⟨BB.out.1.trans hb1, BB.out.2.trans (KD.of RA.out.1 ho1)⟩
        have CC1 := hide (CC.out w1 B1.out.2)
        clear hv1 hb1 ho1 HS CC BB RA
        go_wp2_with fail
        refine CC1.out.mono ?_
        rintro e w2 ⟨rfl, hb2⟩
        have R2 := hide (R1.out.below hb2)
        have HP := hide (put_any (acc ++ oneP sep 3) g 2 R2.out (by have := oneP_len sep 3; rw [List.length_append]; omega))
        have B2 : Hid (Below D w w2 ∧ KD w w2) := hide ⟨B1.out.1.trans (hb2.mono (Nat.le_of_lt R1.out.1.lt)), B1.out.2.trans (KD.below hb2)⟩
        clear hb2 CC1 B1 R1
        go_wp2_with fail
        refine HP.out.mono ?_
        rintro e w3 ⟨rfl, ⟨v3, hv3⟩, hb3, ho3⟩
        have R3 := hide hv3
        have B3 : Hid (Below D w w3 ∧ KD w w3) := hide ⟨B2.out.1.trans hb3, B2.out.2.trans (KD.of R2.out ho3)⟩
        clear hv3 hb3 ho3 HP B2 R2
        go_wp2
        exact ⟨⟨i + 1, v3, acc ++ oneP sep 3 ++ oneP g 2, by omega, by go_num, by have := oneP_len g 2; have := oneP_len sep 3; simp only [List.length_append]; omega, hide ⟨R3.out, RT.out⟩, B3⟩, by simp [intOf]; omega⟩
    · obtain rfl : i = N := by omega
      have hlt' : ¬ (i : Int) < (i : Int) := by omega
      have EX : Hid (acc = T) := hide (by have := RA.out.2; rw [EN.out, List.append_nil] at this; exact this)
      clear STP EN GA CJ TB R0
      go_wp2
      go_end0
      refine ⟨rfl, ⟨v', ?_⟩, BB.out⟩
      rw [← EX.out]
      exact RA.out.1

end Go.Proofs.YtbfegnbaleclfaaGreatDoor

namespace Go.Proofs.YtbfegnbaleclfaaGreatDoor
open Go.RowKit

def Ob (base : Nat) (X : World) (v : Value) (ys : List Nat) : Prop :=
  ∃ g cap cur fz, v = .slice (some ⟨g, 0, none⟩) ys.length cap ∧ base ≤ g ∧ X.heap[g]? = some (.cells cur 5 fz) ∧ (fz = (0, 0) ∨ cap ≤ fz.1) ∧ ys.length ≤ cap ∧ cur.size = cap ∧ cur.toList.take ys.length = vals .u8 ys

theorem Ob.cells {base : Nat} {X : World} {g n cap : Nat} {ys : List Nat} (h : Ob base X (.slice (some ⟨g, 0, none⟩) n cap) ys) : n = ys.length ∧ base ≤ g ∧ g < X.heap.size ∧ n ≤ cap ∧ ∀ i, i < ys.length → X.cell? ⟨g, i, none⟩ = some (.int .u8 ((ys[i]?.getD 0 : Nat) : Int)) := by
  obtain ⟨g', cap', cur, fz, hv, hg1, hh, hf, hn, hsz, ht⟩ := h
  simp only [Value.slice.injEq, Option.some.injEq, Addr.mk.injEq] at hv
  obtain ⟨⟨rfl, _, _⟩, rfl, rfl⟩ := hv
  refine ⟨rfl, hg1, lt_of_block hh, hn, fun i hi => ?_⟩
  have hc : cur[i]? = (vals .u8 ys)[i]? := by rw [← ht, List.getElem?_take_of_lt hi, Array.getElem?_toList]
  simp only [World.cell?, hh, Option.isSome_none, Bool.false_eq_true, if_false, hc]
  simp [vals, hi]

theorem Ob.lt {base : Nat} {X : World} {v : Value} {ys : List Nat} (h : Ob base X v ys) : ∀ g, v.ownBlock = some g → base ≤ g ∧ g < X.heap.size := by
  obtain ⟨g, cap, cur, fz, rfl, hg1, hh, hr⟩ := h
  intro k hk
  simp only [Value.ownBlock, Option.some.injEq] at hk
  subst hk
  exact ⟨hg1, lt_of_block hh⟩

end Go.Proofs.YtbfegnbaleclfaaGreatDoor

namespace Go.Proofs.YtbfegnbaleclfaaGreatDoor
open Go.RowKit

theorem strB_of (l : List UInt8) : strOfNums ((l.map UInt8.toNat).map fun (x : Nat) => (x : Int)) = ⟨l.toArray⟩ := by
  apply ByteArray.ext
  apply Array.toList_inj.1
  rw [strOfNums_data, List.map_map, List.map_map]
  show _ = l
  conv => rhs; rw [← List.map_id l]
  apply List.map_congr_left
  intro x _
  simp

theorem Tryz.infoBz : (Tryz.prog.info? 5).map (fun i => (i.zero, i.size, i.bytes)) = some (some (.int .u8 0), 1, 1) := by kernel_rfl

theorem convB_at {X : World} {g o cap : Nat} {l : List UInt8} (h : ∀ i, i < l.length → X.cell? ⟨g, o + i, none⟩ = some (.int .u8 ((byt l i : Nat) : Int))) : (convert 40 9 (.slice (some ⟨g, o, none⟩) l.length cap)).run Tryz.prog X = .ok (.string ⟨l.toArray⟩) X := by
  have kc := run_convert_bytes_arg (P := Tryz.prog) X 40 5 Tryz.underlying40 Tryz.underlying5 g o l.length cap ((l.map UInt8.toNat).map fun (x : Nat) => (x : Int)) (by rw [List.length_map, List.length_map]) (fun i hi => by
    rw [h i hi]
    unfold byt
    simp [List.getD, hi]) 9 Tryz.underlying9
  rw [strB_of] at kc
  exact kc

theorem convB_ob {base : Nat} {X : World} {v : Value} {l : List UInt8} (h : Ob base X v (l.map UInt8.toNat)) : (convert 40 9 v).run Tryz.prog X = .ok (.string ⟨l.toArray⟩) X := by
  obtain ⟨g, cap, cur, fz, rfl, hr⟩ := id h
  obtain ⟨_, _, _, _, hc⟩ := h.cells
  rw [List.length_map] at hc ⊢
  refine convB_at fun i hi => ?_
  rw [Nat.zero_add, hc i hi]
  unfold byt
  simp [hi]

end Go.Proofs.YtbfegnbaleclfaaGreatDoor

namespace Go.Proofs.YtbfegnbaleclfaaGreatDoor
open Go.RowKit Go.Lib

theorem run_storeCells_atG (P : Program) (g o : Nat) (t : TypeId) (fz : Nat × Nat) : ∀ (vs : List Value) (i : Nat) (cur : Array Value) (w : World), w.heap[g]? = some (.cells cur t fz) → (fz = (0, 0) ∨ o + i + vs.length ≤ fz.1) → o + i + vs.length ≤ cur.size → (∀ v ∈ vs, v.oneCell' = true) →
    (storeCells ⟨g, o, none⟩ vs i).run P w = .ok () (w.setRow g (cur.toList.take (o + i) ++ vs ++ cur.toList.drop (o + i + vs.length)).toArray)
  | [], i, cur, w, hg, _, _, _ => by
    simp only [storeCells, List.append_nil, List.length_nil, Nat.add_zero, List.take_append_drop, Array.toArray_toList]
    rw [setRow_self w g cur t fz hg]
    rfl
  | v :: rest, i, cur, w, hg, hfz, hl, h1 => by
    have hi : o + i < cur.size := by simp at hl; omega
    have hadd : (⟨g, o, none⟩ : Addr).add i = ⟨g, o + i, none⟩ := by unfold Addr.add; split <;> simp_all
    have hcell : w.cell? ⟨g, o + i, none⟩ = some cur[o + i] := by simp [World.cell?, hg, hi]
    have hfro : w.frozen? ⟨g, o + i, none⟩ = false := by
      obtain ⟨lo, hi'⟩ := fz
      simp only [World.frozen?, hg, Bool.and_eq_false_iff, decide_eq_false_iff_not]
      rcases hfz with q | q
      · simp only [Prod.mk.injEq] at q
        right
        omega
      · left
        simp only [List.length_cons] at q
        omega
    have hst : (store ((⟨g, o, none⟩ : Addr).add i) v).run P w = .ok () (w.setRow g (cur.setIfInBounds (o + i) v)) := by
      rw [hadd, run_store P w _ v _ (h1 v (by simp)), hcell]
      simp [hfro, setCell_eq_setRow w g (o + i) cur t fz v hg]
    have ih := run_storeCells_atG P g o t fz rest (i + 1) (cur.setIfInBounds (o + i) v) (w.setRow g (cur.setIfInBounds (o + i) v)) (setRow_heap w g cur _ t _ hg) (by
      rcases hfz with q | q
      · exact .inl q
      · right; simp only [List.length_cons] at q; omega) (by simp at hl ⊢; omega) (fun x hx => h1 x (by simp [hx]))
    simp only [storeCells, Sem.run_bind, hst, Result.andThen_ok, ih, setRow_setRow]
    congr 3
    have e := list_seg_step cur.toList (o + i) v rest (by simp at hl ⊢; omega)
    simpa [Array.toList_setIfInBounds, Nat.add_assoc] using e

theorem strCells_vals (s : ByteArray) : strCells s = vals .u8 ((bys s).map UInt8.toNat) := by
  unfold strCells vals bys
  rw [List.map_map]
  rfl

theorem appendS_ob {P : Program} {base : Nat} (X : World) {ops : Array Oper} {rest : List Oper} {o : Oper} {a : Act} {Q : Exit → Act → World → Prop}
    (hgd : o.guard = none) (s x : Operand) (t u : TypeId) (hop : o.op = Op.call { callee := Callee.builtin Builtin.append, args := #[s, x], argTypes := #[t, u] })
    (i : TypeInfo) (ht : P.underlying t = some (.slice 5)) (hu : P.underlying u = some .string) (hi : P.info? 5 = some i) (hz : i.zero = some (.int .u8 0)) (h4 : i.size = 1) (h5 : i.bytes = 1)
    (v : Value) (ys : List Nat) (hs : a.eval s = v) (hob : Ob base X v ys) (tx : ByteArray) (hx : a.eval x = .string tx) (hn : ys.length + tx.size ≤ 100000000000) (hbase : base ≤ X.heap.size)
    (h : ∀ v' w', Ob base w' v' (ys ++ (bys tx).map UInt8.toNat) → X.grownBy w' v.ownBlock → wpList P ops Q rest (a.put o.dst v') w') : wpList P ops Q (o :: rest) a X := by
  obtain ⟨g, cap, cur, fz, rfl, hg1, hh, hf, hl, hsz, htk⟩ := hob
  have hvl : (vals .u8 ys).length = ys.length := by simp [vals]
  have hsl : ((bys tx).map UInt8.toNat).length = tx.size := by rw [List.length_map, bys_len]
  have hval : vals .u8 (ys ++ (bys tx).map UInt8.toNat) = vals .u8 ys ++ strCells tx := by rw [strCells_vals]; simp [vals]
  have run : ∀ v' w', (Builtin.append_ #[t, u] o.type #[.slice (some ⟨g, 0, none⟩) ys.length cap, .string tx]).run P X = .ok v' w' → Ob base w' v' (ys ++ (bys tx).map UInt8.toNat) → X.grownBy w' (some g) → wpList P ops Q (o :: rest) a X := fun v' w' hr h2 h3 => by
    refine wpList_plain hgd fun K hK => ?_
    unfold Oper.wp execOp
    simp only [hop, resolve, invoke, builtin, Sem.run_bind, Sem.run_pure, Result.andThen_ok, List.map_toArray, List.map_cons, List.map_nil, hs, hx, hr]
    exact hK _ _ (h v' w' h2 h3)
  by_cases hroom : ys.length + tx.size ≤ cap
  · have hf0 := run_firstCells_string (P := P) X 1 tx
    have hst := run_storeCells_atG P g ys.length 5 fz (strCells tx) 0 cur X hh (by
      rcases hf with q | q
      · exact .inl q
      · right; rw [strCells_length]; omega) (by rw [strCells_length]; omega) (strCells_oneCell tx)
    simp only [Nat.add_zero, strCells_length] at hst
    refine run (.slice (some ⟨g, 0, none⟩) (ys.length + tx.size) cap) (X.setRow g (cur.toList.take ys.length ++ strCells tx ++ cur.toList.drop (ys.length + tx.size)).toArray) ?_ ?_ ?_
    · simp [Builtin.append_, run_underlying ht, run_underlying hu, sizeOf, typeInfo, hi, h4, Builtin.lenOf, hroom, hf0, Addr.add_lit, hst]
    · refine ⟨g, cap, _, fz, by rw [List.length_append, hsl], hg1, setRow_heap X g cur _ 5 _ hh, hf, by rw [List.length_append, hsl]; exact hroom, ?_, ?_⟩
      · simp only [List.size_toArray, List.length_append, List.length_take, List.length_drop, Array.length_toList, strCells_length]
        omega
      · rw [hval, htk, List.length_append, hsl]
        simp only []
        have e : ys.length + tx.size = (vals .u8 ys ++ strCells tx).length := by rw [List.length_append, hvl, strCells_length]
        rw [e]
        exact List.take_left
    · exact ⟨rfl, rfl, rfl, by simp, fun k _ hk => setRow_other X g k _ (fun e => hk (by simp [e]))⟩
  · have holds : ∀ j w', (vals .u8 ys)[j]? = some w' → X.cell? ((⟨g, 0, none⟩ : Addr).add j) = some w' := fun j w' hj => by
      have hjl : j < ys.length := by
        rw [← hvl]
        exact (List.getElem?_eq_some_iff.1 hj).1
      have hc : cur[j]? = (vals .u8 ys)[j]? := by rw [← htk, List.getElem?_take_of_lt hjl, Array.getElem?_toList]
      rw [Addr.add_lit, Nat.zero_add]
      simp only [World.cell?, hh, Option.isSome_none, Bool.false_eq_true, if_false, hc, hj]
    have hr := run_append_grow_string (P := P) X t u o.type 5 i (.int .u8 0) ht hu hi hz ⟨g, 0, none⟩ ys.length cap (vals .u8 ys) (by rw [h4, hvl, Nat.mul_one]) holds tx (by omega) (by omega) (by rw [h5]; exact growslice_fits (by omega) (by omega))
    have hge := grownCap_ge X (ys.length + tx.size) cap 5
    refine run _ _ hr ⟨X.heap.size, _, _, (0, 0), by rw [List.length_append, hsl], hbase, heap_alloc_new X.drew _, .inl rfl, by rw [List.length_append, hsl]; exact hge, ?_, ?_⟩ ⟨rfl, rfl, rfl, by simp, fun k hk _ => heap_alloc_old X.drew _ hk⟩
    · have hz1 : (Value.int IntKind.u8 0).cells.size = 1 := rfl
      simp only [Array.size_append, List.size_toArray, size_zeroCells, hz1, hvl, strCells_length]
      omega
    · rw [hval, List.length_append, hsl]
      simp only [Array.toList_append, List.append_assoc]
      have e : ys.length + tx.size = (vals .u8 ys ++ strCells tx).length := by rw [List.length_append, hvl, strCells_length]
      rw [e, ← List.append_assoc]
      exact List.take_left

end Go.Proofs.YtbfegnbaleclfaaGreatDoor

namespace Go.Proofs.YtbfegnbaleclfaaGreatDoor
open Go.RowKit

set_option maxRecDepth 100000 in
set_option maxHeartbeats 4000000 in
theorem rWrite_any (ds : ByteArray) (s : Sy) (w : World) (hd : DigB (bys ds)) (hn : ds.size ≤ 100000) (hl : (wrL s (bys ds)).length ≤ 100000000000) :
    Calls Tryz.prog 8 #[.string ds, symV s] w fun e w' => e = .returned (.string (mkP (wrL s (bys ds)))) ∧ Below w.heap.size w w' := by
  have HD : Hid (∀ k, k < ds.size → ∃ q, q < 10 ∧ (∀ h : k < ds.size, ds[k].toNat = 48 + q) ∧ (bys ds)[k]? = some (UInt8.ofNat (48 + q)) ∧ digT s (UInt8.ofNat (48 + q)) = s.dig q) := hide (fun k hk => by
    obtain ⟨q, h1, h2, c, h3, h4⟩ := digB_at hd k (by rw [bys_len]; exact hk)
    have hc : c = UInt8.ofNat (48 + q) := by rw [← h4]; simp
    refine ⟨q, h1, fun h => by rw [byt_get ds k h, h2], by rw [h3, hc], ?_⟩
    unfold digT
    rw [← hc, h4]
    congr 1
    omega)
  obtain ⟨i0, hi, hz0, hz1, hz2⟩ := info_parts Tryz.infoBz
  have WL : Hid (∀ k, (wrL s ((bys ds).take k)).length ≤ 100000000000) := hide (fun k => by
    have := wrL_part s (bys ds) 0 k
    rw [List.drop_zero] at this
    omega)
  obtain ⟨SC, hSC⟩ : ∃ SC, SC = symC s := ⟨_, rfl⟩
  have CD : Hid (∀ q, q < 10 → SC[q]? = some (.string (s.dig q))) := hide (fun q h => by rw [hSC]; exact symC_dig s q h)
  obtain ⟨W, hW⟩ : ∃ W, W = w.alloc (.cells SC 26) := ⟨_, rfl⟩
  have BS0 := hide (show Blk W w.heap.size SC 26 by rw [hW]; exact Blk.newAt w w.heap.size rfl _ _)
  have BW : Below w.heap.size w W ∧ W.heap.size = w.heap.size + 1 := by rw [hW]; exact ⟨(Below.refl _ _).alloc (Nat.le_refl _) _, by simp⟩
  obtain ⟨W2, hW2⟩ : ∃ W2, W2 = W.alloc (.cells #[] 5) := ⟨_, rfl⟩
  have B12 : Below W.heap.size W W2 := by rw [hW2]; exact (Below.refl _ _).alloc (Nat.le_refl _) _
  have BS2 := Blk.on BS0 B12
  have O2 : Hid (Ob (w.heap.size + 1) W2 (.slice (some ⟨W.heap.size, 0, none⟩) 0 0) ((wrL s ((bys ds).take 0)).map UInt8.toNat)) := hide (by
    rw [hW2]
    exact ⟨W.heap.size, 0, #[], (0, 0), rfl, by omega, heap_alloc_new _ _, .inl rfl, Nat.le_refl _, rfl, rfl⟩)
  have BB2 := hide (BW.1.trans (B12.mono BW.1.size))
  have HW := hide hW.symm
  have HW2 := hide hW2.symm
  have EV : symV s = .agg SC := by rw [hSC]; rfl
  rw [EV]
  clear hW hW2 BW B12 BS0 EV hSC hd hl
  go_enter Tryz.func8, Tryz.ntmps8
  go_wp2_with (first | simp only [HW.out] | simp only [HW2.out])
  go_loopw [5, 6] (fun x q wr => ∃ k : Nat, k ≤ ds.size ∧ q = .int .i64 (k : Int) ∧ Hid (Blk wr w.heap.size SC 26) ∧ Hid (Ob (w.heap.size + 1) wr x ((wrL s ((bys ds).take k)).map UInt8.toNat)) ∧ Hid (Below w.heap.size w wr)) (fun _ q _ => ds.size - (intOf q).toNat)
  case atStart => exact ⟨0, Nat.zero_le _, rfl, BS2, O2, BB2⟩
  case round =>
    rename_i x _ wr
    obtain ⟨k, hk, rfl, BS, OB, BB⟩ := hrel
    by_cases hlt : k < ds.size
    · obtain ⟨q, hq, hc, hcs, hdg⟩ := HD.out k hlt
      have hc' := hc hlt
      obtain ⟨x, hx⟩ : ∃ x, x = s.dig q := ⟨_, rfl⟩
      have cq : wr.cell? ⟨w.heap.size, q, none⟩ = some (.string x) := by rw [BS.out.cell q, CD.out q hq, hx]
      have q10 : (q : Int) < 10 := by omega
      have hlt' : (k : Int) < (ds.size : Int) := by omega
      have hwr : IntKind.u8.wrap (((48 + q : Nat) : Int) - 48) = (q : Int) := by rw [IntKind.wrap_u8]; omega
      have E1 : wrL s ((bys ds).take (k + 1)) = wrL s ((bys ds).take k) ++ bys x := by
        rw [List.take_add_one, hcs, wrL_app, hx, ← hdg]
        simp [wrL]
      have EX : Hid ((wrL s ((bys ds).take k)).map UInt8.toNat ++ (bys x).map UInt8.toNat = (wrL s ((bys ds).take (k + 1))).map UInt8.toNat) := hide (by rw [E1, List.map_append])
      have LN : Hid ((wrL s ((bys ds).take k)).length + x.size ≤ 100000000000) := hide (by
        have := WL.out (k + 1)
        rw [E1, List.length_append, bys_len] at this
        exact this)
      have BASE : Hid (w.heap.size + 1 ≤ wr.heap.size) := hide BS.out.lt
      clear hx E1 HD hcs hdg hc WL CD HW HW2 O2 BS2 BB2
      go_wp2_with (at_builtin; refine appendS_ob _ rfl _ _ 40 9 rfl i0 Tryz.underlying40 Tryz.underlying9 hi hz0 hz1 hz2 _ _ rfl OB.out x rfl (by rw [List.length_map]; exact LN.out) BASE.out ?_; intro v4 w4 hob hgr)
      have BS4 : Hid (Blk w4 w.heap.size SC 26) := hide (by
        have q := BS.out
        have hlt := q.lt
        unfold Blk at *
        rw [hgr.block _ hlt (fun e => by have := (Ob.lt OB.out _ e.symm).1; omega)]
        exact q)
      have BB4 := hide (BB.out.grown hgr BB.out.size (fun j hj => Nat.le_of_succ_le (Ob.lt OB.out j hj).1))
      rw [EX.out] at hob
      have OB4 := hide hob
      exact ⟨⟨k + 1, by omega, by go_num, BS4, OB4, BB4⟩, by simp [intOf]; omega⟩
    · obtain rfl : k = ds.size := by omega
      have hlt' : ¬ (ds.size : Int) < (ds.size : Int) := by omega
      have e : (bys ds).take ds.size = bys ds := List.take_of_length_le (by rw [bys_len]; exact Nat.le_refl _)
      have CV := convB_ob OB.out
      rw [e] at CV
      have HCV : ∀ X : World, True := fun _ => trivial
      clear HD WL CD HW HW2 O2 BS2 BB2 hlt hk HCV
      go_wp2
      go_ret
      exact ⟨rfl, BB.out⟩

end Go.Proofs.YtbfegnbaleclfaaGreatDoor
