/-
  What nat.shiftDown, nat.Shl and nat.Shr do.
-/
import Derived.Test.YtobloamnaemfnaaGreatDoorVShift
import Derived.Test.YtobloamnaemfnaaGreatDoorVB2
import Derived.Deep.RegionWith
import Derived.Deep.RegionHeld3
namespace Go.Proofs.YtobloamnaemfnaaGreatDoor
open Go.RowKit

structure DownInv (w : World) (n : Nat) (d : Nat → Nat) (k : Nat) (wr : World) : Prop where
  bel : Below w.heap.size w wr
  row : ∃ r, Row .u64 134 wr w.heap.size r ∧ r.length = n ∧ (∀ j, j < k → dg r j = d j)

theorem DownInv.step {w wr wr' : World} {n k : Nat} {d : Nat → Nat} {r : List Nat} (hbel : Below w.heap.size w wr) (hr : Row .u64 134 wr w.heap.size r) (hl : r.length = n) (hd : ∀ j, j < k → dg r j = d j) (hk : k < n)
    (v : Int) (hv : v = ((d k : Nat) : Int)) (hw : Like wr' (wr.setCell ⟨w.heap.size, k, none⟩ (.int .u64 v))) : DownInv w n d (k + 1) wr' := by
  rw [hv] at hw
  refine ⟨hw.below (hbel.setCell (Nat.le_refl _) _), _, (hr.set k (d k)).alike hw, by simp [hl], ?_⟩
  intro j hj
  rw [dg_set _ _ _ _ (by omega)]
  split
  · next e => rw [e]
  · exact hd j (by omega)

theorem down_cell {sh : Nat} (hs : sh ≤ 63) {x y : Nat} (hx : x < B64) :
    bits BinOp.or IntKind.u64 ((x : Int) / 2 ^ sh) (IntKind.u64.wrap ((y : Int) * 2 ^ (64 - sh))) = ((x / 2 ^ sh + y % 2 ^ sh * 2 ^ (64 - sh) : Nat) : Int) := by
  have hp : 0 < (2 : Nat) ^ 64 := Nat.two_pow_pos _
  rw [wrap_shl, shr_nat, or_nat _ _ (Nat.lt_of_le_of_lt (Nat.div_le_self _ _) hx) (by rw [B64_pow]; exact Nat.mod_lt _ hp)]
  rw [or_down (by omega) (by rw [← B64_pow]; exact hx)]

theorem limb_int (ao : Option Addr) (len cap i x : Nat) (I : Int) (w : World) (hl : len ≤ 1000000000000) (hi : i ≤ 1000000000000) (hI : I = (i : Int)) (h : LimbAt w ao len i x) :
    Calls Tryz.prog 228 #[.slice ao len cap, .int .i64 I] w fun e w' => e = .returned (.int .u64 x) ∧ w = w' := by
  subst hI
  exact limb_any ao len cap i x w hl hi h

set_option maxHeartbeats 2000000 in
theorem shiftDown_less (ao : Option Addr) (len cap lm sh : Nat) (w : World) (hlm : len ≤ lm) (_hl : lm ≤ 1000000000000000000) :
    Calls Tryz.prog 250 #[.slice ao len cap, .int .i64 (lm : Int), .int .i64 (sh : Int)] w fun e w' => e = .returned (.slice none 0 0) ∧ w = w' := by
  have h : (len : Int) ≤ (lm : Int) := by omega
  go_enter Tryz.func250, Tryz.ntmps250
  go_wp2
  go_ret
  exact ⟨rfl, rfl⟩

set_option maxRecDepth 100000 in
set_option maxHeartbeats 2000000 in
theorem shiftDown_at (b o len cap lm sh : Nat) (xs : List Nat) (w : World) (hl : len ≤ 100000000000) (hlm : lm < len) (hsh : sh ≤ 63) (hx : xs.length = len) (hb : b < w.heap.size)
    (hcell : ∀ i, i < xs.length → w.cell? ⟨b, o + i, none⟩ = some (.int .u64 ((dg xs i : Nat) : Int))) (ox : Ok B64 xs) :
    Calls Tryz.prog 250 #[.slice (some ⟨b, o, none⟩) len cap, .int .i64 (lm : Int), .int .i64 (sh : Int)] w (NatPost w (len - lm) (num B64 xs / B64 ^ lm / 2 ^ sh)) := by
  obtain ⟨i0, hi, hz0, hz1, hz2⟩ := info_parts Tryz.infoU
  obtain ⟨n, hn⟩ : ∃ n, n + lm = len := ⟨len - lm, by omega⟩
  have h : (lm : Int) < (len : Int) := by omega
  have hn0 : len - lm = n := by omega
  rw [hn0]
  have hnl : (len : Int) - (lm : Int) = (n : Int) := by omega
  have HN : Hid (n + lm = len) := hn
  have hn1 : n ≤ 100000000000 := by omega
  have hn2 : n + lm ≤ len := by omega
  clear hn hn0
  go_enter Tryz.func250, Tryz.ntmps250
  go_wp2_with (at_make; refine wpList_make_full _ rfl _ _ 118 rfl w.heap.size 134 i0 (.int .u64 0) 1 Tryz.underlying118 hi hz0 hz1 _ _ _ _ n rfl rfl (by omega) (by omega) (by rw [hz2]; omega) (by unfold maxLen; omega) (Nat.le_refl _) ?_)
  intro w1 hown hgrow
  have hr1 : Row .u64 134 w1 w.heap.size (List.replicate n 0) := Row.made hown
  have hb1 : Below w.heap.size w w1 := (Below.refl _ _).grown hgrow (Nat.le_refl _) (fun k hk => by cases hk)
  clear hown hgrow
  go_wp2
  go_loopw [8, 20] (fun _ i wr => ∃ k : Nat, k ≤ n ∧ i = .int .i64 k ∧ DownInv w n (downD 64 sh (fun i => dg xs (lm + i))) k wr) (fun _ i _ => n - (intOf i).toNat)
  case atStart => exact ⟨0, Nat.zero_le _, rfl, hb1, _, hr1, by simp, by omega⟩
  case round =>
    obtain ⟨k, hk, rfl, hinv⟩ := hrel
    by_cases hlt : k < n
    · obtain ⟨r, hr, hrl, hrd⟩ := hinv.row
      have hbr := hinv.bel
      have c0 : wr.cell? ⟨b, o + (lm + k), none⟩ = some (.int .u64 ((dg xs (lm + k) : Nat) : Int)) := (hbr.cell hb).trans (hcell (lm + k) (by omega))
      have hlimb : ∀ wq : World, wq.heap = wr.heap → LimbAt wq (some ⟨b, o, none⟩) len (lm + k + 1) (dg xs (lm + k + 1)) := by
        intro wq hq
        refine ⟨fun h => ⟨b, o, rfl, ?_⟩, fun h => dg_out (by omega)⟩
        rw [World.cell?_of_block (w := w) (by rw [hq]; exact hbr.block b hb)]
        exact hcell _ (by omega)
      have c1 := hr.cell k (by omega)
      have f1 := hr.free k
      have e0 : (k : Int) < (n : Int) := by omega
      have hst := fun wr' hw => DownInv.step (wr' := wr') hbr hr hrl hrd hlt _ (down_cell (x := dg xs (lm + k)) (y := dg xs (lm + (k + 1))) hsh (ox _)) hw
      obtain ⟨x, hxk⟩ : ∃ x, x = dg xs (lm + k) := ⟨_, rfl⟩
      obtain ⟨y, hyk⟩ : ∃ y, y = dg xs (lm + k + 1) := ⟨_, rfl⟩
      rw [show lm + (k + 1) = lm + k + 1 by omega, ← hxk, ← hyk] at hst
      rw [← hxk] at c0
      rw [← hyk] at hlimb
      have HS : Hid (∀ wr', Like wr' (wr.setCell ⟨w.heap.size, k, none⟩ (.int .u64 (bits BinOp.or IntKind.u64 ((x : Int) / 2 ^ sh) (IntKind.u64.wrap ((y : Int) * 2 ^ (64 - sh)))))) → DownInv w n (downD 64 sh (fun i => dg xs (lm + i))) (k + 1) wr') := hst
      obtain ⟨j, hj⟩ : ∃ j, j = lm + k := ⟨_, rfl⟩
      rw [← hj] at c0 hlimb
      have hsum : (lm : Int) + (k : Int) = (j : Int) := by omega
      have hjl : (j : Int) < (len : Int) := by omega
      have hjb : j + 1 ≤ 1000000000000 := by omega
      have hlm1 : lm ≤ 100000000000 := by omega
      have hk1 : k ≤ 100000000000 := by omega
      have hw1 : IntKind.i64.wrap (j : Int) = (j : Int) := by
        simp [IntKind.wrap, IntKind.bits, IntKind.signed]; omega
      obtain ⟨t, ht⟩ : ∃ t, t = 64 - sh := ⟨_, rfl⟩
      have htl : t ≤ 64 := by omega
      have hw3 : IntKind.i64.wrap (64 - (sh : Int)) = (t : Int) := by
        rw [show (64 - (sh : Int)) = (t : Int) by omega]; simp [IntKind.wrap, IntKind.bits, IntKind.signed]; omega
      have hne : b ≠ w.heap.size := by omega
      have hne' : w.heap.size ≠ b := by omega
      have hw2 : IntKind.i64.wrap ((j : Int) + 1) = (j : Int) + 1 := by
        simp [IntKind.wrap, IntKind.bits, IntKind.signed]; omega
      have HL : Hid (∀ wq : World, wq.heap = wr.heap → LimbAt wq (some ⟨b, o, none⟩) len (j + 1) y) := hlimb
      clear hxk hyk hst hinv hr hrl hrd hcell ox hlimb hnl hj
      rw [← ht] at HS
      clear ht
      go_wp2
      go_region_held3 (fun w' => w'.cell? ⟨b, o + j, none⟩ = some (.int .u64 (x : Int))) (go_keep) (first | (go_at_call 228; refine (limb_int (some ⟨b, o, none⟩) len cap (j + 1) y _ _ (by omega) hjb (by omega) (by exact HL.out _ rfl)).mono ?_; rintro e w' ⟨rfl, rfl⟩))
      go_wp2
      go_roundw
      case rel => exact ⟨k + 1, by omega, by go_num, HS.out _ ⟨rfl, rfl, rfl, rfl⟩⟩
      case measure => simp [intOf]; omega
    · obtain rfl : k = n := by omega
      obtain ⟨r, hr, hrl, hrd⟩ := hinv.row
      have hbel := hinv.bel
      have hdn := down_num (n := 64) (s := sh) (lm := lm) (by omega) (xs := xs) (r := r) (by rw [← B64_pow]; exact ox) (by omega) (by have := HN.out; omega) (fun j hj => hrd j (by omega))
      rw [← B64_pow] at hdn
      have HD : Hid (Ok B64 r ∧ num B64 r = num B64 xs / B64 ^ lm / 2 ^ sh) := hdn
      obtain ⟨q, hq⟩ : ∃ q, q = (trimmed r).length := ⟨_, rfl⟩
      have HQ : Hid ((trimmed r).length = q) := hq.symm
      have HL : Hid (r.length = k) := hrl
      clear hdn hq hrl hrd hinv hnl
      go_wp2_with fail
      refine (trim_to _ k k q r _ (Nat.le_refl _) (by omega) HL.out hr.at HQ.out).mono ?_
      rintro e w' ⟨rfl, rfl⟩
      go_wp2
      go_ret
      refine ⟨_, trimmed r, rfl, .inr ⟨w.heap.size, r, ?_, Nat.le_refl _, hr, ?_, ?_⟩, ?_, hbel⟩
      · rw [HL.out, HQ.out]; rfl
      · rw [length_trimmed]; rfl
      · rw [HL.out]; exact Nat.le_refl _
      · rw [← HD.out.2]; exact Is.trimmed HD.out.1

theorem shiftDown_any (ao : Option Addr) (len cap lm sh : Nat) (xs : List Nat) (w : World) (hl : len ≤ 100000000000) (hlm : lm ≤ 1000000000000000000) (hsh : sh ≤ 63) (hx : xs.length = len) (hax : At .u64 w ao xs) (ox : Ok B64 xs) :
    Calls Tryz.prog 250 #[.slice ao len cap, .int .i64 (lm : Int), .int .i64 (sh : Int)] w (NatPost w len (num B64 xs / B64 ^ lm / 2 ^ sh)) := by
  by_cases h : len ≤ lm
  · refine (shiftDown_less ao len cap lm sh w h hlm).mono ?_
    rintro e w' ⟨rfl, rfl⟩
    refine ⟨_, [], rfl, .inl ⟨rfl, rfl⟩, ?_, Below.refl _ _⟩
    have h1 := num_lt ox
    have h2 : num B64 xs / B64 ^ lm = 0 := Nat.div_eq_of_lt (Nat.lt_of_lt_of_le h1 (Nat.pow_le_pow_right (by decide) (by omega)))
    rw [h2, Nat.zero_div]
    exact Is.none (by decide)
  · rcases hax with rfl | ⟨b, o, rfl, h2, h3⟩
    · simp at hx; omega
    · refine (shiftDown_at b o len cap lm sh xs w hl (by omega) hsh hx h2 h3 ox).mono ?_
      rintro e w' ⟨v, r, h1, h2, h3, h4⟩
      exact ⟨v, r, h1, h2.mono (Nat.le_refl _) (by omega), h3, h4⟩

def ShPost (w : World) (m n : Nat) (err : Int) (e : Ending) (w' : World) : Prop :=
  ∃ v r, e = .returned (.tuple #[v, .int .i64 err]) ∧ Own .u64 134 w' w.heap.size m v r ∧ Is B64 r n ∧ Below w.heap.size w w'

theorem pow_parts (n : Nat) : B64 ^ (n / 64) * 2 ^ (n % 64) = 2 ^ n := by
  rw [B64_pow, ← Nat.pow_mul, ← Nat.pow_add]
  congr 1; omega

set_option maxHeartbeats 2000000 in
theorem shl_any (ao : Option Addr) (len cap n : Nat) (xs : List Nat) (w : World) (hn : n ≤ 65536) (hl : len ≤ cap) (hc : len ≤ 10000000000 ∧ cap ≤ 9223372036854775807) (hx : xs.length = len) (hax : At .u64 w ao xs) (ox : Ok B64 xs) :
    Calls Tryz.prog 252 #[.slice ao len cap, .int .i64 (n : Int)] w (ShPost w (1025 + len) (num B64 xs * 2 ^ n) 0) := by
  obtain ⟨xt, hxt⟩ : ∃ z, z = trimmed xs := ⟨_, rfl⟩
  obtain ⟨m, hm⟩ : ∃ m, m = xt.length := ⟨_, rfl⟩
  have hml : m ≤ len := by rw [hm, hxt, ← hx]; exact length_trimmed_le xs
  have axt : At .u64 w ao xt := by rw [hxt]; exact hax.trimmed
  have oxt : Ok B64 xt := by rw [hxt]; exact trimmed_ok ox
  have nx : num B64 xt = num B64 xs := by rw [hxt]; exact num_trimmed _ _
  have t1 : (trimmed xs).length = m := by rw [hm, hxt]
  have T1 : Hid ((trimmed xs).length = m) := t1
  have HM : Hid (m = xt.length) := hm
  have NX : Hid (num B64 xt = num B64 xs) := nx
  have h0 : (0 : Int) ≤ (n : Int) := by omega
  have h1 : (n : Int) ≤ 65536 := by omega
  obtain ⟨lm, hlm⟩ : ∃ lm, lm = n / 64 := ⟨_, rfl⟩
  obtain ⟨sh, hsh⟩ : ∃ sh, sh = n % 64 := ⟨_, rfl⟩
  have hlb : lm ≤ 1024 := by omega
  have hsb : sh ≤ 63 := by omega
  have q1 : (n : Int) / 64 = (lm : Int) := by omega
  have q2 : (n : Int) % 64 = (sh : Int) := by omega
  have HP : Hid (B64 ^ lm * 2 ^ sh = 2 ^ n) := by rw [hlm, hsh]; exact pow_parts n
  clear hxt hm t1 nx hlm hsh
  go_enter Tryz.func252, Tryz.ntmps252
  go_wp2_with fail
  refine (trim_to _ len cap m xs _ hl (by omega) hx hax T1.out).mono ?_
  rintro e w' ⟨rfl, rfl⟩
  go_wp2_with fail
  refine (shiftUp_any ao m cap lm sh xt _ (by omega) (by omega) hsb HM.out.symm axt oxt).mono ?_
  rintro e w2 ⟨r, rfl, hr, hrl, hro, hrn, hbel⟩
  obtain ⟨q, hq⟩ : ∃ q, q = (trimmed r).length := ⟨_, rfl⟩
  have HQ : Hid ((trimmed r).length = q) := hq.symm
  have HL : Hid (r.length = lm + m + 1) := hrl
  have HR : Hid (num B64 r = num B64 xt * 2 ^ sh * B64 ^ lm) := hrn
  clear hq hrl hrn
  go_wp2_with fail
  refine (trim_to _ _ _ q r _ (Nat.le_refl _) (by omega) HL.out hr.at HQ.out).mono ?_
  rintro e w' ⟨rfl, rfl⟩
  go_wp2
  go_ret2
  refine ⟨_, trimmed r, rfl, .inr ⟨w.heap.size, r, ?_, Nat.le_refl _, hr, ?_, ?_⟩, ?_, hbel⟩
  · rw [HL.out, HQ.out]; rfl
  · rw [length_trimmed]; rfl
  · rw [HL.out]; omega
  · rw [← NX.out, ← HP.out, Nat.mul_comm (B64 ^ lm), ← Nat.mul_assoc, ← HR.out]; exact Is.trimmed hro

end Go.Proofs.YtobloamnaemfnaaGreatDoor
