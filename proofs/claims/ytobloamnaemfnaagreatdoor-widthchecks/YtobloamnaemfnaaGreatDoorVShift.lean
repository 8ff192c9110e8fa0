/-
  What nat.shiftUp, nat.shiftDown, nat.Shl and nat.Shr do.
-/
import Derived.Test.YtobloamnaemfnaaGreatDoorVUint
import Derived.Test.YtobloamnaemfnaaGreatDoorVB2
namespace Go.Proofs.YtobloamnaemfnaaGreatDoor
open Go.RowKit

theorem wrap_shl (x s : Nat) : IntKind.u64.wrap ((x : Int) * 2 ^ s) = ((x * 2 ^ s % 2 ^ 64 : Nat) : Int) := by
  rw [IntKind.wrap_u64]
  have : ((x : Int) * 2 ^ s) = ((x * 2 ^ s : Nat) : Int) := by push_cast; rfl
  rw [this]
  have h64 : (2 : Nat) ^ 64 = 18446744073709551616 := by decide +kernel
  rw [h64]; omega

theorem shr_nat (x s : Nat) : (x : Int) / 2 ^ s = ((x / 2 ^ s : Nat) : Int) := by push_cast; rfl

theorem or_nat (a b : Nat) (ha : a < B64) (hb : b < B64) : bits .or .u64 (a : Int) (b : Int) = ((a ||| b : Nat) : Int) := bits_or_u64_nat a b ha hb

def UpPost (w : World) (n v : Nat) (e : Ending) (w' : World) : Prop :=
  ∃ r, e = .returned (.slice (some ⟨w.heap.size, 0, none⟩) n n) ∧ Row .u64 134 w' w.heap.size r ∧ r.length = n ∧ Ok B64 r ∧ num B64 r = v ∧ Below w.heap.size w w'

structure UpInv (w : World) (n lm sh : Nat) (xs : List Nat) (k : Nat) (wr : World) : Prop where
  bel : Below w.heap.size w wr
  row : ∃ r, Row .u64 134 wr w.heap.size r ∧ r.length = n ∧ Ok B64 r ∧ (∀ j, lm + k < j → dg r j = 0) ∧ dg r (lm + k) < 2 ^ sh ∧ num B64 r = V B64 (dg xs) k * 2 ^ sh * B64 ^ lm

theorem UpInv.start {w w1 : World} {n lm sh : Nat} {xs : List Nat} (hb : Below w.heap.size w w1) (hr : Row .u64 134 w1 w.heap.size (List.replicate n 0)) : UpInv w n lm sh xs 0 w1 :=
  ⟨hb, _, hr, by simp, Ok.replicate (by decide) n, fun j _ => dg_replicate n j, by rw [dg_replicate]; exact Nat.two_pow_pos _, by rw [num_replicate]; simp [V]⟩

theorem UpInv.step {w wr wr' : World} {n lm sh k : Nat} {xs r : List Nat} (hbel : Below w.heap.size w wr) (hr : Row .u64 134 wr w.heap.size r) (hl : r.length = n) (ho : Ok B64 r)
    (hz : ∀ j, lm + k < j → dg r j = 0) (hy : dg r (lm + k) < 2 ^ sh) (hn : num B64 r = V B64 (dg xs) k * 2 ^ sh * B64 ^ lm) (hk : lm + k + 1 < n) (hsh : sh ≤ 63) (hx : dg xs k < B64)
    (hw : Like wr' ((wr.setCell ⟨w.heap.size, lm + k, none⟩ (.int .u64 (bits BinOp.or IntKind.u64 ((dg r (lm + k) : Nat) : Int) (IntKind.u64.wrap (((dg xs k : Nat) : Int) * 2 ^ sh))))).setCell ⟨w.heap.size, lm + k + 1, none⟩ (.int .u64 (((dg xs k : Nat) : Int) / 2 ^ (64 - sh))))) :
    UpInv w n lm sh xs (k + 1) wr' := by
  have hp : 0 < (2 : Nat) ^ 64 := Nat.two_pow_pos _
  rw [wrap_shl, shr_nat, or_nat _ _ (ho _) (by rw [B64_pow]; exact Nat.mod_lt _ hp)] at hw
  have hst := up_step (n := 64) (s := sh) (by omega) (r := r) (i := lm + k) (x := dg xs k) (by rw [← B64_pow]; exact ho) (by omega) hy (hz _ (by omega)) (by rw [← B64_pow]; exact hx)
  have hhi := high_lt (n := 64) (s := sh) (by omega) (x := dg xs k) (by rw [← B64_pow]; exact hx)
  rw [← B64_pow] at hst
  rw [← B64_pow] at hw
  refine ⟨hw.below ((hbel.setCell (Nat.le_refl _) _).setCell (Nat.le_refl _) _), _, ((hr.set _ _).set _ _).alike hw, by simp [hl], hst.1, ?_, ?_, ?_⟩
  · intro j hj
    rw [dg_set _ _ _ _ (by simp; omega), if_neg (by omega), dg_set _ _ _ _ (by omega), if_neg (by omega)]
    exact hz j (by omega)
  · rw [show lm + (k + 1) = lm + k + 1 by omega, dg_set _ _ _ _ (by simp; omega), if_pos rfl]; exact hhi
  · rw [hst.2, hn]
    simp only [V]
    rw [Nat.add_mul, Nat.add_mul, Nat.pow_add]
    congr 1
    rw [Nat.mul_assoc (dg xs k), Nat.mul_comm (B64 ^ lm), Nat.mul_assoc, Nat.mul_assoc, Nat.mul_left_comm (2 ^ sh)]

set_option maxHeartbeats 2000000 in
theorem shiftUp_at (b o len cap lm sh : Nat) (xs : List Nat) (w : World) (hl : len ≤ 100000000000) (hlm : lm ≤ 100000000000) (hsh : sh ≤ 63) (hx : xs.length = len) (hb : b < w.heap.size)
    (hcell : ∀ i, i < xs.length → w.cell? ⟨b, o + i, none⟩ = some (.int .u64 ((dg xs i : Nat) : Int))) (ox : Ok B64 xs) :
    Calls Tryz.prog 246 #[.slice (some ⟨b, o, none⟩) len cap, .int .i64 (lm : Int), .int .i64 (sh : Int)] w (UpPost w (lm + len + 1) (num B64 xs * 2 ^ sh * B64 ^ lm)) := by
  obtain ⟨i0, hi, hz0, hz1, hz2⟩ := info_parts Tryz.infoU
  go_enter Tryz.func246, Tryz.ntmps246
  go_wp2_with (at_make; refine wpList_make_full _ rfl _ _ 118 rfl w.heap.size 134 i0 (.int .u64 0) 1 Tryz.underlying118 hi hz0 hz1 _ _ _ _ (lm + len + 1) rfl rfl (by omega) (by omega) (by rw [hz2]; omega) (by unfold maxLen; omega) (Nat.le_refl _) ?_)
  intro w1 hown hgrow
  have hr1 : Row .u64 134 w1 w.heap.size (List.replicate (lm + len + 1) 0) := Row.made hown
  have hb1 : Below w.heap.size w w1 := (Below.refl _ _).grown hgrow (Nat.le_refl _) (fun k hk => by cases hk)
  clear hown hgrow
  go_wp2
  go_loopw [8, 9, 18] (fun _ _ i wr => ∃ k : Nat, k ≤ len ∧ i = .int .i64 k ∧ UpInv w (lm + len + 1) lm sh xs k wr) (fun _ _ i _ => len - (intOf i).toNat)
  case atStart => exact ⟨0, Nat.zero_le _, rfl, UpInv.start hb1 hr1⟩
  case round =>
    obtain ⟨k, hk, rfl, hinv⟩ := hrel
    by_cases hlt : k < len
    · obtain ⟨r, hr, hrl, hro, hrz, hry, hrn⟩ := hinv.row
      have hbr := hinv.bel
      have c0 : wr.cell? ⟨b, o + k, none⟩ = some (.int .u64 ((dg xs k : Nat) : Int)) := (hbr.cell hb).trans (hcell k (by omega))
      have c1 := hr.cell (lm + k) (by omega)
      have f1 := hr.free (lm + k)
      have c2 := hr.cell (lm + k + 1) (by omega)
      have f2 := hr.free (lm + k + 1)
      have e1 : ((lm : Int) + (k : Int)) < ((lm + len + 1 : Nat) : Int) := by omega
      have e2 : ((lm : Int) + (k : Int) + 1) < ((lm + len + 1 : Nat) : Int) := by omega
      have e0 : (k : Int) < (len : Int) := by omega
      have hst := fun wr' hw => UpInv.step (wr' := wr') hbr hr hrl hro hrz hry hrn (by omega) hsh (ox k) hw
      obtain ⟨x, hxk⟩ : ∃ x, x = dg xs k := ⟨_, rfl⟩
      obtain ⟨y, hyk⟩ : ∃ y, y = dg r (lm + k) := ⟨_, rfl⟩
      rw [← hxk, ← hyk] at hst
      rw [← hxk] at c0
      rw [← hyk] at c1
      have HS : Hid (∀ wr', Like wr' ((wr.setCell ⟨w.heap.size, lm + k, none⟩ (.int .u64 (bits BinOp.or IntKind.u64 (y : Int) (IntKind.u64.wrap ((x : Int) * 2 ^ sh))))).setCell ⟨w.heap.size, lm + k + 1, none⟩ (.int .u64 ((x : Int) / 2 ^ (64 - sh)))) → UpInv w (lm + len + 1) lm sh xs (k + 1) wr') := hst
      clear hxk hyk hst hinv hr hrl hro hrz hry hrn hcell ox
      go_wp2
      go_region
      go_wp2
      go_roundw
      case rel => exact ⟨k + 1, by omega, by go_num, HS.out _ ⟨rfl, rfl, rfl, rfl⟩⟩
      case measure => simp [intOf]; omega
    · obtain rfl : k = len := by omega
      go_wp2
      go_ret
      obtain ⟨r, hr, hrl, hro, hrz, hry, hrn⟩ := hinv.row
      refine ⟨r, rfl, hr, hrl, hro, ?_, hinv.bel⟩
      rw [hrn, ← hx]; rfl

set_option maxHeartbeats 2000000 in
theorem shiftUp_nil (ao : Option Addr) (cap lm sh : Nat) (w : World) (hlm : lm ≤ 100000000000) :
    Calls Tryz.prog 246 #[.slice ao 0 cap, .int .i64 (lm : Int), .int .i64 (sh : Int)] w (UpPost w (lm + 1) 0) := by
  obtain ⟨i0, hi, hz0, hz1, hz2⟩ := info_parts Tryz.infoU
  go_enter Tryz.func246, Tryz.ntmps246
  go_wp2_with (at_make; refine wpList_make_full _ rfl _ _ 118 rfl w.heap.size 134 i0 (.int .u64 0) 1 Tryz.underlying118 hi hz0 hz1 _ _ _ _ (lm + 1) rfl rfl (by omega) (by omega) (by rw [hz2]; omega) (by unfold maxLen; omega) (Nat.le_refl _) ?_)
  intro w1 hown hgrow
  have hr1 : Row .u64 134 w1 w.heap.size (List.replicate (lm + 1) 0) := Row.made hown
  have hb1 : Below w.heap.size w w1 := (Below.refl _ _).grown hgrow (Nat.le_refl _) (fun k hk => by cases hk)
  clear hown hgrow
  go_wp2
  refine wp_loop_rounds 1 ?_
  rw [rounds_succ]
  go_wp2
  go_ret
  exact ⟨_, rfl, hr1, by simp, Ok.replicate (by decide) _, num_replicate _ _, hb1⟩

theorem shiftUp_any (ao : Option Addr) (len cap lm sh : Nat) (xs : List Nat) (w : World) (hl : len ≤ 100000000000) (hlm : lm ≤ 100000000000) (hsh : sh ≤ 63) (hx : xs.length = len) (hax : At .u64 w ao xs) (ox : Ok B64 xs) :
    Calls Tryz.prog 246 #[.slice ao len cap, .int .i64 (lm : Int), .int .i64 (sh : Int)] w (UpPost w (lm + len + 1) (num B64 xs * 2 ^ sh * B64 ^ lm)) := by
  rcases hax with rfl | ⟨b, o, rfl, h2, h3⟩
  · obtain rfl : len = 0 := hx.symm
    have := shiftUp_nil ao cap lm sh w hlm
    rw [show num B64 [] = 0 from rfl, Nat.zero_mul, Nat.zero_mul]
    exact this
  · exact shiftUp_at b o len cap lm sh xs w hl hlm hsh hx h2 h3 ox

end Go.Proofs.YtobloamnaemfnaaGreatDoor
