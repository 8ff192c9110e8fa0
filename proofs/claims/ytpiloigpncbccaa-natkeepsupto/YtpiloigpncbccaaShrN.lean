/-
  What nat.Shr does.
-/
import Derived.Test.YtpiloigpncbccaaDown
namespace Go.Proofs.Ytpiloigpncbccaa
open Go.RowKit

set_option maxHeartbeats 2000000 in
theorem shr_bad (ao : Option Addr) (len cap : Nat) (n : Int) (w : World) (hn : n < 0) :
    Calls Try.prog 8 #[.slice ao len cap, .int .i64 n] w (ShPost w 0 0 12) := by
  go_enter Try.func8, Try.ntmps8
  go_wp2
  go_ret2
  exact ⟨_, [], rfl, .inl ⟨rfl, rfl⟩, Is.none (by decide), Below.refl _ _⟩

set_option maxHeartbeats 2000000 in
theorem shr_any (ao : Option Addr) (len cap : Nat) (n : Nat) (xs : List Nat) (w : World) (hn : n ≤ 9223372036854775807) (hl : len ≤ cap) (hc : len ≤ 10000000000 ∧ cap ≤ 9223372036854775807) (hx : xs.length = len) (hax : At .u64 w ao xs) (ox : Ok B64 xs) :
    Calls Try.prog 8 #[.slice ao len cap, .int .i64 (n : Int)] w (ShPost w len (num B64 xs / 2 ^ n) 0) := by
  obtain ⟨xt, hxt⟩ : ∃ z, z = trimmed xs := ⟨_, rfl⟩
  obtain ⟨m, hm⟩ : ∃ m, m = xt.length := ⟨_, rfl⟩
  have hml : m ≤ len := by rw [hm, hxt, ← hx]; exact length_trimmed_le xs
  have axt : At .u64 w ao xt := by rw [hxt]; exact hax.trimmed
  have oxt : Ok B64 xt := by rw [hxt]; exact trimmed_ok ox
  have nx : num B64 xt = num B64 xs := by rw [hxt]; exact num_trimmed _ _
  have t1 : (trimmed xs).length = m := by rw [hm, hxt]
  have T1 : Hid ((trimmed xs).length = m) := t1
  have HM : Hid (m = xt.length) := hm
  have NX : Hid (num B64 xt = num B64 xs) := nx
  have h0 : (0 : Int) ≤ (n : Int) := by omega
  obtain ⟨lm, hlm⟩ : ∃ lm, lm = n / 64 := ⟨_, rfl⟩
  obtain ⟨sh, hsh⟩ : ∃ sh, sh = n % 64 := ⟨_, rfl⟩
  have hlb : lm ≤ 1000000000000000000 := by omega
  have hsb : sh ≤ 63 := by omega
  have q1 : (n : Int) / 64 = (lm : Int) := by omega
  have q2 : (n : Int) % 64 = (sh : Int) := by omega
  have HP : Hid (B64 ^ lm * 2 ^ sh = 2 ^ n) := by rw [hlm, hsh]; exact pow_parts n
  clear hxt hm t1 nx hlm hsh hn
  go_enter Try.func8, Try.ntmps8
  go_wp2_with fail
  refine (trim_to _ len cap m xs _ hl (by omega) hx hax T1.out).mono ?_
  rintro e w' ⟨rfl, rfl⟩
  go_wp2_with fail
  refine (shiftDown_any ao m cap lm sh xt _ (by omega) (by omega) hsb HM.out.symm axt oxt).mono ?_
  rintro e w2 ⟨v, r, rfl, hown, his, hbel⟩
  go_wp2
  go_ret2
  refine ⟨_, r, rfl, hown.mono (Nat.le_refl _) hml, ?_, hbel⟩
  rw [← NX.out, ← HP.out, ← Nat.div_div_eq_div_mul]; exact his

end Go.Proofs.Ytpiloigpncbccaa
