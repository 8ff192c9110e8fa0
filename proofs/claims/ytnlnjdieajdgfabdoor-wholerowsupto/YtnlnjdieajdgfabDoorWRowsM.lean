/-
  Plain mathematics: texts behind texts, and how long a number's text is.
-/
import Derived.Test.YtnlnjdieajdgfabDoorWBackM
import Derived.Test.YtnlnjdieajdgfabDoorWPow
import Derived.Test.YtnlnjdieajdgfabDoorCmpN
namespace Go.Proofs.YtnlnjdieajdgfabDoor

theorem bys_append (a b : ByteArray) : bys (a ++ b) = bys a ++ bys b := by
  unfold bys; simp

theorem byt_append_right (a b : List UInt8) (k : Nat) : byt (a ++ b) (a.length + k) = byt b k := by
  unfold byt; rw [List.getElem?_append_right (by omega), Nat.add_sub_cancel_left]

theorem DigB.append {a b : List UInt8} (ha : DigB a) (hb : DigB b) : DigB (a ++ b) := by
  intro k hk
  by_cases e : k < a.length
  · rw [byt_append_left _ _ e]; exact ha k e
  · rw [List.length_append] at hk
    have h := hb (k - a.length) (by omega)
    have e2 : byt (a ++ b) k = byt b (k - a.length) := by
      have := byt_append_right a b (k - a.length)
      rwa [show a.length + (k - a.length) = k by omega] at this
    rw [e2]; exact h

theorem OkT.append {a b : List UInt8} (ha : OkT a) (hn : a ≠ [48]) (hb : DigB b) : OkT (a ++ b) := by
  refine ⟨fun e => ha.1 (List.append_eq_nil_iff.1 e).1, fun e => ?_, ha.2.2.append hb⟩
  rw [byt_append_left _ _ (List.length_pos_iff.2 ha.1)] at e
  exact absurd (ha.2.1 e) hn

theorem not_okT_zero {b : List UInt8} (hb : b ≠ []) : ¬ OkT ([48] ++ b) := by
  intro h
  have h1 := congrArg List.length (h.2.1 rfl)
  rw [List.length_append] at h1
  have h2 := List.length_pos_iff.2 hb
  simp only [List.length_cons, List.length_nil] at h1
  omega

theorem dd_lt : ∀ n u : Nat, u ≤ n → u < 10 ^ (Lib.decDigits u).length ∧ (u ≠ 0 → 10 ^ ((Lib.decDigits u).length - 1) ≤ u)
  | n, u, hn => by
    by_cases h : u < 10
    · rw [Lib.decDigits_one h]
      exact ⟨by simpa using h, fun h0 => by simp; omega⟩
    · rcases n with _ | n
      · omega
      · obtain ⟨h1, h2⟩ := dd_lt n (u / 10) (by omega)
        have h3 := h2 (by omega)
        have hl : 0 < (Lib.decDigits (u / 10)).length := List.length_pos_iff.2 (dd_ne _)
        rw [dd_big h, List.length_append, List.length_singleton, Nat.add_sub_cancel]
        obtain ⟨m, hm⟩ : ∃ m, (Lib.decDigits (u / 10)).length = m + 1 := ⟨(Lib.decDigits (u / 10)).length - 1, by omega⟩
        rw [hm] at h1 h3 ⊢
        rw [Nat.add_sub_cancel] at h3
        rw [Nat.pow_succ] at h1
        rw [Nat.pow_succ, Nat.pow_succ]
        generalize 10 ^ m = p at *
        exact ⟨by omega, fun _ => by omega⟩

theorem dd_zero {u : Nat} (h : Lib.decDigits u = [48]) : u = 0 := by
  rw [← dd_val u, h]; rfl

theorem dd_short {u l : Nat} (h : u < B64 ^ l) : (Lib.decDigits u).length ≤ 20 * l + 1 := by
  by_cases h0 : u = 0
  · subst h0; rw [Lib.decDigits_one (by omega)]; simp
  · have h1 := (dd_lt u u (Nat.le_refl _)).2 h0
    have h2 : B64 ^ l ≤ 10 ^ (20 * l) := by
      rw [Nat.pow_mul]; exact Nat.pow_le_pow_left (by decide +kernel) l
    have h3 : 10 ^ ((Lib.decDigits u).length - 1) < 10 ^ (20 * l) := by omega
    have := (Nat.pow_lt_pow_iff_right (by omega : 1 < 10)).1 h3
    omega

theorem pow10_at (n : Int) (k : Nat) (w : World) (hn : n = (k : Int)) (hk : k ≤ 8192) : Calls Tryd.prog 10 #[.int .i64 n] w (ShPost w 3000 (10 ^ k) 0) := by
  subst hn; exact pow10_in k w hk

theorem num10 : num B64 [10] = 10 := by decide +kernel

end Go.Proofs.YtnlnjdieajdgfabDoor
