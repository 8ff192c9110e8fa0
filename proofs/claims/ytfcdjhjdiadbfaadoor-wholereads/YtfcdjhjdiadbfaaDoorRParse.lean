/-
  What the reference's Parse does.
-/
import Derived.Test.YtfcdjhjdiadbfaaDoorROf
import Derived.Test.YtfcdjhjdiadbfaaDoorWBackM
namespace Go.Proofs.YtfcdjhjdiadbfaaDoor
open Go.RowKit

/-- What the reference's Parse answers: the number n, and the error er. -/
def RPPost (w : World) (m n : Nat) (er : Int) (e : Ending) (w' : World) : Prop :=
  ∃ ao cap ys, e = .returned (.tuple #[.slice ao (List.length ys) cap, .int .i64 er]) ∧ ys.length ≤ cap ∧ At .u32 w' ao ys ∧ Is 65536 ys n ∧ ys.length ≤ m ∧ Below w.heap.size w w'

set_option maxHeartbeats 400000 in
theorem rparse_long (s : ByteArray) (w : World) (h : 8192 < (s.size : Int)) :
    Calls Tryd.prog 28 #[.string s] w (RPPost w 0 0 21) := by
  go_enter Tryd.func28, Tryd.ntmps28
  go_wp2
  go_ret2
  exact ⟨none, 0, [], rfl, Nat.le_refl _, At.nil _ _ _, Is.none (by decide), Nat.le_refl _, Below.refl _ _⟩

set_option maxRecDepth 100000 in
set_option maxHeartbeats 1000000 in
theorem rparse_bad (s : ByteArray) (w : World) (n : Nat) (hn : s.size = n) (hle : n ≤ 8192) (hno : ¬ OkT (bys s)) :
    Calls Tryd.prog 28 #[.string s] w (RPPost w 0 0 20) := by
  have hle' : ¬ 8192 < (s.size : Int) := by omega
  have HNO := hide hno
  have HL : Hid ((bys s).length = n) := by rw [← hn]; exact bys_len s
  clear hno
  go_enter Tryd.func28, Tryd.ntmps28
  go_wp2
  go_loopw [4] (fun i wr => ∃ k : Nat, k ≤ n ∧ i = .int .i64 (k : Int) ∧ wr = w ∧ (∀ j, j < k → 48 ≤ byt (bys s) j ∧ byt (bys s) j ≤ 57)) (fun i _ => n - (intOf i).toNat)
  case atStart => exact ⟨0, Nat.zero_le _, rfl, rfl, fun j hj => by omega⟩
  case round =>
    obtain ⟨k, hk, rfl, rfl, hall⟩ := hrel
    have HA := hide hall
    clear hall
    by_cases hlt : k < n
    · have hlt' : (k : Int) < (s.size : Int) := by omega
      have hks : k < s.size := by omega
      have hg : ∀ h : k < s.size, s[k].toNat = byt (bys s) k := fun h => byt_get s k h
      obtain ⟨b, hb⟩ : ∃ b, b = byt (bys s) k := ⟨_, rfl⟩
      rw [← hb] at hg
      have HB := hide hb
      clear hb
      by_cases h1 : b < 48
      · have h1' : (b : Int) < 48 := by omega
        go_wp2
        go_ret2
        exact ⟨none, 0, [], rfl, Nat.le_refl _, At.nil _ _ _, Is.none (by decide), Nat.le_refl _, Below.refl _ _⟩
      · have h1' : ¬ (b : Int) < 48 := by omega
        by_cases h2 : 57 < b
        · have h2' : (57 : Int) < (b : Int) := by omega
          go_wp2
          go_ret2
          exact ⟨none, 0, [], rfl, Nat.le_refl _, At.nil _ _ _, Is.none (by decide), Nat.le_refl _, Below.refl _ _⟩
        · have h2' : ¬ (57 : Int) < (b : Int) := by omega
          have hn' : ∀ j, j < k + 1 → 48 ≤ byt (bys s) j ∧ byt (bys s) j ≤ 57 := by
            intro j hj
            by_cases e : j = k
            · rw [e, ← HB.out]; omega
            · exact HA.out j (by omega)
          have HN := hide hn'
          clear hn'
          go_wp2
          exact ⟨⟨k + 1, by omega, by go_num, trivial, HN.out⟩, by simp [intOf]; omega⟩
    · obtain rfl : k = n := by omega
      have hlt' : ¬ (k : Int) < (s.size : Int) := by omega
      have hdg : DigB (bys s) := fun j hj => HA.out j (by rw [HL.out] at hj; exact hj)
      rcases Nat.eq_zero_or_pos s.size with h0 | hpos
      · have hb : bys s = [] := List.length_eq_zero_iff.1 (by rw [bys_len]; exact h0)
        have he : s.toList.isEmpty = true := by rw [sl, hb]; rfl
        clear hdg hb
        go_wp2
        go_ret2
        exact ⟨none, 0, [], rfl, Nat.le_refl _, At.nil _ _ _, Is.none (by decide), Nat.le_refl _, Below.refl _ _⟩
      · have hne : bys s ≠ [] := fun h => by have hl := bys_len s; rw [h] at hl; simp at hl; omega
        have he : s.toList.isEmpty = false := by rw [sl]; simp [hne]
        have hg : ∀ h : 0 < s.size, s[0].toNat = byt (bys s) 0 := fun h => byt_get s 0 h
        have h48 : byt (bys s) 0 = 48 := by
          rcases Nat.decEq (byt (bys s) 0) 48 with h | h
          · exact absurd ⟨hne, fun e => absurd e h, hdg⟩ HNO.out
          · exact h
        have hbig : (1 : Int) < (s.size : Int) := by
          rcases Nat.lt_or_ge 1 s.size with h | h
          · omega
          · exfalso
            refine HNO.out ⟨hne, fun _ => ?_, hdg⟩
            have hl := bys_len s
            have : (bys s).length = 1 := by omega
            rcases hbs : bys s with _ | ⟨c, t⟩
            · exact absurd hbs hne
            · rw [hbs] at this h48
              obtain rfl : t = [] := List.length_eq_zero_iff.1 (by simpa using this)
              have hc : c.toNat = 48 := by simpa [byt] using h48
              have : c = 48 := UInt8.toNat_inj.1 hc
              rw [this]
        rw [h48] at hg
        clear hdg hne h48
        go_wp2
        go_ret2
        exact ⟨none, 0, [], rfl, Nat.le_refl _, At.nil _ _ _, Is.none (by decide), Nat.le_refl _, Below.refl _ _⟩

set_option maxRecDepth 100000 in
set_option maxHeartbeats 1000000 in
theorem rparse_good (s : ByteArray) (w : World) (n : Nat) (hn : s.size = n) (hle : n ≤ 8192) (hok : OkT (bys s)) :
    Calls Tryd.prog 28 #[.string s] w (RPPost w 8193 (decV (bys s)) 0) := by
  have hle' : ¬ 8192 < (s.size : Int) := by omega
  have HOK := hide hok
  have HL : Hid ((bys s).length = n) := by rw [← hn]; exact bys_len s
  have of := fun w => rof_any s w (by omega) hok.2.2
  have OF := hide of
  clear hok of
  go_enter Tryd.func28, Tryd.ntmps28
  go_wp2
  go_loopw [4] (fun i wr => ∃ k : Nat, k ≤ n ∧ i = .int .i64 (k : Int) ∧ wr = w) (fun i _ => n - (intOf i).toNat)
  case atStart => exact ⟨0, Nat.zero_le _, rfl, rfl⟩
  case round =>
    obtain ⟨k, hk, rfl, rfl⟩ := hrel
    by_cases hlt : k < n
    · have hlt' : (k : Int) < (s.size : Int) := by omega
      have hks : k < s.size := by omega
      have hg : ∀ h : k < s.size, s[k].toNat = byt (bys s) k := fun h => byt_get s k h
      have hdk := HOK.out.2.2 k (by rw [HL.out]; exact hlt)
      obtain ⟨b, hb⟩ : ∃ b, b = byt (bys s) k := ⟨_, rfl⟩
      rw [← hb] at hg hdk
      have h1' : ¬ (b : Int) < 48 := by omega
      have h2' : ¬ (57 : Int) < (b : Int) := by omega
      clear hb
      go_wp2
      exact ⟨⟨k + 1, by omega, by go_num, trivial⟩, by simp [intOf]; omega⟩
    · obtain rfl : k = n := by omega
      have hlt' : ¬ (k : Int) < (s.size : Int) := by omega
      have hne := HOK.out.1
      have hpos : 0 < s.size := by
        rcases Nat.eq_zero_or_pos s.size with h0 | h0
        · exact absurd (List.length_eq_zero_iff.1 (by rw [bys_len]; exact h0)) hne
        · exact h0
      have he : s.toList.isEmpty = false := by rw [sl]; simp [hne]
      have hg : ∀ h : 0 < s.size, s[0].toNat = byt (bys s) 0 := fun h => byt_get s 0 h
      by_cases hbig : 1 < s.size
      · have hbig' : (1 : Int) < (s.size : Int) := by omega
        have hd : byt (bys s) 0 ≠ 48 := fun e => by
          have := HOK.out.2.1 e
          have hl := bys_len s
          rw [this] at hl; simp at hl; omega
        obtain ⟨d, hdd⟩ : ∃ d, d = byt (bys s) 0 := ⟨_, rfl⟩
        rw [← hdd] at hg hd
        have h48 : ((d : Int) == 48) = false := by rw [beq_eq_false_iff_ne]; omega
        clear hne hd hdd
        go_wp2_with fail
        refine (OF.out _).mono ?_
        rintro e w1 ⟨o1, c1, r1, rfl, hl1, hat1, his1, hm1, hb1⟩
        clear hg
        go_wp2
        go_ret2
        exact ⟨o1, c1, r1, rfl, hl1, hat1, his1, by omega, hb1⟩
      · have hbig' : ¬ (1 : Int) < (s.size : Int) := by omega
        clear hne hg
        go_wp2_with fail
        refine (OF.out _).mono ?_
        rintro e w1 ⟨o1, c1, r1, rfl, hl1, hat1, his1, hm1, hb1⟩
        go_wp2
        go_ret2
        exact ⟨o1, c1, r1, rfl, hl1, hat1, his1, by omega, hb1⟩

theorem rparse_pr (s : ByteArray) (w : World) (z : Nat) (er : Int) (h : PR s z er) :
    Calls Tryd.prog 28 #[.string s] w (RPPost w 8193 z er) := by
  rcases h with ⟨h1, rfl, rfl⟩ | ⟨h1, h2, rfl, rfl⟩ | ⟨h1, h2, rfl, rfl⟩
  · refine (rparse_long s w (by omega)).mono ?_
    rintro e w' ⟨o, c, r, a1, a2, a3, a4, a5, a6⟩
    exact ⟨o, c, r, a1, a2, a3, a4, by omega, a6⟩
  · refine (rparse_bad s w _ rfl h1 h2).mono ?_
    rintro e w' ⟨o, c, r, a1, a2, a3, a4, a5, a6⟩
    exact ⟨o, c, r, a1, a2, a3, a4, by omega, a6⟩
  · exact rparse_good s w _ rfl h1 h2

end Go.Proofs.YtfcdjhjdiadbfaaDoor
