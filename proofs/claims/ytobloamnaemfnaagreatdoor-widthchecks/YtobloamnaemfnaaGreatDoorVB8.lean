/-
  What whole.DivMod does.
  What quipulaw02.same does of two numbers that are the same.
  whole's functions in the words of the numbers themselves.
  What whole.areDigits, whole.chunkOf and whole.Parse do.
  What whole.Parse does.
  whole's numbers with a sign, as package dec makes them; what dec's counted does.
-/
import Derived.Test.YtobloamnaemfnaaGreatDoorVB7
import Derived.Test.YtobloamnaemfnaaGreatDoorVB6
import Derived.Deep.RegionHeld3
import Derived.Test.YtobloamnaemfnaaGreatDoorVSame
import Derived.Test.YtobloamnaemfnaaGreatDoorVB4
import Derived.Test.YtobloamnaemfnaaGreatDoorVB5
import Derived.Test.YtobloamnaemfnaaGreatDoorVDown
import Derived.Test.YtobloamnaemfnaaGreatDoorVB2
namespace Go.Proofs.YtobloamnaemfnaaGreatDoor
open Go.RowKit

end Go.Proofs.YtobloamnaemfnaaGreatDoor

namespace Go.Proofs.YtobloamnaemfnaaGreatDoor
open Go.RowKit

end Go.Proofs.YtobloamnaemfnaaGreatDoor

namespace Go.Proofs.YtobloamnaemfnaaGreatDoor
open Go.RowKit

def NV (s : Bool) (x : List Nat) (z : Int) : Prop := Ok B64 x ∧ zv s (num B64 x) = z
section
variable (s t : Bool) (ao bo : Option Addr) (la ca lb cb : Nat) (xs ys : List Nat) (w : World) (hla : la ≤ ca) (hlb : lb ≤ cb) (hx : xs.length = la) (hy : ys.length = lb) (hax : At .u64 w ao xs) (hay : At .u64 w bo ys) (z u : Int) (hz : Hid (NV s xs z)) (hu : Hid (NV t ys u))
include hla hlb hx hy hax hay hz hu
end

end Go.Proofs.YtobloamnaemfnaaGreatDoor

namespace Go.Proofs.YtobloamnaemfnaaGreatDoor
open Go.RowKit

set_option maxRecDepth 100000 in
set_option maxHeartbeats 1000000 in
theorem chunkOf_any (s : ByteArray) (w : World) (hn : s.size ≤ 19) (hd : DigB (bys s)) :
    Calls Tryz.prog 191 #[.string s] w fun e w' => e = .returned (.int .u64 ((decV (bys s) : Nat) : Int)) ∧ w' = w := by
  obtain ⟨n, hnn⟩ : ∃ n, n = s.size := ⟨_, rfl⟩
  have HD : Hid (DigB (bys s)) := hd
  have hl := bys_len s
  have HL : Hid ((bys s).length = n) := by rw [hnn]; exact hl
  clear hd hl
  go_enter Tryz.func191, Tryz.ntmps191
  go_wp2
  go_loopw [3, 4, 7] (fun c _ i wr => ∃ k : Nat, k ≤ n ∧ c = .int .u64 ((decV ((bys s).take k) : Nat) : Int) ∧ i = .int .i64 (k : Int) ∧ wr = w) (fun _ _ i _ => n - (intOf i).toNat)
  case atStart => exact ⟨0, Nat.zero_le _, by simp [decV], rfl, rfl⟩
  case round =>
    obtain ⟨k, hk, rfl, rfl, rfl⟩ := hrel
    by_cases hlt : k < n
    · have hlt' : (k : Int) < (s.size : Int) := by omega
      have hks : k < s.size := by omega
      have hb := HD.out k (by rw [HL.out]; exact hlt)
      have hg := byt_get s k hks
      have hv := decV_lt k ((bys s).take k) (by rw [List.length_take, HL.out]; omega) (HD.out.take k)
      have hp : (10 : Nat) ^ k ≤ 10 ^ 18 := Nat.pow_le_pow_right (by omega) (by omega)
      have hp18 : (10 : Nat) ^ 18 = 1000000000000000000 := by decide +kernel
      have hs := decV_succ (bys s) (k := k) (by rw [HL.out]; exact hlt)
      obtain ⟨x, hx⟩ : ∃ x, x = decV ((bys s).take k) := ⟨_, rfl⟩
      obtain ⟨b, hbb⟩ : ∃ b, b = byt (bys s) k := ⟨_, rfl⟩
      rw [← hx, ← hbb] at hs
      rw [← hx] at hv ⊢
      rw [← hbb] at hb hg
      have hx18 : x < 1000000000000000000 := by omega
      have w1 : IntKind.u64.wrap (IntKind.u64.wrap ((x : Int) * 10) + ((b : Int) - 48) % 256) = ((decV ((bys s).take (k + 1)) : Nat) : Int) := by
        rw [hs, IntKind.wrap_u64, IntKind.wrap_u64]; omega
      have W1 := hide w1
      have HG := hide hg
      clear hs hv hp hp18 hx hbb w1 hg hx18
      go_wp2
      rw [HG.out, W1.out]
      exact ⟨⟨k + 1, by omega, rfl, by go_num, trivial⟩, by simp [intOf]; omega⟩
    · obtain rfl : k = n := by omega
      have hlt' : ¬ (k : Int) < (s.size : Int) := by omega
      have e : (bys s).take k = bys s := List.take_of_length_le (by rw [HL.out]; omega)
      rw [e]
      go_wp2
      go_ret
      exact ⟨rfl, rfl⟩

set_option maxRecDepth 100000 in
set_option maxHeartbeats 1000000 in
theorem areDigits_zero (s : ByteArray) (w : World) (n : Nat) (hn : s.size = n) (hle : n ≤ 10000) (hpos : 0 < s.size) (z : Bool) (hz : z = true ↔ DigB (bys s)) (he : s.toList.isEmpty = false) (h48 : ∀ h : 0 < s.size, s[0].toNat = 48) (hq : (s.toList == [48]) = true) :
    Calls Tryz.prog 189 #[.string s] w fun e w' => e = .returned (.bool z) ∧ w' = w := by
  have HZ := hide hz
  have hl := bys_len s
  have HL : Hid ((bys s).length = n) := by rw [← hn]; exact hl
  clear hz hl
  go_enter Tryz.func189, Tryz.ntmps189
  go_wp2
  go_loopw [3, 17] (fun _ i wr => ∃ k : Nat, k ≤ n ∧ i = .int .i64 (k : Int) ∧ wr = w ∧ (∀ j, j < k → 48 ≤ byt (bys s) j ∧ byt (bys s) j ≤ 57)) (fun _ i _ => n - (intOf i).toNat)
  case atStart => exact ⟨0, Nat.zero_le _, rfl, rfl, fun j hj => by omega⟩
  case round =>
    obtain ⟨k, hk, rfl, rfl, hall⟩ := hrel
    have HA := hide hall
    clear hall
    by_cases hlt : k < n
    · have hlt' : (k : Int) < (s.size : Int) := by omega
      have hks : k < s.size := by omega
      have hg : ∀ h : k < s.size, s[k].toNat = byt (bys s) k := fun h => byt_get s k h
      obtain ⟨b, hb⟩ : ∃ b, b = byt (bys s) k := ⟨_, rfl⟩
      rw [← hb] at hg
      have HB := hide hb
      clear hb
      by_cases h1 : b < 48
      · have h1' : (b : Int) < 48 := by omega
        have ez : z = false := by
          rcases hzz : z with _ | _
          · rfl
          · exfalso
            have := (HZ.out.1 hzz) k (by rw [HL.out]; exact hlt)
            rw [← HB.out] at this; omega
        subst ez
        go_wp2
        go_ret
        exact ⟨rfl, rfl⟩
      · have h1' : ¬ (b : Int) < 48 := by omega
        by_cases h2 : 57 < b
        · have h2' : (57 : Int) < (b : Int) := by omega
          have ez : z = false := by
            rcases hzz : z with _ | _
            · rfl
            · exfalso
              have := (HZ.out.1 hzz) k (by rw [HL.out]; exact hlt)
              rw [← HB.out] at this; omega
          subst ez
          go_wp2
          go_ret
          exact ⟨rfl, rfl⟩
        · have h2' : ¬ (57 : Int) < (b : Int) := by omega
          have hn' : ∀ j, j < k + 1 → 48 ≤ byt (bys s) j ∧ byt (bys s) j ≤ 57 := by
            intro j hj
            by_cases e : j = k
            · rw [e, ← HB.out]; omega
            · exact HA.out j (by omega)
          have HN := hide hn'
          clear hn'
          go_wp2
          exact ⟨⟨k + 1, by omega, by go_num, trivial, HN.out⟩, by simp [intOf]; omega⟩
    · obtain rfl : k = n := by omega
      have hlt' : ¬ (k : Int) < (s.size : Int) := by omega
      have ez : z = true := HZ.out.2 (fun j hj => HA.out j (by rw [HL.out] at hj; exact hj))
      subst ez
      go_wp2
      go_ret
      exact ⟨rfl, rfl⟩

set_option maxRecDepth 100000 in
set_option maxHeartbeats 1000000 in
theorem areDigits_other (s : ByteArray) (w : World) (n : Nat) (hn : s.size = n) (hle : n ≤ 10000) (hpos : 0 < s.size) (z : Bool) (hz : z = true ↔ DigB (bys s)) (he : s.toList.isEmpty = false) (d : Nat) (hd : ∀ h : 0 < s.size, s[0].toNat = d) (h48 : ((d : Int) == 48) = false) :
    Calls Tryz.prog 189 #[.string s] w fun e w' => e = .returned (.bool z) ∧ w' = w := by
  have HZ := hide hz
  have hl := bys_len s
  have HL : Hid ((bys s).length = n) := by rw [← hn]; exact hl
  clear hz hl
  go_enter Tryz.func189, Tryz.ntmps189
  go_wp2
  go_loopw [3, 17] (fun _ i wr => ∃ k : Nat, k ≤ n ∧ i = .int .i64 (k : Int) ∧ wr = w ∧ (∀ j, j < k → 48 ≤ byt (bys s) j ∧ byt (bys s) j ≤ 57)) (fun _ i _ => n - (intOf i).toNat)
  case atStart => exact ⟨0, Nat.zero_le _, rfl, rfl, fun j hj => by omega⟩
  case round =>
    obtain ⟨k, hk, rfl, rfl, hall⟩ := hrel
    have HA := hide hall
    clear hall
    by_cases hlt : k < n
    · have hlt' : (k : Int) < (s.size : Int) := by omega
      have hks : k < s.size := by omega
      have hg : ∀ h : k < s.size, s[k].toNat = byt (bys s) k := fun h => byt_get s k h
      obtain ⟨b, hb⟩ : ∃ b, b = byt (bys s) k := ⟨_, rfl⟩
      rw [← hb] at hg
      have HB := hide hb
      clear hb
      by_cases h1 : b < 48
      · have h1' : (b : Int) < 48 := by omega
        have ez : z = false := by
          rcases hzz : z with _ | _
          · rfl
          · exfalso
            have := (HZ.out.1 hzz) k (by rw [HL.out]; exact hlt)
            rw [← HB.out] at this; omega
        subst ez
        go_wp2
        go_ret
        exact ⟨rfl, rfl⟩
      · have h1' : ¬ (b : Int) < 48 := by omega
        by_cases h2 : 57 < b
        · have h2' : (57 : Int) < (b : Int) := by omega
          have ez : z = false := by
            rcases hzz : z with _ | _
            · rfl
            · exfalso
              have := (HZ.out.1 hzz) k (by rw [HL.out]; exact hlt)
              rw [← HB.out] at this; omega
          subst ez
          go_wp2
          go_ret
          exact ⟨rfl, rfl⟩
        · have h2' : ¬ (57 : Int) < (b : Int) := by omega
          have hn' : ∀ j, j < k + 1 → 48 ≤ byt (bys s) j ∧ byt (bys s) j ≤ 57 := by
            intro j hj
            by_cases e : j = k
            · rw [e, ← HB.out]; omega
            · exact HA.out j (by omega)
          have HN := hide hn'
          clear hn'
          go_wp2
          exact ⟨⟨k + 1, by omega, by go_num, trivial, HN.out⟩, by simp [intOf]; omega⟩
    · obtain rfl : k = n := by omega
      have hlt' : ¬ (k : Int) < (s.size : Int) := by omega
      have ez : z = true := HZ.out.2 (fun j hj => HA.out j (by rw [HL.out] at hj; exact hj))
      subst ez
      go_wp2
      go_ret
      exact ⟨rfl, rfl⟩

set_option maxRecDepth 100000 in
set_option maxHeartbeats 400000 in
theorem areDigits_empty (s : ByteArray) (w : World) (he : s.toList.isEmpty = true) :
    Calls Tryz.prog 189 #[.string s] w fun e w' => e = .returned (.bool false) ∧ w' = w := by
  go_enter Tryz.func189, Tryz.ntmps189
  go_wp2
  go_ret
  exact ⟨rfl, rfl⟩

set_option maxRecDepth 100000 in
set_option maxHeartbeats 400000 in
theorem areDigits_ahead (s : ByteArray) (w : World) (he : s.toList.isEmpty = false) (hpos : 0 < s.size) (h48 : ∀ h : 0 < s.size, s[0].toNat = 48) (hq : (s.toList == [48]) = false) :
    Calls Tryz.prog 189 #[.string s] w fun e w' => e = .returned (.bool false) ∧ w' = w := by
  go_enter Tryz.func189, Tryz.ntmps189
  go_wp2
  go_ret
  exact ⟨rfl, rfl⟩

theorem areDigits_any (s : ByteArray) (w : World) (hle : s.size ≤ 10000) (z : Bool) (hz : z = true ↔ OkT (bys s)) :
    Calls Tryz.prog 189 #[.string s] w fun e w' => e = .returned (.bool z) ∧ w' = w := by
  have hl := bys_len s
  rcases Nat.eq_zero_or_pos s.size with h0 | hpos
  · have hb : bys s = [] := List.length_eq_zero_iff.1 (by rw [hl]; exact h0)
    have ez : z = false := by
      rcases hzz : z with _ | _
      · rfl
      · exact absurd hb (hz.1 hzz).1
    subst ez
    exact areDigits_empty s w (by rw [sl, hb]; rfl)
  · have hne : bys s ≠ [] := fun h => by rw [h] at hl; simp at hl; omega
    have he : s.toList.isEmpty = false := by rw [sl]; simp [hne]
    have hg : ∀ h : 0 < s.size, s[0].toNat = byt (bys s) 0 := fun h => byt_get s 0 h
    by_cases h48 : byt (bys s) 0 = 48
    · rw [h48] at hg
      by_cases hq : bys s = [48]
      · refine areDigits_zero s w _ rfl hle hpos z ?_ he hg (by rw [sl, hq]; rfl)
        rw [hz]; unfold OkT
        exact ⟨fun h => h.2.2, fun h => ⟨hne, fun _ => hq, h⟩⟩
      · have ez : z = false := by
          rcases hzz : z with _ | _
          · rfl
          · exact absurd ((hz.1 hzz).2.1 h48) hq
        subst ez
        exact areDigits_ahead s w he hpos hg (by rw [sl]; simp [hq])
    · refine areDigits_other s w _ rfl hle hpos z ?_ he _ hg (by rw [beq_eq_false_iff_ne]; omega)
      rw [hz]; unfold OkT
      exact ⟨fun h => h.2.2, fun h => ⟨hne, fun e => absurd e h48, h⟩⟩

end Go.Proofs.YtobloamnaemfnaaGreatDoor

namespace Go.Proofs.YtobloamnaemfnaaGreatDoor
open Go.RowKit

set_option maxHeartbeats 400000 in
theorem parse_long (s : ByteArray) (w : World) (h : 8192 < (s.size : Int)) :
    Calls Tryz.prog 153 #[.string s] w (ShPost w 0 0 21) := by
  go_enter Tryz.func153, Tryz.ntmps153
  go_wp2
  go_ret2
  exact ⟨_, [], rfl, .inl ⟨rfl, rfl⟩, Is.none (by decide), Below.refl _ _⟩

set_option maxHeartbeats 400000 in
theorem parse_text (s : ByteArray) (w : World) (h : s.size ≤ 8192) (hn : ¬ OkT (bys s)) :
    Calls Tryz.prog 153 #[.string s] w (ShPost w 0 0 20) := by
  have h' : ¬ 8192 < (s.size : Int) := by omega
  have ad := fun w => areDigits_any s w (by omega) false ⟨(fun h => by cases h), (fun h => absurd h hn)⟩
  go_enter Tryz.func153, Tryz.ntmps153
  go_wp2_with fail
  refine (ad _).mono ?_
  rintro e w' ⟨rfl, rfl⟩
  go_wp2
  go_ret2
  exact ⟨_, [], rfl, .inl ⟨rfl, rfl⟩, Is.none (by decide), Below.refl _ _⟩

theorem num_few {r : List Nat} {n : Nat} (h : Is B64 r n) (hn : n < B64 ^ 500) : r.length ≤ 500 := by
  have h3 := trimmed_small (xs := r) (t := 500) (by rw [h.2.2]; exact hn)
  rw [trimmed_of_top h.2.1] at h3
  exact h3

theorem pow_few : (10 : Nat) ^ 8192 < B64 ^ 500 := by decide +kernel

theorem bys_to (t : ByteArray) (i : Nat) : bys (t.extract 0 i) = (bys t).take i := by
  unfold bys
  rw [ByteArray.data_extract]
  simp
theorem bys_from (t : ByteArray) (i n : Nat) (hn : t.size ≤ n) : bys (t.extract i n) = (bys t).drop i := by
  unfold bys
  rw [ByteArray.data_extract]
  have hl : t.data.toList.length ≤ n := by simpa using hn
  simp only [Array.toList_extract, List.extract_eq_take_drop]
  exact List.take_of_length_le (by rw [List.length_drop]; omega)

theorem decV_chunk {L : List UInt8} {j q : Nat} (hj : j + (q + 1) ≤ L.length) (hp : j = 0 ∨ q = 18) : decV (L.take j) * U19 + decV ((L.drop j).take (q + 1)) = decV (L.take (j + (q + 1))) := by
  have e : L.take (j + (q + 1)) = L.take j ++ (L.drop j).take (q + 1) := by rw [List.take_add]
  rw [e, decV_append]
  have hl : ((L.drop j).take (q + 1)).length = q + 1 := by rw [List.length_take, List.length_drop]; omega
  rw [hl]
  rcases hp with rfl | rfl
  · simp [decV]
  · rfl

def P2 (wr w' : World) (n : Nat) (v : Value) (r : List Nat) : Prop := Below wr.heap.size wr w' ∧ Own .u64 134 w' wr.heap.size 2000 v r ∧ Is B64 r n

structure ParseInv (w : World) (L : List UInt8) (uo : Option Addr) (us : List Nat) (j : Nat) (t : ByteArray) (v : Value) (wr : World) : Prop where
  bel : Below w.heap.size w wr
  le : j ≤ L.length
  str : bys t = L.drop j
  part : j = 0 ∨ (L.length - j) % 19 = 0
  unit : At .u64 wr uo us
  num : ∃ r, Own .u64 134 wr w.heap.size 2000 v r ∧ Is B64 r (decV (L.take j))

set_option maxRecDepth 100000 in
set_option maxHeartbeats 1000000 in
theorem parse_ok (s : ByteArray) (w : World) (h : s.size ≤ 8192) (hn : OkT (bys s)) :
    Calls Tryz.prog 153 #[.string s] w (ShPost w 2000 (decV (bys s)) 0) := by
  have h' : ¬ 8192 < (s.size : Int) := by omega
  have ad := fun w => areDigits_any s w (by omega) true ⟨fun _ => hn, fun _ => rfl⟩
  obtain ⟨L, hL⟩ : ∃ L, L = bys s := ⟨_, rfl⟩
  have HD : Hid (DigB L) := by rw [hL]; exact hn.2.2
  have HLL : Hid (L.length ≤ 8192) := by rw [hL, bys_len]; exact h
  rw [← hL]
  have AD := hide ad
  have HL := hide hL
  clear ad hL hn
  go_enter Tryz.func153, Tryz.ntmps153
  go_wp2_with fail
  refine (AD.out _).mono ?_
  rintro e w0 ⟨rfl, hw0⟩
  replace hw0 := hw0.symm
  subst hw0
  go_wp2_with fail
  refine (of_any U19 _ u19_lt).mono ?_
  rintro e w1 ⟨v, us, rfl, hou, isu, hb1⟩
  obtain ⟨uo, uc, rfl, hlu, hmu, atu⟩ := hou.shape
  have hst : ParseInv w L uo us 0 s (.slice none 0 0) w1 := ⟨hb1, Nat.zero_le _, by rw [HL.out]; rfl, .inl rfl, atu, [], .inl ⟨rfl, rfl⟩, Is.none (by decide)⟩
  have HST := hide hst
  have HU := hide isu
  have lu : us.length ≤ 1 := by omega
  clear hst hou atu isu hb1
  go_wp2
  go_loopw [0, 5, 6] (fun sv v _ wr => ∃ (j : Nat) (t : ByteArray), sv = .string t ∧ ParseInv w L uo us j t v wr) (fun sv _ _ _ => match sv with | .string t => t.size | _ => 0)
  case atStart => exact ⟨0, s, rfl, HST.out⟩
  case round =>
    clear HST
    obtain ⟨j, t, rfl, hinv⟩ := hrel
    obtain ⟨hbr, hjl, hstr, hpart, hut, r, hown, his⟩ := hinv
    have htl : t.size = L.length - j := by rw [← bys_len, hstr, List.length_drop]
    by_cases hend : j = L.length
    · have hz : bys t = [] := by rw [hstr, hend]; simp
      have he : t.toList.isEmpty = true := by rw [sl, hz]; rfl
      have hq : t.toList = [] := by rw [sl, hz]
      rw [hend, List.take_length] at his
      obtain ⟨o, c, rfl, hl, hm, hat⟩ := hown.shape
      clear hut hstr hpart
      go_wp2
      go_ret2
      exact ⟨_, r, rfl, hown, his, hbr⟩
    · obtain ⟨m1, hm1⟩ : ∃ m1, L.length - j = m1 + 1 := ⟨L.length - j - 1, by omega⟩
      have hne : bys t ≠ [] := fun h => by rw [h] at hstr; have := congrArg List.length hstr; simp at this; omega
      have he : t.toList.isEmpty = false := by rw [sl]; simp [hne]
      have hq : ¬ t.toList = [] := by rw [sl]; exact hne
      have hts : t.size = m1 + 1 := by omega
      obtain ⟨q, hqq⟩ : ∃ q, q = m1 % 19 := ⟨_, rfl⟩
      have e1 : (m1 : Int) % 19 = (q : Int) := by omega
      have e2 : ((t.size : Nat) : Int) - 1 = (m1 : Int) := by omega
      obtain ⟨z, hz⟩ : ∃ z, z = q + 1 := ⟨_, rfl⟩
      have e3 : (q : Int) + 1 = (z : Int) := by omega
      have e4 : (z : Int) ≤ ((t.size : Nat) : Int) := by omega
      have e5 : (0 : Int) ≤ (z : Int) := by omega
      have hsl : ∀ W, (Instr.slice 9 (.string t) none (some (.int .i64 (z : Int))) none).run Tryz.prog W = .ok (.string (t.extract 0 z)) W := fun W => by
        have h := run_slice_string_h (P := Tryz.prog) W 9 t Tryz.underlying9 .i64 (z : Int) e5 e4
        rwa [Int.toNat_natCast] at h
      have hsr : ∀ W, (Instr.slice 9 (.string t) (some (.int .i64 (z : Int))) none none).run Tryz.prog W = .ok (.string (t.extract z t.size)) W := fun W => by
        have h := run_slice_string_l (P := Tryz.prog) W 9 t Tryz.underlying9 .i64 (z : Int) e5 e4
        rwa [Int.toNat_natCast] at h
      have hm8 : m1 ≤ 8192 := by have := HLL.out; omega
      have hz19 : z ≤ 19 := by omega
      have w4 : Int.tmod (m1 : Int) 19 = (q : Int) := by rw [Int.tmod_eq_emod_of_nonneg (by omega)]; exact e1
      obtain ⟨o, c, rfl, hl, hm, hat⟩ := hown.shape
      have hq18 : q ≤ 18 := by omega
      have hqm : q ≤ m1 := by omega
      have hrl := num_few his (Nat.lt_trans (Nat.lt_of_lt_of_le (decV_lt j _ (by rw [List.length_take]; omega) (HD.out.take j)) (Nat.pow_le_pow_right (by omega) (Nat.le_trans hjl HLL.out))) pow_few)
      have hjq : j + (q + 1) ≤ L.length := by omega
      have hpq : j = 0 ∨ q = 18 := by
        rcases hpart with h | h
        · exact .inl h
        · right; omega
      have hval := decV_chunk hjq hpq
      have hdt : DigB (bys (t.extract 0 (q + 1))) := by rw [bys_to, hstr]; exact (HD.out.drop j).take _
      have hct : decV (bys (t.extract 0 (q + 1))) = decV ((L.drop j).take (q + 1)) := by rw [bys_to, hstr]
      have hcl : decV ((L.drop j).take (q + 1)) < B64 := by
        have h1 := decV_lt (q + 1) ((L.drop j).take (q + 1)) (by rw [List.length_take, List.length_drop]; omega) ((HD.out.drop j).take _)
        have h2 : (10 : Nat) ^ (q + 1) ≤ 10 ^ 19 := Nat.pow_le_pow_right (by omega) (by omega)
        have h3 : (10 : Nat) ^ 19 < B64 := by decide +kernel
        omega
      have hts1 : (t.extract 0 (q + 1)).size ≤ 19 := by rw [← bys_len, bys_to, List.length_take]; omega
      have hnum : decV (L.take (j + (q + 1))) < B64 ^ 500 := Nat.lt_trans (Nat.lt_of_lt_of_le (decV_lt (j + (q + 1)) _ (by rw [List.length_take]; omega) (HD.out.take _)) (Nat.pow_le_pow_right (by omega) (Nat.le_trans hjq HLL.out))) pow_few
      have ch := fun w => chunkOf_any (t.extract 0 (q + 1)) w hts1 hdt
      rw [hct] at ch
      obtain ⟨x, hx⟩ : ∃ x, x = decV ((L.drop j).take (q + 1)) := ⟨_, rfl⟩
      rw [← hx] at ch hval hcl
      rw [← hz] at ch
      have CH : Hid (∀ w, Calls Tryz.prog 191 #[.string (t.extract 0 z)] w fun e w' => e = .returned (.int .u64 (x : Int)) ∧ w' = w) := ch
      have MU : Hid (∀ w', Like w' wr → Calls Tryz.prog 113 #[.slice o (List.length r) c, .slice uo (List.length us) uc] w' fun e w2 => ∃ o2 c2 r2, e = .returned (.slice o2 (List.length r2) c2) ∧ Hid (P2 wr w2 (decV (L.take j) * U19) (.slice o2 (List.length r2) c2) r2)) := by
        intro w' hw
        refine (mul_any o uo _ c _ uc r us _ hl (by omega) hlu (by omega) rfl rfl (hat.like hw) (hut.like hw) his.1 HU.out.1).mono ?_
        rintro e w2 ⟨v, r2, rfl, ho, hi, hb⟩
        obtain ⟨o2, c2, rfl, _, _, _⟩ := ho.shape
        rw [his.2.2, HU.out.2.2] at hi
        rw [hw.1] at ho hb
        exact ⟨o2, c2, r2, rfl, (Like.bel hw _).trans hb, ho.mono (Nat.le_refl _) (by omega), hi⟩
      have OF : Hid (∀ w2 w3 n v r2, Hid (P2 wr w2 n v r2) → Like w3 w2 → Calls Tryz.prog 190 #[.int .u64 (x : Int)] w3 fun e w4 => ∃ o4 c4 r4, e = .returned (.slice o4 (List.length r4) c4) ∧ Hid (P2 wr w4 n v r2) ∧ Hid (P2 wr w4 x (.slice o4 (List.length r4) c4) r4 ∧ c4 ≤ 1)) := by
        intro w2 w3 n v r2 hp hw
        obtain ⟨h1, h2, h3⟩ := hp.out
        refine (of_any x _ hcl).mono ?_
        rintro e w4 ⟨v4, r4, rfl, ho, hi, hb⟩
        obtain ⟨o4, c4, rfl, _, hm4, _⟩ := ho.shape
        rw [hw.1] at ho hb
        have hb2 : Below w2.heap.size w2 w4 := (Like.bel hw _).trans hb
        have hbr4 := h1.trans (hb2.mono h1.size)
        exact ⟨o4, c4, r4, rfl, ⟨hbr4, h2.below hb2, h3⟩, ⟨hbr4, ho.mono h1.size (by omega), hi⟩, hm4⟩
      have AD2 : Hid (∀ w2 w3 o2 c2 r2 o4 c4 r4, Hid (P2 wr w2 (decV (L.take j) * U19) (.slice o2 (List.length r2) c2) r2) → Hid (P2 wr w2 x (.slice o4 (List.length r4) c4) r4 ∧ c4 ≤ 1) → Like w3 w2 → Calls Tryz.prog 187 #[.slice o2 (List.length r2) c2, .slice o4 (List.length r4) c4] w3 fun e w5 => ∃ o5 c5 r5, e = .returned (.slice o5 (List.length r5) c5) ∧ Hid (P2 wr w5 (decV (L.take (j + (q + 1)))) (.slice o5 (List.length r5) c5) r5)) := by
        intro w2 w3 o2 c2 r2 o4 c4 r4 hp hp4 hw
        obtain ⟨h1, h2, h3⟩ := hp.out
        obtain ⟨⟨_, k2, k3⟩, k4⟩ := hp4.out
        obtain ⟨_, _, e2, l2, m2, a2⟩ := h2.shape
        obtain ⟨_, _, e4, l4, m4, a4⟩ := k2.shape
        simp only [Value.slice.injEq] at e2 e4
        obtain ⟨rfl, _, rfl⟩ := e2
        obtain ⟨rfl, _, rfl⟩ := e4
        refine (add_any _ _ _ _ _ _ r2 r4 _ l2 (by omega) l4 (by omega) rfl rfl (a2.like hw) (a4.like hw) h3.1 k3.1).mono ?_
        rintro e w5 ⟨v, r5, rfl, ho, hi, hb⟩
        obtain ⟨o5, c5, rfl, _, _, _⟩ := ho.shape
        rw [h3.2.2, k3.2.2, hval] at hi
        rw [hw.1] at ho hb
        have hb2 : Below w2.heap.size w2 w5 := (Like.bel hw _).trans hb
        have r2l := num_few h3 (by rw [← hval] at hnum; omega)
        exact ⟨o5, c5, r5, rfl, h1.trans (hb2.mono h1.size), ho.mono h1.size (by omega), hi⟩
      rw [← hz] at AD2
      have HSTR := hide hstr
      have HZ := hide hz
      have HPT : Hid (j + z = 0 ∨ (L.length - (j + z)) % 19 = 0) := by right; omega
      have HUT := hide hut
      have HBR := hide hbr
      clear hval hdt hct hcl hts1 hnum ch hx hstr hut hbr hown his hat hpart hpq hz hqq hts htl hm1
      go_wp2
      go_region_held3 (fun _ => True) (go_keep) (first | (go_at_call 113; refine (MU.out _ (by exact ⟨rfl, rfl, rfl, rfl⟩)).mono ?_; rintro e w2 ⟨o2, c2, r2, rfl, hp2⟩) | (go_at_call 191; refine (CH.out _).mono ?_; rintro e w3 ⟨rfl, rfl⟩) | (go_at_call 190; refine (OF.out _ _ _ _ _ hp2 (by exact ⟨rfl, rfl, rfl, rfl⟩)).mono ?_; rintro e w4 ⟨o4, c4, r4, rfl, hp3, hp4⟩) | (go_at_call 187; refine (AD2.out _ _ _ _ _ _ _ _ hp3 hp4 (by exact ⟨rfl, rfl, rfl, rfl⟩)).mono ?_; rintro e w5 ⟨o5, c5, r5, rfl, hp5⟩))
      have hnx : ParseInv w L uo us (j + z) (t.extract z t.size) (.slice o5 (List.length r5) c5) w5 := by
        obtain ⟨h1, h2, h3⟩ := hp5.out
        have hzz := HZ.out
        refine ⟨HBR.out.trans (h1.mono HBR.out.size), by omega, ?_, HPT.out, HUT.out.below h1, r5, h2.mono HBR.out.size (Nat.le_refl _), h3⟩
        rw [bys_from t z _ (Nat.le_refl _), HSTR.out, List.drop_drop]
      have HNX := hide hnx
      have hdec : (t.extract z t.size).size < t.size := by
        have h1 := bys_len (t.extract z t.size)
        rw [bys_from t z _ (Nat.le_refl _), List.length_drop, bys_len] at h1
        have := HZ.out
        omega
      clear hnx hp2 hp3 hp4 hp5
      go_wp2
      exact ⟨⟨j + z, _, rfl, HNX.out⟩, hdec⟩

theorem parse_any (s : ByteArray) (w : World) (z : Nat) (err : Int) (hz : (8192 < s.size ∧ z = 0 ∧ err = 21) ∨ (s.size ≤ 8192 ∧ ¬ OkT (bys s) ∧ z = 0 ∧ err = 20) ∨ (s.size ≤ 8192 ∧ OkT (bys s) ∧ z = decV (bys s) ∧ err = 0)) :
    Calls Tryz.prog 153 #[.string s] w (ShPost w 2000 z err) := by
  have wide : ∀ {n : Nat} {r : Int} e w', ShPost w 0 n r e w' → ShPost w 2000 n r e w' := by
    rintro n r e w' ⟨v, rs, h1, h2, h3, h4⟩
    exact ⟨v, rs, h1, h2.mono (Nat.le_refl _) (by omega), h3, h4⟩
  rcases hz with ⟨h, rfl, rfl⟩ | ⟨h, hn, rfl, rfl⟩ | ⟨h, hn, rfl, rfl⟩
  · exact (parse_long s w (by omega)).mono wide
  · exact (parse_text s w h hn).mono wide
  · exact parse_ok s w h hn

end Go.Proofs.YtobloamnaemfnaaGreatDoor

namespace Go.Proofs.YtobloamnaemfnaaGreatDoor
open Go.RowKit

theorem ztparse (s : ByteArray) (n : Nat) (w : World) (hs : s.size ≤ 8192) (hok : OkT (bys s)) (hn : decV (bys s) = n) : Calls Tryz.prog 153 #[.string s] w fun e w' => ∃ o l c, e = .returned (.tuple #[.slice o l c, .int .i64 0]) ∧ Hid (Nt w' (.slice o l c) n) ∧ Below w.heap.size w w' := by
  refine (parse_any s w (decV (bys s)) 0 (.inr (.inr ⟨hs, hok, rfl, rfl⟩))).mono ?_
  rintro e w' ⟨v, r, rfl, g1, g2, g3⟩
  have g4 := Nt.of g1 g2 (by omega)
  obtain ⟨o, c, xs, rfl, g5⟩ := g4
  rw [hn] at g5
  exact ⟨o, xs.length, c, rfl, ⟨o, c, xs, rfl, g5⟩, g3⟩

theorem repeat_any (c : Nat) (w : World) (hc : c ≤ 100000) : Calls Tryz.prog 135 #[.string ⟨#[48]⟩, .int .i64 (c : Int)] w fun e w' => e = .returned (.string ⟨(List.replicate c (48 : UInt8)).toArray⟩) ∧ Below w.heap.size w w' := by
  have h := Tryz.strings_Repeat ⟨#[48]⟩ c w (by omega) (by show 1 * c ≤ _; omega)
  rw [show (⟨#[48]⟩ : ByteArray).data.toList = [48] from rfl, repeat0] at h
  exact h

end Go.Proofs.YtobloamnaemfnaaGreatDoor
