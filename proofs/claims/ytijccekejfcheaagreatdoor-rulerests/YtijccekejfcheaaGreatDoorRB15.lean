/-
  What rule's partSize does.
  What rule's parts hands on, part by part.
  What rule's parts, gather and between make.
  What rule's readNumber, readDivisor, readOperand and readCategory do.
  What rule's between hands on: the rows of parts between separators.
  Numbers that calls answer in a region that draws its order: where they lie, and what stays.
-/
import Derived.Test.YtijccekejfcheaaGreatDoorRB14
import Derived.Test.YtijccekejfcheaaGreatDoorRShelf
import Derived.Test.YtijccekejfcheaaGreatDoorRB1
import Derived.Shelf.Abstract
import Derived.OwnWalkIn
import Derived.TacticsInMore
import Derived.LoopNIn
import Derived.LoopIn
import Derived.RangeFuncBox
import Derived.Maps.AppendAt
import Derived.Lib.AtoiTie
import Derived.Test.YtijccekejfcheaaGreatDoorRB8
import Derived.Deep.RegionHeld3
import Derived.Deep.DeepCutAuto
namespace Go.Proofs.YtijccekejfcheaaGreatDoor
open Go.RowKit

abbrev PC : List PanicEntry := [{ v := .iface 24 (.int .i64 90), recovered := false }]

theorem hasP_two (c : UInt8) (r : List UInt8) (a b : UInt8) : Lib.hasPrefix (c :: r) [a, b] = true ↔ c = a ∧ r.head? = some b := by
  unfold Lib.hasPrefix
  cases r with
  | nil => simp [List.isPrefixOf]
  | cons d r =>
    simp only [List.isPrefixOf, Bool.and_eq_true, beq_iff_eq, Bool.and_true, List.head?_cons, Option.some.injEq]
    exact ⟨fun ⟨h, k⟩ => ⟨h.symm, k.symm⟩, fun ⟨h, k⟩ => ⟨h.symm, k.symm⟩⟩

theorem index_mem (l : List UInt8) (c : UInt8) : 0 ≤ Lib.indexByte l c ↔ c ∈ l := by
  induction l with
  | nil => simp [Lib.indexByte]
  | cons b l ih =>
    have hge := Lib.indexByte_ge l c
    simp only [Lib.indexByte, List.mem_cons]
    by_cases h : b = c
    · simp [h]
    · have h' : (b == c) = false := beq_eq_false_iff_ne.2 h
      rw [h', if_neg (by simp)]
      by_cases h2 : Lib.indexByte l c = -1
      · rw [h2]
        have : ¬ c ∈ l := fun hm => by have := ih.2 hm; omega
        simp [this, Ne.symm h]
      · have : (Lib.indexByte l c == -1) = false := beq_eq_false_iff_ne.2 h2
        rw [this, if_neg (by simp)]
        have : c ∈ l := ih.1 (by omega)
        simp [this]
        omega

theorem isSg_mem (c : UInt8) : isSg c = true ↔ c ∈ ([58, 59, 37, 61, 44, 43] : List UInt8) := by
  unfold isSg
  simp only [Bool.or_eq_true, beq_iff_eq, List.mem_cons, List.not_mem_nil, or_false, ← UInt8.toNat_inj]
  constructor
  · rintro (((((h | h) | h) | h) | h) | h) <;> simp [h]
  · rintro (h | h | h | h | h | h) <;> simp [h]

theorem rowLt (s : List UInt8) : rowN (fun b => decide (97 ≤ b) && decide (b ≤ 122)) s = (s.takeWhile isLt).length := rfl
theorem rowNm (s : List UInt8) : rowN (fun b => decide (48 ≤ b) && decide (b ≤ 57)) s = (s.takeWhile isNm).length := rfl

set_option maxHeartbeats 1000000 in
theorem partSize_L (s : ByteArray) (c : UInt8) (r : List UInt8) (w : World) (hs : s.size ≤ 281474976710656) (hc : bys s = c :: r) (h1 : isLt c = true) :
    Calls Tryz.prog 201 #[.string s] w fun e w' => e = .returned (.int .i64 (((bys s).takeWhile isLt).length : Nat)) ∧ w = w' := by
  have hsz : 0 < s.size := by rw [← bys_len, hc]; simp
  have hlt' : (0 : Int) < (s.size : Int) := by omega
  have hg : ∀ h : 0 < s.size, s[0].toNat = c.toNat := fun h => by rw [byt_get s 0 h, hc]; rfl
  have IL := hide (fun W => isLetter_any c.toNat W)
  rw [show (decide (97 ≤ c.toNat) && decide (c.toNat ≤ 122)) = true from h1] at IL
  have RS := hide (fun W => rowSize_any s 247 _ W hs (enters_of Tryz.func247 (by kernel_rfl) rfl) isLetter_any)
  rw [rowLt] at RS
  obtain ⟨N, hN⟩ : ∃ N : Nat, N = ((bys s).takeWhile isLt).length := ⟨_, rfl⟩
  rw [← hN] at RS ⊢
  clear hN
  obtain ⟨b, hb⟩ : ∃ b, b = c.toNat := ⟨_, rfl⟩
  rw [← hb] at hg IL
  clear hb hc h1 hs
  go_enter Tryz.func201, Tryz.ntmps201
  go_wp2_with fail
  refine (IL.out _).mono ?_
  rintro e w' ⟨rfl, rfl⟩
  go_wp2_with fail
  refine (RS.out _).mono ?_
  rintro e w' ⟨rfl, rfl⟩
  go_wp2
  go_ret
  exact ⟨rfl, rfl⟩

set_option maxHeartbeats 1000000 in
theorem partSize_D (s : ByteArray) (c : UInt8) (r : List UInt8) (w : World) (hs : s.size ≤ 281474976710656) (hc : bys s = c :: r) (h1 : isLt c = false) (h2 : isNm c = true) :
    Calls Tryz.prog 201 #[.string s] w fun e w' => e = .returned (.int .i64 (((bys s).takeWhile isNm).length : Nat)) ∧ w = w' := by
  have hsz : 0 < s.size := by rw [← bys_len, hc]; simp
  have hlt' : (0 : Int) < (s.size : Int) := by omega
  have hg : ∀ h : 0 < s.size, s[0].toNat = c.toNat := fun h => by rw [byt_get s 0 h, hc]; rfl
  have IL := hide (fun W => isLetter_any c.toNat W)
  rw [show (decide (97 ≤ c.toNat) && decide (c.toNat ≤ 122)) = false from h1] at IL
  have ID := hide (fun W => isDigit_any c.toNat W)
  rw [show (decide (48 ≤ c.toNat) && decide (c.toNat ≤ 57)) = true from h2] at ID
  have RS := hide (fun W => rowSize_any s 249 _ W hs (enters_of Tryz.func249 (by kernel_rfl) rfl) isDigit_any)
  rw [rowNm] at RS
  obtain ⟨N, hN⟩ : ∃ N : Nat, N = ((bys s).takeWhile isNm).length := ⟨_, rfl⟩
  rw [← hN] at RS ⊢
  clear hN
  obtain ⟨b, hb⟩ : ∃ b, b = c.toNat := ⟨_, rfl⟩
  rw [← hb] at hg IL ID
  clear hb hc h1 h2 hs
  go_enter Tryz.func201, Tryz.ntmps201
  go_wp2_with fail
  refine (IL.out _).mono ?_
  rintro e w' ⟨rfl, rfl⟩
  go_wp2_with fail
  refine (ID.out _).mono ?_
  rintro e w' ⟨rfl, rfl⟩
  go_wp2_with fail
  refine (RS.out _).mono ?_
  rintro e w' ⟨rfl, rfl⟩
  go_wp2
  go_ret
  exact ⟨rfl, rfl⟩

set_option maxHeartbeats 1000000 in
theorem partSize_P (s : ByteArray) (c : UInt8) (r : List UInt8) (w : World) (hs : s.size ≤ 281474976710656) (hc : bys s = c :: r) (h1 : isLt c = false) (h2 : isNm c = false) (h3 : Lib.hasPrefix s.data.toList [33, 61] = true) :
    Calls Tryz.prog 201 #[.string s] w fun e w' => e = .returned (.int .i64 2) ∧ w = w' := by
  have hsz : 0 < s.size := by rw [← bys_len, hc]; simp
  have hlt' : (0 : Int) < (s.size : Int) := by omega
  have hg : ∀ h : 0 < s.size, s[0].toNat = c.toNat := fun h => by rw [byt_get s 0 h, hc]; rfl
  have IL := hide (fun W => isLetter_any c.toNat W)
  rw [show (decide (97 ≤ c.toNat) && decide (c.toNat ≤ 122)) = false from h1] at IL
  have ID := hide (fun W => isDigit_any c.toNat W)
  rw [show (decide (48 ≤ c.toNat) && decide (c.toNat ≤ 57)) = false from h2] at ID
  have HP := hide (fun W => Tryz.strings_HasPrefix s ⟨#[33, 61]⟩ W)
  rw [show Lib.hasPrefix s.data.toList (⟨#[33, 61]⟩ : ByteArray).data.toList = true from h3] at HP
  obtain ⟨b, hb⟩ : ∃ b, b = c.toNat := ⟨_, rfl⟩
  rw [← hb] at hg IL ID
  clear hb hc h1 h2 h3 hs
  go_enter Tryz.func201, Tryz.ntmps201
  go_wp2_with fail
  refine (IL.out _).mono ?_
  rintro e w' ⟨rfl, rfl⟩
  go_wp2_with fail
  refine (ID.out _).mono ?_
  rintro e w' ⟨rfl, rfl⟩
  go_wp2_with fail
  refine (HP.out _).mono ?_
  rintro e w' ⟨rfl, hw⟩
  subst hw
  go_wp2
  go_ret
  exact ⟨rfl, rfl⟩

set_option maxHeartbeats 1000000 in
theorem partSize_Q (s : ByteArray) (c : UInt8) (r : List UInt8) (w : World) (hs : s.size ≤ 281474976710656) (hc : bys s = c :: r) (h1 : isLt c = false) (h2 : isNm c = false) (h3 : Lib.hasPrefix s.data.toList [33, 61] = false) (h4 : Lib.hasPrefix s.data.toList [46, 46] = true) :
    Calls Tryz.prog 201 #[.string s] w fun e w' => e = .returned (.int .i64 2) ∧ w = w' := by
  have hsz : 0 < s.size := by rw [← bys_len, hc]; simp
  have hlt' : (0 : Int) < (s.size : Int) := by omega
  have hg : ∀ h : 0 < s.size, s[0].toNat = c.toNat := fun h => by rw [byt_get s 0 h, hc]; rfl
  have IL := hide (fun W => isLetter_any c.toNat W)
  rw [show (decide (97 ≤ c.toNat) && decide (c.toNat ≤ 122)) = false from h1] at IL
  have ID := hide (fun W => isDigit_any c.toNat W)
  rw [show (decide (48 ≤ c.toNat) && decide (c.toNat ≤ 57)) = false from h2] at ID
  have HP := hide (fun W => Tryz.strings_HasPrefix s ⟨#[33, 61]⟩ W)
  rw [show Lib.hasPrefix s.data.toList (⟨#[33, 61]⟩ : ByteArray).data.toList = false from h3] at HP
  have HQ := hide (fun W => Tryz.strings_HasPrefix s ⟨#[46, 46]⟩ W)
  rw [show Lib.hasPrefix s.data.toList (⟨#[46, 46]⟩ : ByteArray).data.toList = true from h4] at HQ
  obtain ⟨b, hb⟩ : ∃ b, b = c.toNat := ⟨_, rfl⟩
  rw [← hb] at hg IL ID
  clear hb hc h1 h2 h3 h4 hs
  go_enter Tryz.func201, Tryz.ntmps201
  go_wp2_with fail
  refine (IL.out _).mono ?_
  rintro e w' ⟨rfl, rfl⟩
  go_wp2_with fail
  refine (ID.out _).mono ?_
  rintro e w' ⟨rfl, rfl⟩
  go_wp2_with fail
  refine (HP.out _).mono ?_
  rintro e w' ⟨rfl, hw⟩
  subst hw
  go_wp2_with fail
  refine (HQ.out _).mono ?_
  rintro e w' ⟨rfl, hw⟩
  subst hw
  go_wp2
  go_ret
  exact ⟨rfl, rfl⟩

set_option maxHeartbeats 1000000 in
theorem partSize_S (s : ByteArray) (c : UInt8) (r : List UInt8) (w : World) (hs : s.size ≤ 281474976710656) (hc : bys s = c :: r) (h1 : isLt c = false) (h2 : isNm c = false) (h3 : Lib.hasPrefix s.data.toList [33, 61] = false) (h4 : Lib.hasPrefix s.data.toList [46, 46] = false) (h5 : 0 ≤ Lib.indexByte [58, 59, 37, 61, 44, 43] c) :
    Calls Tryz.prog 201 #[.string s] w fun e w' => e = .returned (.int .i64 1) ∧ w = w' := by
  have hsz : 0 < s.size := by rw [← bys_len, hc]; simp
  have hlt' : (0 : Int) < (s.size : Int) := by omega
  have hg : ∀ h : 0 < s.size, s[0].toNat = c.toNat := fun h => by rw [byt_get s 0 h, hc]; rfl
  have IL := hide (fun W => isLetter_any c.toNat W)
  rw [show (decide (97 ≤ c.toNat) && decide (c.toNat ≤ 122)) = false from h1] at IL
  have ID := hide (fun W => isDigit_any c.toNat W)
  rw [show (decide (48 ≤ c.toNat) && decide (c.toNat ≤ 57)) = false from h2] at ID
  have HP := hide (fun W => Tryz.strings_HasPrefix s ⟨#[33, 61]⟩ W)
  rw [show Lib.hasPrefix s.data.toList (⟨#[33, 61]⟩ : ByteArray).data.toList = false from h3] at HP
  have HQ := hide (fun W => Tryz.strings_HasPrefix s ⟨#[46, 46]⟩ W)
  rw [show Lib.hasPrefix s.data.toList (⟨#[46, 46]⟩ : ByteArray).data.toList = false from h4] at HQ
  have IB := hide (fun W => Tryz.strings_IndexByte ⟨#[58, 59, 37, 61, 44, 43]⟩ (c.toNat : Int) W)
  rw [show Lib.indexByte (⟨#[58, 59, 37, 61, 44, 43]⟩ : ByteArray).data.toList ((c.toNat : Int).toNat.toUInt8) = Lib.indexByte [58, 59, 37, 61, 44, 43] c from by rw [Int.toNat_natCast]; simp] at IB
  obtain ⟨q, hq⟩ : ∃ q, q = Lib.indexByte [58, 59, 37, 61, 44, 43] c := ⟨_, rfl⟩
  rw [← hq] at IB h5
  clear hq
  obtain ⟨b, hb⟩ : ∃ b, b = c.toNat := ⟨_, rfl⟩
  rw [← hb] at hg IL ID IB
  clear hb hc h1 h2 h3 h4 hs
  go_enter Tryz.func201, Tryz.ntmps201
  go_wp2_with fail
  refine (IL.out _).mono ?_
  rintro e w' ⟨rfl, rfl⟩
  go_wp2_with fail
  refine (ID.out _).mono ?_
  rintro e w' ⟨rfl, rfl⟩
  go_wp2_with fail
  refine (HP.out _).mono ?_
  rintro e w' ⟨rfl, hw⟩
  subst hw
  go_wp2_with fail
  refine (HQ.out _).mono ?_
  rintro e w' ⟨rfl, hw⟩
  subst hw
  go_wp2_with fail
  refine (IB.out _).mono ?_
  rintro e w' ⟨rfl, hw⟩
  subst hw
  go_wp2
  go_ret
  exact ⟨rfl, rfl⟩

set_option maxHeartbeats 1000000 in
theorem partSize_X (s : ByteArray) (c : UInt8) (r : List UInt8) (w : World) (hs : s.size ≤ 281474976710656) (hc : bys s = c :: r) (h1 : isLt c = false) (h2 : isNm c = false) (h3 : Lib.hasPrefix s.data.toList [33, 61] = false) (h4 : Lib.hasPrefix s.data.toList [46, 46] = false) (h5 : ¬ 0 ≤ Lib.indexByte [58, 59, 37, 61, 44, 43] c) :
    Calls Tryz.prog 201 #[.string s] w fun e w' => e = .panicked PC ∧ w = w' := by
  have hsz : 0 < s.size := by rw [← bys_len, hc]; simp
  have hlt' : (0 : Int) < (s.size : Int) := by omega
  have hg : ∀ h : 0 < s.size, s[0].toNat = c.toNat := fun h => by rw [byt_get s 0 h, hc]; rfl
  have IL := hide (fun W => isLetter_any c.toNat W)
  rw [show (decide (97 ≤ c.toNat) && decide (c.toNat ≤ 122)) = false from h1] at IL
  have ID := hide (fun W => isDigit_any c.toNat W)
  rw [show (decide (48 ≤ c.toNat) && decide (c.toNat ≤ 57)) = false from h2] at ID
  have HP := hide (fun W => Tryz.strings_HasPrefix s ⟨#[33, 61]⟩ W)
  rw [show Lib.hasPrefix s.data.toList (⟨#[33, 61]⟩ : ByteArray).data.toList = false from h3] at HP
  have HQ := hide (fun W => Tryz.strings_HasPrefix s ⟨#[46, 46]⟩ W)
  rw [show Lib.hasPrefix s.data.toList (⟨#[46, 46]⟩ : ByteArray).data.toList = false from h4] at HQ
  have IB := hide (fun W => Tryz.strings_IndexByte ⟨#[58, 59, 37, 61, 44, 43]⟩ (c.toNat : Int) W)
  rw [show Lib.indexByte (⟨#[58, 59, 37, 61, 44, 43]⟩ : ByteArray).data.toList ((c.toNat : Int).toNat.toUInt8) = Lib.indexByte [58, 59, 37, 61, 44, 43] c from by rw [Int.toNat_natCast]; simp] at IB
  obtain ⟨q, hq⟩ : ∃ q, q = Lib.indexByte [58, 59, 37, 61, 44, 43] c := ⟨_, rfl⟩
  rw [← hq] at IB h5
  clear hq
  obtain ⟨b, hb⟩ : ∃ b, b = c.toNat := ⟨_, rfl⟩
  rw [← hb] at hg IL ID IB
  clear hb hc h1 h2 h3 h4 hs
  go_enter Tryz.func201, Tryz.ntmps201
  go_wp2_with fail
  refine (IL.out _).mono ?_
  rintro e w' ⟨rfl, rfl⟩
  go_wp2_with fail
  refine (ID.out _).mono ?_
  rintro e w' ⟨rfl, rfl⟩
  go_wp2_with fail
  refine (HP.out _).mono ?_
  rintro e w' ⟨rfl, hw⟩
  subst hw
  go_wp2_with fail
  refine (HQ.out _).mono ?_
  rintro e w' ⟨rfl, hw⟩
  subst hw
  go_wp2_with fail
  refine (IB.out _).mono ?_
  rintro e w' ⟨rfl, hw⟩
  subst hw
  go_wp2
  exact ⟨rfl, rfl, rfl⟩

theorem partSize_any (s : ByteArray) (w : World) (hs : s.size ≤ 281474976710656) (h0 : bys s ≠ []) :
    Calls Tryz.prog 201 #[.string s] w fun e w' => (match partN (bys s) with | some n => e = .returned (.int .i64 (n : Int)) | none => e = .panicked PC) ∧ w = w' := by
  cases hc : bys s with
  | nil => exact absurd hc h0
  | cons c r =>
    have e0 : s.data.toList = c :: r := hc
    simp only [partN]
    by_cases h1 : isLt c = true
    · rw [if_pos h1]
      exact (partSize_L s c r w hs hc h1).mono (fun e w' ⟨h, k⟩ => ⟨by rw [h, hc], k⟩)
    · rw [if_neg h1]
      have h1' : isLt c = false := by simpa using h1
      by_cases h2 : isNm c = true
      · rw [if_pos h2]
        exact (partSize_D s c r w hs hc h1' h2).mono (fun e w' ⟨h, k⟩ => ⟨by rw [h, hc], k⟩)
      · rw [if_neg h2]
        have h2' : isNm c = false := by simpa using h2
        have n33 : ∀ k : UInt8, c.toNat = k.toNat ↔ c = k := fun k => UInt8.toNat_inj
        by_cases h3 : Lib.hasPrefix s.data.toList [33, 61] = true
        · have := h3
          rw [e0, hasP_two] at this
          rw [if_pos (.inl ⟨by rw [this.1]; rfl, this.2⟩)]
          exact partSize_P s c r w hs hc h1' h2' h3
        · have h3' : Lib.hasPrefix s.data.toList [33, 61] = false := by simpa using h3
          by_cases h4 : Lib.hasPrefix s.data.toList [46, 46] = true
          · have := h4
            rw [e0, hasP_two] at this
            rw [if_pos (.inr ⟨by rw [this.1]; rfl, this.2⟩)]
            exact partSize_Q s c r w hs hc h1' h2' h3' h4
          · have h4' : Lib.hasPrefix s.data.toList [46, 46] = false := by simpa using h4
            rw [e0, hasP_two] at h3 h4
            rw [if_neg (by
              rintro (⟨h, k⟩ | ⟨h, k⟩)
              · exact h3 ⟨(n33 33).1 h, k⟩
              · exact h4 ⟨(n33 46).1 h, k⟩)]
            by_cases h5 : isSg c = true
            · rw [if_pos h5]
              exact partSize_S s c r w hs hc h1' h2' h3' h4' ((index_mem _ _).2 ((isSg_mem c).1 h5))
            · rw [if_neg h5]
              exact partSize_X s c r w hs hc h1' h2' h3' h4' (fun h => h5 ((isSg_mem c).2 ((index_mem _ _).1 h)))

end Go.Proofs.YtijccekejfcheaaGreatDoor

namespace Go.Proofs.YtijccekejfcheaaGreatDoor
open Go.RowKit

attribute [local go_sem] Oper.semAt_some

def mkB (l : List UInt8) : ByteArray := ⟨l.toArray⟩

theorem bys_mkB (l : List UInt8) : bys (mkB l) = l := rfl

structure Rest (S : List UInt8) (k : Nat) (r : ByteArray) : Prop where
  le : k ≤ (toks S).1.length
  trim : trimB (bys r) = bys r
  same : toks (bys r) = ((toks S).1.drop k, (toks S).2)
  size : r.size ≤ 1024

theorem trimB_again (s : List UInt8) : trimB (trimB s) = trimB s := by
  unfold trimB
  induction s with
  | nil => rfl
  | cons c r ih =>
    by_cases h : (c == 32) = true
    · simp only [List.dropWhile, h]; exact ih
    · have h' : (c == 32) = false := by simpa using h
      simp [List.dropWhile, h']

theorem toks_trim (s : List UInt8) : toks (trimB s) = toks s := by
  rw [toks_step, toks_step s, trimB_again]

theorem Rest.start (t : ByteArray) (ht : t.size ≤ 1024) : Rest (bys t) 0 ⟨(Lib.trimLeftB t.data.toList 32).toArray⟩ := by
  have e : bys ⟨(Lib.trimLeftB t.data.toList 32).toArray⟩ = trimB (bys t) := rfl
  refine ⟨Nat.zero_le _, by rw [e, trimB_again], by rw [e, toks_trim]; rfl, ?_⟩
  rw [← bys_len, e]
  have := trimB_len (bys t)
  rw [bys_len] at this
  omega

theorem Rest.nil {S : List UInt8} {k : Nat} {r : ByteArray} (h : Rest S k r) (h0 : bys r = []) : (toks S).2 = false ∧ k = (toks S).1.length := by
  have := h.same
  rw [h0] at this
  have e : toks [] = ([], false) := rfl
  rw [e, Prod.mk.injEq] at this
  have h1 := h.le
  have h2 := congrArg List.length this.1
  rw [List.length_drop] at h2
  simp at h2
  exact ⟨this.2.symm, by omega⟩

theorem Rest.bad {S : List UInt8} {k : Nat} {r : ByteArray} (h : Rest S k r) (h0 : bys r ≠ []) (hp : partN (bys r) = none) : (toks S).2 = true ∧ k = (toks S).1.length := by
  have := h.same
  rw [toks_step, h.trim] at this
  have h1 := h.le
  revert hp this h0
  generalize bys r = l
  intro h0 hp this
  cases l with
  | nil => exact absurd rfl h0
  | cons c q =>
    dsimp only at this
    rw [hp] at this
    dsimp only at this
    rw [Prod.mk.injEq] at this
    have h2 := congrArg List.length this.1
    rw [List.length_drop] at h2
    simp at h2
    exact ⟨this.2.symm, by omega⟩

theorem Rest.go {S : List UInt8} {k n : Nat} {r : ByteArray} (h : Rest S k r) (h0 : bys r ≠ []) (hp : partN (bys r) = some n) :
    (toks S).1[k]? = some ((bys r).take n) ∧ Rest S (k + 1) ⟨(Lib.trimLeftB (r.extract n r.size).data.toList 32).toArray⟩ := by
  have hs := h.same
  rw [toks_step, h.trim] at hs
  have h1 := h.le
  have hn := partN_le hp
  have e : bys ⟨(Lib.trimLeftB (r.extract n r.size).data.toList 32).toArray⟩ = trimB ((bys r).drop n) := by
    show trimB (bys (r.extract n r.size)) = _
    rw [bys_from _ _ _ (Nat.le_refl _)]
  have e2 : toks (bys r) = ((bys r).take n :: (toks ((bys r).drop n)).1, (toks ((bys r).drop n)).2) := by
    rw [toks_step, h.trim]
    revert hp h0
    generalize bys r = l
    intro h0 hp
    cases l with
    | nil => exact absurd rfl h0
    | cons c q =>
      dsimp only
      rw [hp]
  have hs := h.same
  rw [e2, Prod.mk.injEq] at hs
  have hk : (toks S).1[k]? = some ((bys r).take n) := by
    have := congrArg (fun l => l[0]?) hs.1
    simp only [List.getElem?_cons_zero, List.getElem?_drop, Nat.add_zero] at this
    exact this.symm
  have hlt : k < (toks S).1.length := by
    rcases Nat.lt_or_ge k (toks S).1.length with q | q
    · exact q
    · rw [List.getElem?_eq_none q] at hk; cases hk
  refine ⟨hk, ⟨hlt, by rw [e, trimB_again], ?_, ?_⟩⟩
  · rw [e, toks_trim, Prod.ext_iff]
    refine ⟨?_, hs.2⟩
    have := congrArg List.tail hs.1
    rw [List.tail_cons, List.tail_drop] at this
    exact this
  · rw [← bys_len, e]
    have h3 := trimB_len ((bys r).drop n)
    have h4 := h.size
    rw [List.length_drop, bys_len] at h3
    omega

def strOf : Value → ByteArray
  | .string s => s
  | _ => ⟨#[]⟩

set_option maxRecDepth 100000 in
set_option maxHeartbeats 1000000 in
theorem parts1_pan (B : Nat) (t : ByteArray) (w : World) (ht : t.size ≤ 1024) (hB : B < w.heap.size) (hc : w.cell? ⟨B, 0, none⟩ = some (.string t)) :
    SeqPan Tryz.prog 2 200 #[.pointer (some ⟨B, 0, none⟩)] (fun l : Tok => #[Value.string (mkB l)]) (fun _ _ => True) (toks (bys t)).1 (toks (bys t)).2 PC w := by
  intro l J Jp W hW _ hY h0
  have hc' : W.cell? ⟨B, 0, none⟩ = some (.string t) := (hW.cell (p := ⟨B, 0, none⟩) hB).trans hc
  have TL := hide (fun (s : ByteArray) (X : World) => Tryz.strings_TrimLeft_one s 32 (by decide) X)
  have R0 := hide (Rest.start t ht)
  have HY := hide hY
  have H0 := hide h0
  obtain ⟨S, hS⟩ : ∃ S, S = bys t := ⟨_, rfl⟩
  rw [← hS] at R0 HY ⊢
  clear hY h0 hS hc hB hW ht
  refine callsIn_of_wp Tryz.func200 rfl trivial ?_ rfl
  simp only [Tryz.ntmps200, List.size_toArray, List.length_cons, List.length_nil, Nat.reduceAdd, Nat.reduceSub, Array.replicate_succ, Array.replicate_zero, List.push_toArray, List.append_toArray, List.nil_append, List.cons_append]
  gi_wp2_with fail
  refine ⟨trivial, (callsIn_wide.2 (TL.out _ _)).mono ?_⟩
  rintro e w' ⟨rfl, rfl⟩
  obtain ⟨r0, hr0⟩ : ∃ r0 : ByteArray, r0 = ⟨(Lib.trimLeftB t.data.toList 32).toArray⟩ := ⟨_, rfl⟩
  rw [← hr0] at R0 ⊢
  clear hr0
  gi_wp2
  gi_loopw [3] (fun p wr => ∃ (k : Nat) (r : ByteArray), p = .string r ∧ Hid (Rest S k r) ∧ Hid (J k wr)) (fun p _ => (strOf p).size)
  case atStart => exact ⟨0, r0, rfl, R0, H0⟩
  case round =>
    obtain ⟨k, r, rfl, HR, HJ⟩ := hrel
    by_cases hz : bys r = []
    · obtain ⟨h1, rfl⟩ := HR.out.nil hz
      obtain rfl : r = ⟨#[]⟩ := by
        cases r with
        | mk d => cases d with
          | mk l => have : l = [] := hz
                    subst this; rfl
      gi_wp2
      go_end0
      exact .inl ⟨h1, ⟨_, rfl⟩, HJ.out⟩
    · have hq := toList_ne (t := r) (by rw [← bys_len]; exact fun h => hz (List.eq_nil_of_length_eq_zero h))
      have hsz : r.size ≤ 1024 := HR.out.size
      cases hp : partN (bys r) with
      | none =>
        obtain ⟨h1, rfl⟩ := HR.out.bad hz hp
        have PS := hide (fun X => partSize_any r X (by omega) hz)
        rw [hp] at PS
        gi_wp2_with fail
        refine ⟨trivial, (callsIn_wide.2 (PS.out _)).mono ?_⟩
        rintro e w' ⟨rfl, rfl⟩
        gi_wp2
        exact ⟨rfl, .inr ⟨rfl, .inr ⟨h1, HJ.out⟩⟩⟩
      | some n =>
        obtain ⟨hk, hgo⟩ := HR.out.go hz hp
        have HGO := hide hgo
        have hn := partN_le hp
        rw [bys_len] at hn
        have PS := hide (fun X => partSize_any r X (by omega) hz)
        rw [hp] at PS
        have hn1 : (n : Int) ≤ (r.size : Int) := by omega
        obtain ⟨fn, tmps, assign, body, hy, hR⟩ := HY.out k _ wr hk HJ.out
        rw [show mkB ((bys r).take n) = r.extract 0 n from by rw [← bys_to]; rfl] at hy
        have HRR := hide hR
        clear hR hp hk hgo
        gi_wp2_with fail
        refine ⟨trivial, (callsIn_wide.2 (PS.out _)).mono ?_⟩
        rintro e w1 ⟨rfl, rfl⟩
        gi_wp2_with fail
        refine HRR.out.mono ?_
        rintro e w2 (⟨rfl, hJ2, _⟩ | ⟨rfl, hJp⟩)
        · have HJ2 := hide hJ2
          clear hJ2 HRR hy
          gi_wp2_with fail
          refine ⟨trivial, (callsIn_wide.2 (TL.out _ _)).mono ?_⟩
          rintro e w3 ⟨rfl, rfl⟩
          have hms : (Lib.trimLeftB (r.extract n r.size).data.toList 32).length < r.size := by
            have h1 := trimB_len (bys (r.extract n r.size))
            rw [bys_len, ByteArray.size_extract] at h1
            have : (trimB (bys (r.extract n r.size))).length = (Lib.trimLeftB (r.extract n r.size).data.toList 32).length := rfl
            omega
          have HMS := hide hms
          clear hms
          obtain ⟨r1, hr1⟩ : ∃ r1 : ByteArray, r1 = ⟨(Lib.trimLeftB (r.extract n r.size).data.toList 32).toArray⟩ := ⟨_, rfl⟩
          have hsz1 : r1.size < r.size := by rw [hr1]; exact HMS.out
          rw [← hr1] at HGO ⊢
          clear hr1 HMS
          gi_wp2
          exact ⟨⟨k + 1, r1, rfl, HGO, HJ2⟩, hsz1⟩
        · gi_wp2
          exact ⟨rfl, .inr ⟨rfl, .inl hJp⟩⟩

end Go.Proofs.YtijccekejfcheaaGreatDoor

namespace Go.Proofs.YtijccekejfcheaaGreatDoor
open Go.RowKit

attribute [local go_sem] Oper.semAt_some

theorem parts_any (t : ByteArray) (w : World) : Calls Tryz.prog 149 #[.string t] w fun e w' => e = .returned (.func (.func 200) #[] #[.pointer (some ⟨w.heap.size, 0, none⟩)]) ∧ w' = w.alloc (.cells #[.string t] 9) := by
  have hmf : ∀ (fn : Fn) (first cap : Array Value) (w : World), (Instr.makeFunc fn first cap).run Tryz.prog w = .ok (.func fn first cap) w := fun _ _ _ _ => rfl
  go_enter Tryz.func149, Tryz.ntmps149
  go_wp2
  go_ret
  exact ⟨rfl, rfl⟩

theorem between_any (a : Option Addr) (n c : Nat) (t : ByteArray) (w : World) : Calls Tryz.prog 100 #[.slice a n c, .string t] w fun e w' => e = .returned (.func (.func 150) #[] #[.pointer (some ⟨w.heap.size, 0, none⟩), .pointer (some ⟨w.heap.size + 1, 0, none⟩)]) ∧ w' = (w.alloc (.cells #[.slice a n c] 116)).alloc (.cells #[.string t] 9) := by
  have hmf : ∀ (fn : Fn) (first cap : Array Value) (w : World), (Instr.makeFunc fn first cap).run Tryz.prog w = .ok (.func fn first cap) w := fun _ _ _ _ => rfl
  go_enter Tryz.func100, Tryz.ntmps100
  go_wp2
  go_ret
  exact ⟨rfl, rfl⟩

theorem info_str : (Tryz.prog.info? 9).map (fun i => (i.zero, i.size, i.bytes)) = some (some (.string ⟨#[]⟩), 1, 16) := by kernel_rfl

def Ans {α : Type} (o : Option α) (ok : α → Value → World → Prop) (w : World) (e : Ending) (W' : World) : Prop :=
  Below w.heap.size w W' ∧ (match o with | none => e = .panicked PC | some x => ∃ v, e = .returned v ∧ ok x v W')

theorem Ans.panic {α : Type} {o : Option α} {ok : α → Value → World → Prop} {w W' : World} (h : o = none) (hb : Below w.heap.size w W') : Ans o ok w (.panicked PC) W' := by subst h; exact ⟨hb, rfl⟩
theorem Ans.ret {α : Type} {o : Option α} {ok : α → Value → World → Prop} {w W' : World} {x : α} {v : Value} (h : o = some x) (hb : Below w.heap.size w W') (hv : ok x v W') : Ans o ok w (.returned v) W' := by subst h; exact ⟨hb, v, rfl, hv⟩

theorem leave_pan {P : Program} {fn : Func} {tmps : Array Value} {R : Ending → World → Prop} {D : Nat} {W : World} {pc : List PanicEntry} (hK : W.heap[D]? = some (.deferred (some []))) (hR : R (.panicked pc) (W.putObj D (.deferred none))) :
    LeavesInM Fence.wide 0 P fn tmps R [{ target := .collected D, args := #[] }] (.panicking pc) W := by
  refine ⟨by simp, .inl ⟨_, _, rfl, run_takeDeferred hK, ?_⟩⟩
  exact hR

theorem below_take {w W : World} {D : Nat} (hB : Below w.heap.size w W) (hD : w.heap.size ≤ D) (hK : W.heap[D]? = some (.deferred (some []))) : Below w.heap.size w (W.putObj D (.deferred none)) :=
  hB.trans (belowK_b (w := w) (Nat.le_refl _) W D _ _ hD hK rfl rfl)

def gatT (s : List UInt8) : Option (List Tok) := if (toks s).2 then none else some (toks s).1

def Own1 (base : Nat) (ts : List Tok) (v : Value) (W : World) : Prop := W.ownsRow base 9 1 v ts.length (ts.map fun l => .string (mkB l))

theorem boxed_xt {B b : Nat} {t : TypeId} {v : Value} {X Y : World} (h : Boxed X b t v) (hx : Xt B X Y) : Boxed Y b t v := hx.cells _ _ h rfl

theorem ownsRow_xt {B base : Nat} {e : TypeId} {size k : Nat} {v : Value} {xs : List Value} {X Y : World} (h : X.ownsRow base e size v k xs) (hx : Xt B X Y) : Y.ownsRow base e size v k xs := by
  refine ⟨h.1, ?_⟩
  rcases h.2 with h2 | ⟨g, cap, cur, h3, h4, h5, h6⟩
  · exact .inl h2
  · exact .inr ⟨g, cap, cur, h3, h4, hx.cells _ _ h5 rfl, h6⟩

theorem toksF_len (n : Nat) (s : List UInt8) : (toksF n s).1.length ≤ s.length := by
  induction n generalizing s with
  | zero => simp [toksF]
  | succ n ih =>
    rw [toksF]
    have hl := trimB_len s
    cases ht : trimB s with
    | nil => simp
    | cons c r =>
      dsimp only
      cases hp : partN (c :: r) with
      | none => simp
      | some k =>
        have hk := partN_le hp
        dsimp only
        have := ih ((c :: r).drop k)
        rw [List.length_drop, ← ht] at this
        rw [← ht] at hk
        rw [List.length_cons, ← ht]
        omega

theorem toks_len (s : List UInt8) : (toks s).1.length ≤ s.length := toksF_len _ _

set_option maxRecDepth 100000 in
set_option maxHeartbeats 2000000 in
theorem gather_any (t : ByteArray) (w : World) (ht : t.size ≤ 1024) : Calls Tryz.prog 99 #[.string t] w (Ans (gatT (bys t)) (Own1 w.heap.size) w) := by
  have PA := hide (fun X => parts_any t X)
  obtain ⟨i0, hi, hz0, hz1, hz2⟩ := info_parts info_str
  have hlen : (toks (bys t)).1.length ≤ 1024 := by have := toks_len (bys t); rw [bys_len] at this; omega
  refine calls_pan Tryz.func99 rfl ?_
  simp only [Tryz.ntmps99, List.size_toArray, List.length_cons, List.length_nil, Nat.reduceAdd, Nat.reduceSub, Array.replicate_succ, Array.replicate_zero, List.push_toArray, List.append_toArray, List.nil_append, List.cons_append]
  refine WpAt.seq (WpAt.of_wp ?_)
  go_wp2
  refine WpAt.seq (WpAt.of_wp ?_)
  go_wp2
  refine WpAt.seq (WpAt.seq (WpAt.of_wp ?_))
  go_wp2_with fail
  refine (PA.out _).mono ?_
  rintro e w1 ⟨rfl, rfl⟩
  go_wp2
  have bO := Boxed.new w 116 (.slice none 0 0)
  have bN := Boxed.new (w.alloc (.cells #[.slice none 0 0] 116)) 9 (.string t)
  rw [World.size_alloc] at bN
  have hB0 : Below w.heap.size w ((w.alloc (.cells #[.slice none 0 0] 116)).alloc (.cells #[.string t] 9)) := ((Below.refl _ w).alloc (Nat.le_refl _) _).alloc (by simp) _
  refine WpAt.block (WpAt.range Tryz.func99 (gf := 200) (lb := #[.pointer (some ⟨w.heap.size + 1, 0, none⟩)]) rfl (enters_of Tryz.func200 (by kernel_rfl) rfl)
    (parts1_pan (w.heap.size + 1) t _ ht (by simp) bN.cell) (fun _ _ => trivial) (fun _ => trivial) (fun _ => rfl)
    (fun k W => (∃ v, Boxed W w.heap.size 116 v ∧ Own1 w.heap.size ((toks (bys t)).1.take k) v W) ∧ Below w.heap.size w W) (fun _ => False)
    ?inv ?start (fun x => { tmps := #[.string t, undef, .slice none 0 0, .pointer (some ⟨w.heap.size, 0, none⟩), .string (mkB x), .string t, .func (.func 200) #[] #[.pointer (some ⟨w.heap.size + 1, 0, none⟩)], .string (mkB x), undef, undef, undef, undef, undef], defers := [] }) ?assign ?body ?done ?pan) ?x1 ?x2
  case x1 => exact fun _ _ _ h => h
  case x2 => exact fun _ _ _ h => h
  case inv =>
    rintro k X Y ⟨⟨v, hv, hr⟩, hB⟩ hx
    exact ⟨⟨v, boxed_xt hv hx, ownsRow_xt hr hx⟩, hB.trans (hx.below.mono (by simp; omega))⟩
  case start => exact ⟨⟨_, bO.alloc _, World.ownsRow_nil _ _ _ _⟩, hB0⟩
  case assign =>
    intro l x W K hK
    gi_wp2
    exact hK
  case body =>
    rintro l k x W hx ⟨⟨v, hv, hrow⟩, hB⟩ hsz
    have hkl : k < (toks (bys t)).1.length := by
      rcases Nat.lt_or_ge k (toks (bys t)).1.length with q | q
      · exact q
      · rw [List.getElem?_eq_none q] at hx; cases hx
    have hc := hv.cell
    have htl : ((toks (bys t)).1.take k).length = k := by rw [List.length_take]; omega
    unfold Own1 at hrow
    rw [htl] at hrow
    have hml : 1025 ≤ maxLen := by decide
    gi_wp2_with (gi_at_builtin; refine wpListIn_append_own _ rfl _ _ 116 rfl w.heap.size 9 i0 (.string ⟨#[]⟩) 1 16 Tryz.underlying116 hi hz0 hz1 hz2 rfl (by decide) _ _ _ rfl (hrow.alloc _) ⟨W.heap.size, 0, none⟩ 1 1 [.string (mkB x)] rfl rfl (cell_one_new _ _ _) (by simp [Value.oneCell']) (by omega) (by omega) (by have := hB.size; simp; omega) ?_; intro v' w1 hown' hgrow _; obtain ⟨g', cap', rfl⟩ := ownsRow_succ hown'; obtain ⟨hv1, hv2, hr2, hk2, hb2⟩ := hv.appended (by decide) hrow hB.size (Nat.le_refl _) hown' hgrow; have hc1 := hv1.cell; have hf1 := hv1.frozen)
    refine ⟨hk2.from _, trivial, ⟨_, hv2, ?_⟩, hB.trans hb2⟩
    unfold Own1
    rw [List.take_add_one, hx, Option.toList_some, List.length_append, htl, List.map_append]
    exact hr2
  case done =>
    rintro D W hst hD ⟨⟨v, hv, hrow⟩, hB⟩ hK
    have hc := hv.cell
    refine WpAt.seq (WpAt.of_wp ?_)
    go_wp2
    refine WpAt.of_wp ?_
    go_wp2
    refine ⟨by simp, .inl ⟨_, _, rfl, run_takeDeferred hK, ?_⟩⟩
    refine ⟨_, results_tmp rfl _ _ _, Ans.ret (by unfold gatT; rw [if_neg (by rw [hst]; simp)]) (below_take hB (by simp at hD; omega) hK) ?_⟩
    rw [List.take_length] at hrow
    exact ownsRow_putObj hrow _ hK rfl
  case pan =>
    rintro D W hD (h | ⟨hst, _, hB⟩) hK
    · exact h.elim
    · exact leave_pan hK (Ans.panic (by unfold gatT; rw [if_pos hst]) (below_take hB (by simp at hD; omega) hK))

end Go.Proofs.YtijccekejfcheaaGreatDoor

namespace Go.Proofs.YtijccekejfcheaaGreatDoor
open Go.RowKit

def Evs (w : World) : Prop := (∃ tp p, w.var? Tryz.prog "strconv.ErrSyntax" = some #[.iface tp p]) ∧ (∃ tp p, w.var? Tryz.prog "strconv.ErrRange" = some #[.iface tp p])

theorem var_below {w w' : World} {nm : String} {v : Array Value} (h : w.var? Tryz.prog nm = some v) (hb : Below w.heap.size w w') : w'.var? Tryz.prog nm = some v := by
  unfold World.var? at *
  cases hg : Tryz.prog.globalNamed nm with
  | none => rw [hg] at h; cases h
  | some g =>
    rw [hg] at h
    simp only [Option.bind_some] at h ⊢
    have hlt : g < w.heap.size := by
      rcases Nat.lt_or_ge g w.heap.size with h' | h'
      · exact h'
      · rw [Array.getElem?_eq_none h'] at h; cases h
    rw [hb.block g hlt]
    exact h

theorem Evs.below {w w' : World} (h : Evs w) (hb : Below w.heap.size w w') : Evs w' := by
  obtain ⟨⟨a, b, h1⟩, c, d, h2⟩ := h
  exact ⟨⟨a, b, var_below h1 hb⟩, c, d, var_below h2 hb⟩

theorem atoi_tok {t : Tok} (h : Tk t) (hl : t.length ≤ 9) : Lib.atoiAll t = Lib.NumEnd.ofOption ((Lib.decNat t).map fun (m : Nat) => (m : Int)) := by
  rw [Lib.atoiAll_short t (by omega)]
  congr 1
  cases t with
  | nil => rfl
  | cons c r =>
    obtain ⟨h1, h2⟩ := h
    simp only [Lib.atoi]
    have e1 : (c == 45) = false := beq_eq_false_iff_ne.2 h1
    rw [e1, if_neg (by simp)]
    by_cases h3 : c = 43
    · obtain rfl := h2 h3
      subst h3
      rfl
    · have e2 : (c == 43) = false := beq_eq_false_iff_ne.2 h3
      rw [e2, if_neg (by simp)]

def IsNum (n : Nat) (v : Value) (_ : World) : Prop := v = .int .i64 (n : Int)

theorem decFrom_lt : ∀ (l : List UInt8) (a n : Nat), Lib.decFrom a l = some n → n < (a + 1) * 10 ^ l.length
  | [], a, n, h => by simp [Lib.decFrom] at h; subst h; simp
  | b :: r, a, n, h => by
    rw [Lib.decFrom] at h
    cases hd : Lib.digitVal b with
    | none => rw [hd] at h; cases h
    | some d =>
      rw [hd] at h
      have hd9 : d ≤ 9 := by
        unfold Lib.digitVal at hd
        split at hd
        · simp only [Option.some.injEq] at hd; omega
        · cases hd
      have := decFrom_lt r _ n h
      rw [List.length_cons, Nat.pow_succ]
      have h3 : (a * 10 + d + 1) * 10 ^ r.length ≤ ((a + 1) * 10) * 10 ^ r.length := Nat.mul_le_mul_right _ (by omega)
      have h4 : ((a + 1) * 10) * 10 ^ r.length = (a + 1) * (10 ^ r.length * 10) := by rw [Nat.mul_assoc, Nat.mul_comm 10]
      omega

theorem numT_lt {t : Tok} {n : Nat} (h : numT t = some n) : n < 1000000000 := by
  unfold numT at h
  split at h
  · rename_i hl
    unfold Lib.decNat at h
    split at h
    · cases h
    · have := decFrom_lt t 0 n h
      have h2 : 10 ^ t.length ≤ 10 ^ 9 := Nat.pow_le_pow_right (by decide) hl
      simp at this
      omega
  · cases h

theorem below_bytesW {w w' : World} {e : TypeId} (h : w' = w ∨ ∃ t, w' = Lib.bytesWorld w e t) : Below w.heap.size w w' := by
  rcases h with rfl | ⟨t, rfl⟩
  · exact Below.refl _ _
  · exact bytes_below _ _ _

set_option maxHeartbeats 1000000 in
theorem readNumber_any (t : Tok) (w : World) (ht : Tk t) (hl : t.length ≤ 1024) (hv : Evs w) : Calls Tryz.prog 308 #[.string (mkB t)] w (Ans (numT t) IsNum w) := by
  have hsz : (mkB t).size = t.length := by rw [← bys_len, bys_mkB]
  cases hn : numT t with
  | some n =>
    have hl9 : t.length ≤ 9 := by
      unfold numT at hn
      split at hn
      · assumption
      · cases hn
    have ha : Lib.atoiAll (mkB t).data.toList = .ok (n : Int) := by
      show Lib.atoiAll t = _
      rw [atoi_tok ht hl9]
      unfold numT at hn
      rw [if_pos hl9] at hn
      rw [hn]; rfl
    have AT := hide (fun W => Tryz.strconv_Atoi_ok (mkB t) (by omega) _ ha W)
    have hz : ¬ 9 < ((mkB t).size : Int) := by omega
    clear ha hn ht hv
    generalize mkB t = s at *
    go_enter Tryz.func308, Tryz.ntmps308
    go_wp2_with fail
    refine (AT.out _).mono ?_
    rintro e w1 ⟨rfl, hw⟩
    have HB := hide (below_bytesW hw)
    clear hw
    go_wp2
    go_ret
    exact Ans.ret rfl HB.out rfl
  | none =>
    cases ha : Lib.atoiAll t with
    | ok v =>
      have AT := hide (fun W => Tryz.strconv_Atoi_ok (mkB t) (by omega) v ha W)
      have hl9 : 9 < t.length := by
        rcases Nat.lt_or_ge 9 t.length with q | q
        · exact q
        · rw [atoi_tok ht q] at ha
          unfold numT at hn
          rw [if_pos q] at hn
          rw [hn] at ha
          cases ha
      have hz : 9 < ((mkB t).size : Int) := by omega
      clear ha hn ht hv
      generalize mkB t = s at *
      go_enter Tryz.func308, Tryz.ntmps308
      go_wp2_with fail
      refine (AT.out _).mono ?_
      rintro e w1 ⟨rfl, hw⟩
      have HB := hide (below_bytesW hw)
      clear hw
      go_wp2
      exact ⟨rfl, Ans.panic rfl HB.out⟩
    | «syntax» =>
      obtain ⟨⟨tp, p, h1⟩, _⟩ := hv
      have AT := hide (Tryz.strconv_Atoi_syntax_var (mkB t) (by omega) ha tp p w h1)
      clear ha hn ht h1
      generalize mkB t = s at *
      go_enter Tryz.func308, Tryz.ntmps308
      go_wp2_with fail
      refine AT.out.mono ?_
      rintro e w1 ⟨N, rfl, _, _, hb⟩
      have HB := hide hb
      clear hb AT
      go_wp2
      exact ⟨rfl, Ans.panic rfl HB.out⟩
    | range =>
      obtain ⟨_, tp, p, h1⟩ := hv
      have AT := hide (Tryz.strconv_Atoi_range_var (mkB t) (by omega) ha tp p w h1)
      clear ha hn ht h1
      generalize mkB t = s at *
      go_enter Tryz.func308, Tryz.ntmps308
      go_wp2_with fail
      refine AT.out.mono ?_
      rintro e w1 ⟨N, rfl, _, _, hb⟩
      have HB := hide hb
      clear hb AT
      go_wp2
      exact ⟨rfl, Ans.panic rfl HB.out⟩

theorem readNumber_is (t : Tok) (w : World) {o : Option Nat} (h : numT t = o) (ht : Tk t) (hl : t.length ≤ 1024) (hv : Evs w) : Calls Tryz.prog 308 #[.string (mkB t)] w (Ans o IsNum w) := h ▸ readNumber_any t w ht hl hv

theorem readDivisor_any (t : Tok) (w : World) (ht : Tk t) (hl : t.length ≤ 1024) (hv : Evs w) : Calls Tryz.prog 300 #[.string (mkB t)] w (Ans (match numT t with | some n => if n = 0 then none else some n | none => none) IsNum w) := by
  have RN := hide (readNumber_any t w ht hl hv)
  cases hn : numT t with
  | none =>
    rw [hn] at RN
    clear hn ht hv hl
    generalize mkB t = s at *
    go_enter Tryz.func300, Tryz.ntmps300
    go_wp2_with fail
    refine RN.out.mono ?_
    rintro e w1 ⟨hb, rfl⟩
    have HB := hide hb
    clear hb RN
    go_wp2
    exact ⟨rfl, Ans.panic rfl HB.out⟩
  | some n =>
    rw [hn] at RN
    clear hn ht hv hl
    generalize mkB t = s at *
    by_cases h0 : n = 0
    · subst h0
      go_enter Tryz.func300, Tryz.ntmps300
      go_wp2_with fail
      refine RN.out.mono ?_
      rintro e w1 ⟨hb, v, rfl, rfl⟩
      have HB := hide hb
      clear hb RN
      go_wp2
      exact ⟨rfl, Ans.panic rfl HB.out⟩
    · have h0' : ((n : Int) == 0) = false := beq_eq_false_iff_ne.2 (by omega)
      have H0 := hide h0
      clear h0
      go_enter Tryz.func300, Tryz.ntmps300
      go_wp2_with fail
      refine RN.out.mono ?_
      rintro e w1 ⟨hb, v, rfl, rfl⟩
      have HB := hide hb
      clear hb RN
      go_wp2
      go_ret
      exact Ans.ret (x := n) rfl HB.out rfl

def IsByte (c : UInt8) (v : Value) (_ : World) : Prop := v = .int .u8 (c.toNat : Int)

theorem readOperand_any (t : Tok) (w : World) (hl : t.length ≤ 1024) : Calls Tryz.prog 299 #[.string (mkB t)] w (Ans (operT t) IsByte w) := by
  have hsz : (mkB t).size = t.length := by rw [← bys_len, bys_mkB]
  by_cases h1 : t.length = 1
  · obtain ⟨c, rfl⟩ : ∃ c, t = [c] := List.length_eq_one_iff.1 h1
    have CO := hide (fun W => Tryz.strings_Contains_one ⟨#[110, 105, 118, 119, 102, 116, 99, 101]⟩ c W)
    have hm : decide (0 ≤ Lib.indexByte (⟨#[110, 105, 118, 119, 102, 116, 99, 101]⟩ : ByteArray).data.toList c) = decide (c ∈ opsT) := by
      rw [decide_eq_decide]; exact index_mem _ _
    rw [hm] at CO
    have hg : ∀ h : 0 < (mkB [c]).size, (mkB [c])[0].toNat = c.toNat := fun _ => rfl
    clear hm
    by_cases hc : c ∈ opsT
    · have hd : decide (c ∈ opsT) = true := decide_eq_true hc
      rw [hd] at CO
      have e1 : operT [c] = some c := if_pos hc
      rw [e1]
      clear hd hc e1 h1 hl
      go_enter Tryz.func299, Tryz.ntmps299
      go_wp2_with fail
      refine (CO.out _).mono ?_
      rintro e w1 ⟨rfl, rfl⟩
      go_wp2
      go_ret
      exact Ans.ret rfl (Below.refl _ _) rfl
    · have hd : decide (c ∈ opsT) = false := decide_eq_false hc
      rw [hd] at CO
      have e1 : operT [c] = none := if_neg hc
      rw [e1]
      clear hd hc e1 h1 hl
      go_enter Tryz.func299, Tryz.ntmps299
      go_wp2_with fail
      refine (CO.out _).mono ?_
      rintro e w1 ⟨rfl, rfl⟩
      go_wp2
      exact ⟨rfl, Ans.panic rfl (Below.refl _ _)⟩
  · have e1 : operT t = none := by
      match t, h1 with
      | [], _ => rfl
      | [_], h => exact absurd rfl h
      | _ :: _ :: _, _ => rfl
    rw [e1]
    have hq : (((mkB t).size : Int) != 1) = true := by rw [hsz, bne_iff_ne]; omega
    clear e1 h1 hsz
    generalize mkB t = s at *
    go_enter Tryz.func299, Tryz.ntmps299
    go_wp2
    exact ⟨rfl, Ans.panic rfl (Below.refl _ _)⟩

theorem readCat_0 (w : World) : Calls Tryz.prog 151 #[.string ⟨#[122, 101, 114, 111]⟩] w (Ans (some 0) IsNum w) := by
  go_enter Tryz.func151, Tryz.ntmps151
  go_wp2
  go_ret
  exact Ans.ret rfl (Below.refl _ _) rfl

theorem readCat_1 (w : World) : Calls Tryz.prog 151 #[.string ⟨#[111, 110, 101]⟩] w (Ans (some 1) IsNum w) := by
  go_enter Tryz.func151, Tryz.ntmps151
  go_wp2
  go_ret
  exact Ans.ret rfl (Below.refl _ _) rfl

theorem readCat_2 (w : World) : Calls Tryz.prog 151 #[.string ⟨#[116, 119, 111]⟩] w (Ans (some 2) IsNum w) := by
  go_enter Tryz.func151, Tryz.ntmps151
  go_wp2
  go_ret
  exact Ans.ret rfl (Below.refl _ _) rfl

theorem readCat_3 (w : World) : Calls Tryz.prog 151 #[.string ⟨#[102, 101, 119]⟩] w (Ans (some 3) IsNum w) := by
  go_enter Tryz.func151, Tryz.ntmps151
  go_wp2
  go_ret
  exact Ans.ret rfl (Below.refl _ _) rfl

theorem readCat_4 (w : World) : Calls Tryz.prog 151 #[.string ⟨#[109, 97, 110, 121]⟩] w (Ans (some 4) IsNum w) := by
  go_enter Tryz.func151, Tryz.ntmps151
  go_wp2
  go_ret
  exact Ans.ret rfl (Below.refl _ _) rfl

theorem readCat_5 (w : World) : Calls Tryz.prog 151 #[.string ⟨#[111, 116, 104, 101, 114]⟩] w (Ans (some 5) IsNum w) := by
  go_enter Tryz.func151, Tryz.ntmps151
  go_wp2
  go_ret
  exact Ans.ret rfl (Below.refl _ _) rfl

theorem ne_lit {t l : Tok} (h : t ≠ l) : ((mkB t).toList == l) = false := by
  rw [ByteArray.toList_eq]
  exact beq_eq_false_iff_ne.2 h

theorem readCat_no (t : Tok) (w : World) (h0 : t ≠ [122, 101, 114, 111]) (h1 : t ≠ [111, 110, 101]) (h2 : t ≠ [116, 119, 111]) (h3 : t ≠ [102, 101, 119]) (h4 : t ≠ [109, 97, 110, 121]) (h5 : t ≠ [111, 116, 104, 101, 114]) : Calls Tryz.prog 151 #[.string (mkB t)] w (Ans (none : Option Nat) IsNum w) := by
  have q0 := ne_lit h0
  have q1 := ne_lit h1
  have q2 := ne_lit h2
  have q3 := ne_lit h3
  have q4 := ne_lit h4
  have q5 := ne_lit h5
  clear h0 h1 h2 h3 h4 h5
  generalize mkB t = s at *
  go_enter Tryz.func151, Tryz.ntmps151
  go_wp2
  exact ⟨rfl, Ans.panic rfl (Below.refl _ _)⟩

theorem readCategory_any (t : Tok) (w : World) : Calls Tryz.prog 151 #[.string (mkB t)] w (Ans (catT t) IsNum w) := by
  unfold catT
  by_cases h0 : t = [122, 101, 114, 111]
  · rw [if_pos h0]; subst h0; exact readCat_0 w
  · rw [if_neg h0]
    by_cases h1 : t = [111, 110, 101]
    · rw [if_pos h1]; subst h1; exact readCat_1 w
    · rw [if_neg h1]
      by_cases h2 : t = [116, 119, 111]
      · rw [if_pos h2]; subst h2; exact readCat_2 w
      · rw [if_neg h2]
        by_cases h3 : t = [102, 101, 119]
        · rw [if_pos h3]; subst h3; exact readCat_3 w
        · rw [if_neg h3]
          by_cases h4 : t = [109, 97, 110, 121]
          · rw [if_pos h4]; subst h4; exact readCat_4 w
          · rw [if_neg h4]
            by_cases h5 : t = [111, 116, 104, 101, 114]
            · rw [if_pos h5]; subst h5; exact readCat_5 w
            · rw [if_neg h5]
              exact readCat_no t w h0 h1 h2 h3 h4 h5

end Go.Proofs.YtijccekejfcheaaGreatDoor

namespace Go.Proofs.YtijccekejfcheaaGreatDoor
open Go.RowKit

attribute [local go_sem] Oper.semAt_some

def TokV (W : World) (g off cap : Nat) (ts : List Tok) (v : Value) : Prop :=
  v = .slice (some ⟨g, off, none⟩) ts.length cap ∧ ts.length ≤ cap ∧ cap ≤ 9223372036854775807 ∧ g < W.heap.size ∧ ∀ i t, ts[i]? = some t → W.cell? ⟨g, off + i, none⟩ = some (.string (mkB t))

def KeepB (L : List Nat) (X Y : World) : Prop := ∀ k, k ∈ L → Y.heap[k]? = X.heap[k]?

theorem KeepB.trans {L : List Nat} {X Y Z : World} (h : KeepB L X Y) (k : KeepB L Y Z) : KeepB L X Z := fun i hi => (k i hi).trans (h i hi)

def cutA (off cap f : Nat) : Nat := if f = cap then off else off + f

theorem cutsAt_step {sep : Tok} {ts : List Tok} {f i : Nat} {t : Tok} (h : ts[i]? = some t) : cutsAt sep f i (ts.drop i) = if t = sep then (f, i) :: cutsAt sep (i + 1) (i + 1) (ts.drop (i + 1)) else cutsAt sep f (i + 1) (ts.drop (i + 1)) := by
  have hi : i < ts.length := by
    rcases Nat.lt_or_ge i ts.length with q | q
    · exact q
    · rw [List.getElem?_eq_none q] at h; cases h
  have e : ts.drop i = t :: ts.drop (i + 1) := by
    rw [List.getElem?_eq_getElem hi, Option.some.injEq] at h
    rw [← h, List.drop_eq_getElem_cons hi]
  rw [e, cutsAt]

set_option maxRecDepth 100000 in
set_option maxHeartbeats 1000000 in
theorem between1_pan (B1 B2 g off cap : Nat) (sep : ByteArray) (ts : List Tok) (v : Value) (w : World) (h1 : B1 < w.heap.size) (h2 : B2 < w.heap.size) (hc1 : w.cell? ⟨B1, 0, none⟩ = some v) (hc2 : w.cell? ⟨B2, 0, none⟩ = some (.string sep)) (hv : TokV w g off cap ts v) :
    SeqPan Tryz.prog 2 150 #[.pointer (some ⟨B1, 0, none⟩), .pointer (some ⟨B2, 0, none⟩)] (fun x : Nat × Nat => #[Value.slice (some ⟨g, cutA off cap x.1, none⟩) (x.2 - x.1) (cap - x.1)]) (KeepB [g, B1, B2]) (cutsAt (bys sep) 0 0 ts) false PC w := by
  intro l J Jp W hW _ hY h0
  obtain ⟨rfl, hcap, hcm, hg, hcs⟩ := hv
  have hc1' : W.cell? ⟨B1, 0, none⟩ = some (.slice (some ⟨g, off, none⟩) ts.length cap) := (hW.cell (p := ⟨B1, 0, none⟩) h1).trans hc1
  have hc2' : W.cell? ⟨B2, 0, none⟩ = some (.string sep) := (hW.cell (p := ⟨B2, 0, none⟩) h2).trans hc2
  have hcs' : ∀ i t, ts[i]? = some t → W.cell? ⟨g, off + i, none⟩ = some (.string (mkB t)) := fun i t h => (hW.cell (p := ⟨g, off + i, none⟩) hg).trans (hcs i t h)
  have HC := hide hcs'
  have HY := hide hY
  have H0 := hide h0
  clear hcs hcs' hc1 hc2 h1 h2 hg hW hY h0
  refine callsIn_of_wp Tryz.func150 rfl trivial ?_ rfl
  simp only [Tryz.ntmps150, List.size_toArray, List.length_cons, List.length_nil, Nat.reduceAdd, Nat.reduceSub, Array.replicate_succ, Array.replicate_zero, List.push_toArray, List.append_toArray, List.nil_append, List.cons_append]
  gi_wp2
  gi_loopw [4, 9] (fun p q wr => ∃ (f i k : Nat), p = .int .i64 (f : Int) ∧ q = .int .i64 (i : Int) ∧ f ≤ i ∧ i ≤ ts.length ∧ Hid (∃ pre, cutsAt (bys sep) 0 0 ts = pre ++ cutsAt (bys sep) f i (ts.drop i) ∧ pre.length = k) ∧ Hid (KeepB [g, B1, B2] W wr) ∧ Hid (J k wr)) (fun _ q _ => ts.length - (intOf q).toNat)
  case atStart => exact ⟨0, 0, 0, rfl, rfl, Nat.le_refl _, Nat.zero_le _, ⟨[], rfl, rfl⟩, fun _ _ => rfl, H0⟩
  case round =>
    obtain ⟨f, i, k, rfl, rfl, hfi, hi, HP, HK, HJ⟩ := hrel
    have c1 : wr.cell? ⟨B1, 0, none⟩ = some (.slice (some ⟨g, off, none⟩) ts.length cap) := (World.cell?_of_block (HK.out B1 (by simp))).trans hc1'
    have c2 : wr.cell? ⟨B2, 0, none⟩ = some (.string sep) := (World.cell?_of_block (HK.out B2 (by simp))).trans hc2'
    by_cases hlt : i < ts.length
    · have hlt' : (i : Int) < (ts.length : Int) := by omega
      obtain ⟨t, ht⟩ : ∃ t, ts[i]? = some t := ⟨_, List.getElem?_eq_getElem hlt⟩
      have c3 : wr.cell? ⟨g, off + i, none⟩ = some (.string (mkB t)) := (World.cell?_of_block (HK.out g (by simp))).trans (HC.out i t ht)
      have HT := hide ht
      by_cases hs : t = bys sep
      · subst hs
        rw [show mkB (bys sep) = sep from rfl] at c3
        have hx : (cutsAt (bys sep) 0 0 ts)[k]? = some (f, i) := by
          obtain ⟨pre, he, hk⟩ := HP.out
          rw [he, cutsAt_step ht, if_pos rfl, List.getElem?_append_right (by omega), hk, Nat.sub_self]; rfl
        obtain ⟨fn, tmps, assign, body, hy, hR⟩ := HY.out k _ wr hx HJ.out
        have HRR := hide hR
        clear hR ht hx
        dsimp only at hy
        rw [show cutA off cap f = off + f from if_neg (by omega)] at hy
        have q1 : (f : Int) ≤ (i : Int) := by omega
        have q2 : (i : Int) ≤ (cap : Int) := by omega
        gi_wp2_with fail
        refine HRR.out.mono ?_
        rintro e w2 (⟨rfl, hJ2, hk2⟩ | ⟨rfl, hJp⟩)
        · have HJ2 := hide hJ2
          have HK2 := hide (HK.out.trans hk2)
          have HPP := HP
          clear hJ2 HRR hy hk2 c1 c2 c3
          gi_wp2
          refine ⟨⟨i + 1, i + 1, k + 1, by go_num, by go_num, by omega, by omega, ?_, HK2, HJ2⟩, by simp [intOf]; omega⟩
          obtain ⟨pre, he, hk⟩ := HPP.out
          exact ⟨pre ++ [(f, i)], by rw [he, cutsAt_step HT.out, if_pos rfl]; simp, by simp [hk]⟩
        · gi_wp2
          exact ⟨rfl, .inr ⟨rfl, .inl hJp⟩⟩
      · have hq := ne_text (f := mkB t) (g := sep) hs
        clear ht
        gi_wp2
        refine ⟨⟨f, i + 1, k, rfl, by go_num, by omega, by omega, ?_, HK, HJ⟩, by simp [intOf]; omega⟩
        obtain ⟨pre, he, hk⟩ := HP.out
        exact ⟨pre, by rw [he, cutsAt_step HT.out, if_neg hs], hk⟩
    · obtain rfl : i = ts.length := by omega
      have hlt' : ¬ (ts.length : Int) < (ts.length : Int) := by omega
      have hx : (cutsAt (bys sep) 0 0 ts)[k]? = some (f, ts.length) := by
        obtain ⟨pre, he, hk⟩ := HP.out
        rw [he, List.drop_length, cutsAt, List.getElem?_append_right (by omega), hk, Nat.sub_self]; rfl
      have hend : (cutsAt (bys sep) 0 0 ts).length = k + 1 := by
        obtain ⟨pre, he, hk⟩ := HP.out
        rw [he, List.drop_length, cutsAt]; simp [hk]
      obtain ⟨fn, tmps, assign, body, hy, hR⟩ := HY.out k _ wr hx HJ.out
      have HRR := hide hR
      have HE := hide hend
      clear hR hx hend
      dsimp only at hy
      have q1 : (f : Int) ≤ (ts.length : Int) := by omega
      by_cases hf : f = cap
      · rw [show cutA off cap f = off from if_pos hf] at hy
        subst hf
        have hz : ts.length = f := by omega
        rw [hz, Nat.sub_self] at hy
        gi_wp2_with fail
        refine HRR.out.mono ?_
        rintro e w2 (⟨rfl, hJ2, hk2⟩ | ⟨rfl, hJp⟩)
        · rw [← HE.out] at hJ2
          have HJ2 := hide hJ2
          clear hJ2
          gi_wp2
          go_end0
          exact .inl ⟨trivial, ⟨_, rfl⟩, HJ2.out⟩
        · gi_wp2
          exact ⟨rfl, .inr ⟨rfl, .inl hJp⟩⟩
      · rw [show cutA off cap f = off + f from if_neg hf] at hy
        have q3 : (f : Int) < (cap : Int) := by omega
        gi_wp2_with fail
        refine HRR.out.mono ?_
        rintro e w2 (⟨rfl, hJ2, hk2⟩ | ⟨rfl, hJp⟩)
        · rw [← HE.out] at hJ2
          have HJ2 := hide hJ2
          clear hJ2
          gi_wp2
          go_end0
          exact .inl ⟨trivial, ⟨_, rfl⟩, HJ2.out⟩
        · gi_wp2
          exact ⟨rfl, .inr ⟨rfl, .inl hJp⟩⟩

end Go.Proofs.YtijccekejfcheaaGreatDoor

namespace Go.Proofs.YtijccekejfcheaaGreatDoor
open Go.RowKit

section
variable {w W : World} {T : TypeId} {H : Nat} {a b x1 y1 x2 y2 : Value} {o1 o2 : Option Addr} {r1 r2 : List Nat} {k : IntKind} {l1 h1 l2 h2 : Nat}
end

end Go.Proofs.YtijccekejfcheaaGreatDoor
