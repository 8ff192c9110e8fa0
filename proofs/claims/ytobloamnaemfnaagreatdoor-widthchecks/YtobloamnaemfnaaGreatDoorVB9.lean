/-
  What round's check, isStep, powerOfTen, digitsOf, counted and isOdd do; sums of numbers.
  What round's toMultiple does.
  What round's toMultiple answers of any number that may be.
-/
import Derived.Test.YtobloamnaemfnaaGreatDoorVB2
import Derived.Test.YtobloamnaemfnaaGreatDoorVB5
import Derived.Test.YtobloamnaemfnaaGreatDoorVB8
import Derived.Test.YtobloamnaemfnaaGreatDoorVAdd
import Derived.Deep.RegionHeld3
namespace Go.Proofs.YtobloamnaemfnaaGreatDoor
open Go.RowKit

theorem nt_add (a b : Value) (x y : Nat) (w : World) (ha : Nt w a x) (hb : Nt w b y) (hx : Sm x) (hy : Sm y) : Calls Tryz.prog 187 #[a, b] w (NtPost w (x + y)) := by
  obtain ⟨o, c, xs, rfl, h1, h2, h3, h4⟩ := ha
  obtain ⟨o', c', ys, rfl, h1', h2', h3', h4'⟩ := hb
  have l1 := is_len h4 hx
  have l2 := is_len h4' hy
  refine (add_any o o' _ c _ c' xs ys w h1 (by omega) h1' (by omega) rfl rfl h3 h3' h4.1 h4'.1).mono ?_
  rintro e w' ⟨v, r, rfl, g1, g2, g3⟩
  rw [h4.2.2, h4'.2.2] at g2
  exact ⟨v, rfl, Nt.of g1 g2 (by omega), g3, Far.of g1⟩

set_option maxHeartbeats 1000000 in
theorem check_no (ca : Int) (na : Bool) (ta : ByteArray) (ea m : Int) (w : World) (h : ¬ MayD ca na (bys ta) ea)  : Calls Tryz.prog 169 #[dcV ca na ta ea, .int .i64 m] w fun e w' => e = .returned (.int .i64 52) ∧ Below w.heap.size w w' := by
  have MY := hide (fun W => dmay_no ca na ta ea W h)
  clear h
  have Ba0 := hide (Blk.newAt w (w.heap.size) (rfl) #[.int .i64 ca, .bool na, .string ta, .int .i64 ea] 23)
  have HB0 : Hid (Below w.heap.size w (w.alloc (.cells #[.int .i64 ca, .bool na, .string ta, .int .i64 ea] 23))) := ((Below.refl _ _).alloc (Nat.le_refl _) _)
  go_enter Tryz.func169, Tryz.ntmps169
  go_wp2_with fail
  refine (MY.out _).mono ?_
  rintro e w1 ⟨rfl, hb⟩
  have Ba1 := hide (Ba0.out.below hb Ba0.out.lt)
  have HB1 := hide (HB0.out.trans (hb.mono HB0.out.size))
  clear hb Ba0 HB0 
  obtain ⟨ya0, ya1, ya2, ya3⟩ := Ba1.out.four
  go_wp2
  go_ret
  exact ⟨rfl, HB1.out⟩

set_option maxHeartbeats 1000000 in
theorem check_low (ca : Int) (na : Bool) (ta : ByteArray) (ea m : Int) (w : World) (h : MayD ca na (bys ta) ea) (hm : m < 0) : Calls Tryz.prog 169 #[dcV ca na ta ea, .int .i64 m] w fun e w' => e = .returned (.int .i64 60) ∧ Below w.heap.size w w' := by
  have MY := hide (fun W => dmay_yes ca na ta ea W h)
  clear h
  have Ba0 := hide (Blk.newAt w (w.heap.size) (rfl) #[.int .i64 ca, .bool na, .string ta, .int .i64 ea] 23)
  have HB0 : Hid (Below w.heap.size w (w.alloc (.cells #[.int .i64 ca, .bool na, .string ta, .int .i64 ea] 23))) := ((Below.refl _ _).alloc (Nat.le_refl _) _)
  go_enter Tryz.func169, Tryz.ntmps169
  go_wp2_with fail
  refine (MY.out _).mono ?_
  rintro e w1 ⟨rfl, hb⟩
  have Ba1 := hide (Ba0.out.below hb Ba0.out.lt)
  have HB1 := hide (HB0.out.trans (hb.mono HB0.out.size))
  clear hb Ba0 HB0 
  obtain ⟨ya0, ya1, ya2, ya3⟩ := Ba1.out.four
  go_wp2
  go_ret
  exact ⟨rfl, HB1.out⟩

set_option maxHeartbeats 1000000 in
theorem check_high (ca : Int) (na : Bool) (ta : ByteArray) (ea m : Int) (w : World) (h : MayD ca na (bys ta) ea) (hm : 8 ≤ m) : Calls Tryz.prog 169 #[dcV ca na ta ea, .int .i64 m] w fun e w' => e = .returned (.int .i64 60) ∧ Below w.heap.size w w' := by
  have MY := hide (fun W => dmay_yes ca na ta ea W h)
  clear h
  have Ba0 := hide (Blk.newAt w (w.heap.size) (rfl) #[.int .i64 ca, .bool na, .string ta, .int .i64 ea] 23)
  have HB0 : Hid (Below w.heap.size w (w.alloc (.cells #[.int .i64 ca, .bool na, .string ta, .int .i64 ea] 23))) := ((Below.refl _ _).alloc (Nat.le_refl _) _)
  go_enter Tryz.func169, Tryz.ntmps169
  go_wp2_with fail
  refine (MY.out _).mono ?_
  rintro e w1 ⟨rfl, hb⟩
  have Ba1 := hide (Ba0.out.below hb Ba0.out.lt)
  have HB1 := hide (HB0.out.trans (hb.mono HB0.out.size))
  clear hb Ba0 HB0 
  obtain ⟨ya0, ya1, ya2, ya3⟩ := Ba1.out.four
  go_wp2
  go_ret
  exact ⟨rfl, HB1.out⟩

set_option maxHeartbeats 1000000 in
theorem check_ok (ca : Int) (na : Bool) (ta : ByteArray) (ea m : Int) (w : World) (h : MayD ca na (bys ta) ea) (hm1 : 0 ≤ m) (hm2 : m < 8) : Calls Tryz.prog 169 #[dcV ca na ta ea, .int .i64 m] w fun e w' => e = .returned (.int .i64 0) ∧ Below w.heap.size w w' := by
  have MY := hide (fun W => dmay_yes ca na ta ea W h)
  clear h
  have Ba0 := hide (Blk.newAt w (w.heap.size) (rfl) #[.int .i64 ca, .bool na, .string ta, .int .i64 ea] 23)
  have HB0 : Hid (Below w.heap.size w (w.alloc (.cells #[.int .i64 ca, .bool na, .string ta, .int .i64 ea] 23))) := ((Below.refl _ _).alloc (Nat.le_refl _) _)
  go_enter Tryz.func169, Tryz.ntmps169
  go_wp2_with fail
  refine (MY.out _).mono ?_
  rintro e w1 ⟨rfl, hb⟩
  have Ba1 := hide (Ba0.out.below hb Ba0.out.lt)
  have HB1 := hide (HB0.out.trans (hb.mono HB0.out.size))
  clear hb Ba0 HB0 
  obtain ⟨ya0, ya1, ya2, ya3⟩ := Ba1.out.four
  go_wp2
  go_ret
  exact ⟨rfl, HB1.out⟩

set_option maxHeartbeats 1000000 in
theorem isStep_yes (ta : ByteArray) (ea : Int) (w : World) (h : ta.size ≠ 0) (h2 : ta.size ≤ 32) : Calls Tryz.prog 172 #[.agg #[.int .i64 0, .bool false, .string ta, .int .i64 ea]] w fun e w' => e = .returned (.bool true) ∧ Below w.heap.size w w' := by
  have h3 := toList_ne h
  have e1 : decide ((ta.size : Int) ≤ 32) = true := decide_eq_true (by omega)
  clear h h2
  have Ba0 := hide (Blk.newAt w (w.heap.size) (rfl) #[.int .i64 0, .bool false, .string ta, .int .i64 ea] 23)
  have HB0 : Hid (Below w.heap.size w (w.alloc (.cells #[.int .i64 0, .bool false, .string ta, .int .i64 ea] 23))) := ((Below.refl _ _).alloc (Nat.le_refl _) _)
  go_enter Tryz.func172, Tryz.ntmps172
  go_wp2
  go_ret
  exact ⟨rfl, HB0.out⟩

set_option maxHeartbeats 1000000 in
theorem isStep_cls (ca : Int) (na : Bool) (ta : ByteArray) (ea : Int) (w : World) (h : ¬ ca = 0) : Calls Tryz.prog 172 #[.agg #[.int .i64 ca, .bool na, .string ta, .int .i64 ea]] w fun e w' => e = .returned (.bool false) ∧ Below w.heap.size w w' := by
  have Ba0 := hide (Blk.newAt w (w.heap.size) (rfl) #[.int .i64 ca, .bool na, .string ta, .int .i64 ea] 23)
  have HB0 : Hid (Below w.heap.size w (w.alloc (.cells #[.int .i64 ca, .bool na, .string ta, .int .i64 ea] 23))) := ((Below.refl _ _).alloc (Nat.le_refl _) _)
  go_enter Tryz.func172, Tryz.ntmps172
  go_wp2
  go_ret
  exact ⟨rfl, HB0.out⟩

set_option maxHeartbeats 1000000 in
theorem isStep_neg (ta : ByteArray) (ea : Int) (w : World) : Calls Tryz.prog 172 #[.agg #[.int .i64 0, .bool true, .string ta, .int .i64 ea]] w fun e w' => e = .returned (.bool false) ∧ Below w.heap.size w w' := by
  have Ba0 := hide (Blk.newAt w (w.heap.size) (rfl) #[.int .i64 0, .bool true, .string ta, .int .i64 ea] 23)
  have HB0 : Hid (Below w.heap.size w (w.alloc (.cells #[.int .i64 0, .bool true, .string ta, .int .i64 ea] 23))) := ((Below.refl _ _).alloc (Nat.le_refl _) _)
  go_enter Tryz.func172, Tryz.ntmps172
  go_wp2
  go_ret
  exact ⟨rfl, HB0.out⟩

set_option maxHeartbeats 1000000 in
theorem isStep_nil (ea : Int) (w : World) : Calls Tryz.prog 172 #[.agg #[.int .i64 0, .bool false, .string ⟨#[]⟩, .int .i64 ea]] w fun e w' => e = .returned (.bool false) ∧ Below w.heap.size w w' := by
  have Ba0 := hide (Blk.newAt w (w.heap.size) (rfl) #[.int .i64 0, .bool false, .string ⟨#[]⟩, .int .i64 ea] 23)
  have HB0 : Hid (Below w.heap.size w (w.alloc (.cells #[.int .i64 0, .bool false, .string ⟨#[]⟩, .int .i64 ea] 23))) := ((Below.refl _ _).alloc (Nat.le_refl _) _)
  go_enter Tryz.func172, Tryz.ntmps172
  go_wp2
  go_ret
  exact ⟨rfl, HB0.out⟩

set_option maxHeartbeats 1000000 in
theorem isStep_long (ta : ByteArray) (ea : Int) (w : World) (h2 : 32 < ta.size) : Calls Tryz.prog 172 #[.agg #[.int .i64 0, .bool false, .string ta, .int .i64 ea]] w fun e w' => e = .returned (.bool false) ∧ Below w.heap.size w w' := by
  have h3 := toList_ne (t := ta) (by omega)
  have e1 : decide ((ta.size : Int) ≤ 32) = false := decide_eq_false (by omega)
  clear h2
  have Ba0 := hide (Blk.newAt w (w.heap.size) (rfl) #[.int .i64 0, .bool false, .string ta, .int .i64 ea] 23)
  have HB0 : Hid (Below w.heap.size w (w.alloc (.cells #[.int .i64 0, .bool false, .string ta, .int .i64 ea] 23))) := ((Below.refl _ _).alloc (Nat.le_refl _) _)
  go_enter Tryz.func172, Tryz.ntmps172
  go_wp2
  go_ret
  exact ⟨rfl, HB0.out⟩

set_option maxHeartbeats 1000000 in
theorem powerOfTen_any (x : Int) (w : World) : Calls Tryz.prog 171 #[.int .i64 x] w fun e w' => e = .returned (dcV 0 false ⟨#[49]⟩ x) ∧ Below w.heap.size w w' := by
  have Br0 := hide (Blk.newAt w (w.heap.size) (rfl) #[.int .i64 0, .bool false, .string ⟨#[]⟩, .int .i64 0] 23)
  have HB0 : Hid (Below w.heap.size w (w.alloc (.cells #[.int .i64 0, .bool false, .string ⟨#[]⟩, .int .i64 0] 23))) := ((Below.refl _ _).alloc (Nat.le_refl _) _)
  go_enter Tryz.func171, Tryz.ntmps171
  go_wp2
  refine bodyPost_ret (results_dec rfl _ _ _ _ _ _ _ rfl (Blk.new _ _ _)) rfl ?_
  exact ⟨rfl, (Below.refl _ _).alloc (Nat.le_refl _) _⟩

set_option maxHeartbeats 1000000 in
theorem digitsOf_any (ca : Int) (na : Bool) (ta : ByteArray) (ea : Int) (n : Nat) (w : World) (hs : ta.size ≤ 8192) (hok : OkT (bys ta)) (hn : decV (bys ta) = n) : Calls Tryz.prog 210 #[dcV ca na ta ea] w fun e w' => ∃ o l c, e = .returned (.slice o l c) ∧ Hid (Nt w' (.slice o l c) n) ∧ Below w.heap.size w w' := by
  have PS := hide (fun W => ztparse ta n W hs hok hn)
  clear hs hok hn
  have Ba0 := hide (Blk.newAt w (w.heap.size) (rfl) #[.int .i64 ca, .bool na, .string ta, .int .i64 ea] 23)
  have HB0 : Hid (Below w.heap.size w (w.alloc (.cells #[.int .i64 ca, .bool na, .string ta, .int .i64 ea] 23))) := ((Below.refl _ _).alloc (Nat.le_refl _) _)
  go_enter Tryz.func210, Tryz.ntmps210
  go_wp2_with fail
  refine (PS.out _).mono ?_
  rintro e w1 ⟨o, l, c, rfl, hn, hb⟩
  have Ba1 := hide (Ba0.out.below hb Ba0.out.lt)
  have HB1 := hide (HB0.out.trans (hb.mono HB0.out.size))
  clear hb Ba0 HB0 
  obtain ⟨ya0, ya1, ya2, ya3⟩ := Ba1.out.four
  go_wp2
  go_ret
  exact ⟨o, l, c, rfl, hn, HB1.out⟩

theorem nt_pow10s (n : Int) (k : Nat) (w : World) (hn : n = (k : Int)) (hk : k ≤ 8192) : Calls Tryz.prog 231 #[.int .i64 n] w fun e w' => ∃ o l c, e = .returned (.tuple #[.slice o l c, .int .i64 0]) ∧ Hid (Nt w' (.slice o l c) (10 ^ k)) ∧ Below w.heap.size w w' := by
  refine (nt_pow10 n k w hn hk).mono ?_
  rintro e w' ⟨v, rfl, ⟨o, c, xs, rfl, h⟩, hb, _⟩
  exact ⟨o, xs.length, c, rfl, ⟨o, c, xs, rfl, h⟩, hb⟩

theorem nt_muls (a b : Value) (x y : Nat) (w : World) (ha : Nt w a x) (hb : Nt w b y) (hx : Sm x) (hy : Sm y) : Calls Tryz.prog 113 #[a, b] w fun e w' => ∃ o l c, e = .returned (.slice o l c) ∧ Hid (Nt w' (.slice o l c) (x * y)) ∧ Below w.heap.size w w' := by
  refine (nt_mul a b x y w ha hb hx hy).mono ?_
  rintro e w' ⟨v, rfl, ⟨o, c, xs, rfl, h⟩, hb, _⟩
  exact ⟨o, xs.length, c, rfl, ⟨o, c, xs, rfl, h⟩, hb⟩

theorem nt_adds (a b : Value) (x y : Nat) (w : World) (ha : Nt w a x) (hb : Nt w b y) (hx : Sm x) (hy : Sm y) : Calls Tryz.prog 187 #[a, b] w fun e w' => ∃ o l c, e = .returned (.slice o l c) ∧ Hid (Nt w' (.slice o l c) (x + y)) ∧ Below w.heap.size w w' := by
  refine (nt_add a b x y w ha hb hx hy).mono ?_
  rintro e w' ⟨v, rfl, ⟨o, c, xs, rfl, h⟩, hb, _⟩
  exact ⟨o, xs.length, c, rfl, ⟨o, c, xs, rfl, h⟩, hb⟩

set_option maxHeartbeats 1000000 in
theorem rcounted_any (ca : Int) (na : Bool) (ta : ByteArray) (ea x : Int) (n k : Nat) (w : World) (hs : ta.size ≤ 8192) (hok : OkT (bys ta)) (hn : decV (bys ta) = n) (hk : ea - x = (k : Int)) (hk2 : k ≤ 8000) (s1 : Sm n) (s2 : Sm (10 ^ k)) : Calls Tryz.prog 206 #[dcV ca na ta ea, .int .i64 x] w fun e w' => ∃ o l c, e = .returned (.slice o l c) ∧ Hid (Nt w' (.slice o l c) (n * 10 ^ k)) ∧ Below w.heap.size w w' := by
  have hw : IntKind.i64.wrap (ea - x) = ea - x := by rw [IntKind.wrap_i64]; omega
  have PW := hide (fun W => nt_pow10s (ea - x) k W hk (by omega))
  have DG := hide (fun W => digitsOf_any ca na ta ea n W hs hok hn)
  have S1 := hide s1
  have S2 := hide s2
  clear hs hok hn hk hk2 s1 s2
  have Ba0 := hide (Blk.newAt w (w.heap.size) (rfl) #[.int .i64 ca, .bool na, .string ta, .int .i64 ea] 23)
  have HB0 : Hid (Below w.heap.size w (w.alloc (.cells #[.int .i64 ca, .bool na, .string ta, .int .i64 ea] 23))) := ((Below.refl _ _).alloc (Nat.le_refl _) _)
  go_enter Tryz.func206, Tryz.ntmps206
  go_wp2_with fail
  refine (PW.out _).mono ?_
  rintro e w1 ⟨o1, l1, c1, rfl, Z1, hb⟩
  have Ba1 := hide (Ba0.out.below hb Ba0.out.lt)
  have HB1 := hide (HB0.out.trans (hb.mono HB0.out.size))
  clear hb Ba0 HB0 
  obtain ⟨ya0, ya1, ya2, ya3⟩ := Ba1.out.four
  have CM : Hid (∀ X (o2 : Option Addr) (l2 c2 : Nat), Hid (Below w1.heap.size w1 X) → Nt X (.slice o2 l2 c2) n → Calls Tryz.prog 113 #[.slice o2 l2 c2, .slice o1 l1 c1] X fun e w' => ∃ o l c, e = .returned (.slice o l c) ∧ Hid (Nt w' (.slice o l c) (n * 10 ^ k)) ∧ Below X.heap.size X w') := by
    intro X o2 l2 c2 bX Z2
    exact nt_muls _ _ _ _ X Z2 (Z1.out.below bX.out) S1.out S2.out
  clear S1 S2
  go_wp2_with fail
  refine (DG.out _).mono ?_
  rintro e w2 ⟨o2, l2, c2, rfl, Z2, hb2⟩
  have HB2 := hide (HB1.out.trans (hb2.mono HB1.out.size))
  have MM := hide (CM.out w2 o2 l2 c2 hb2 Z2.out)
  clear hb2 Z1 Z2 CM DG
  go_wp2_with fail
  refine (MM.out).mono ?_
  rintro e w3 ⟨o3, l3, c3, rfl, Z3, hb3⟩
  have HB3 := hide (HB2.out.trans (hb3.mono HB2.out.size))
  clear hb3 MM
  go_wp2
  go_ret
  exact ⟨o3, l3, c3, rfl, Z3, HB3.out⟩

set_option maxHeartbeats 1000000 in
theorem isOdd_nil (o : Option Addr) (c : Nat) (w : World) : Calls Tryz.prog 208 #[.slice o 0 c] w fun e w' => e = .returned (.bool false) ∧ w = w' := by
  go_enter Tryz.func208, Tryz.ntmps208
  go_wp2
  go_ret
  exact ⟨rfl, rfl⟩

set_option maxHeartbeats 1000000 in
theorem isOdd_true (bk of l c x : Nat) (w : World) (hc : w.cell? ⟨bk, of, none⟩ = some (.int .u64 (x : Int))) (hx : x % 2 = 1) (hl : l ≤ 1000000) : Calls Tryz.prog 208 #[.slice (some ⟨bk, of, none⟩) (l + 1) c] w fun e w' => e = .returned (.bool true) ∧ w = w' := by
  have h1 : (x : Int).tmod 2 = 1 := by
    have := hx
    rw [Int.tmod_eq_emod_of_nonneg (by omega)]
    omega
  have h2 : (0 : Int) < (l : Int) + 1 := by omega
  clear hx
  go_enter Tryz.func208, Tryz.ntmps208
  go_wp2
  go_ret
  exact ⟨rfl, rfl⟩

set_option maxHeartbeats 1000000 in
theorem isOdd_false (bk of l c x : Nat) (w : World) (hc : w.cell? ⟨bk, of, none⟩ = some (.int .u64 (x : Int))) (hx : x % 2 = 0) (hl : l ≤ 1000000) : Calls Tryz.prog 208 #[.slice (some ⟨bk, of, none⟩) (l + 1) c] w fun e w' => e = .returned (.bool false) ∧ w = w' := by
  have h1 : (x : Int).tmod 2 = 0 := by
    have := hx
    rw [Int.tmod_eq_emod_of_nonneg (by omega)]
    omega
  have h2 : (0 : Int) < (l : Int) + 1 := by omega
  clear hx
  go_enter Tryz.func208, Tryz.ntmps208
  go_wp2
  go_ret
  exact ⟨rfl, rfl⟩

theorem V_mod2 (f : Nat → Nat) : ∀ n, V B64 f (n + 1) % 2 = f 0 % 2
  | 0 => by simp [V]
  | n + 1 => by
    have ih := V_mod2 f n
    have e : f (n + 1) * B64 ^ (n + 1) % 2 = 0 := by
      rw [Nat.pow_succ, ← Nat.mul_assoc, Nat.mul_mod, show B64 % 2 = 0 from rfl, Nat.mul_zero, Nat.zero_mod]
    show (V B64 f (n + 1) + f (n + 1) * B64 ^ (n + 1)) % 2 = _
    omega

theorem isOdd_any (o : Option Addr) (l c n : Nat) (w : World) (h : Nt w (.slice o l c) n) : Calls Tryz.prog 208 #[.slice o l c] w fun e w' => e = .returned (.bool (decide (n % 2 = 1))) ∧ Below w.heap.size w w' := by
  obtain ⟨o', c', xs, he, h1, h2, h3, h4⟩ := h
  cases he
  cases xs with
  | nil =>
    have h5 : n = 0 := h4.2.2.symm
    subst h5
    refine (isOdd_nil o c w).mono ?_
    rintro e w' ⟨rfl, rfl⟩
    exact ⟨rfl, Below.refl _ _⟩
  | cons x xs =>
    rcases h3 with h3 | ⟨bk, of, rfl, _, h3⟩
    · cases h3
    have hc := h3 0 (by simp)
    have hv : n % 2 = x % 2 := by
      rw [← h4.2.2]
      exact V_mod2 _ _
    have hl : xs.length ≤ 1000000 := by simp at h1; omega
    rcases Nat.mod_two_eq_zero_or_one x with hx | hx
    · refine (isOdd_false bk of xs.length c x w (by simpa using hc) hx hl).mono ?_
      rintro e w' ⟨rfl, rfl⟩
      exact ⟨by rw [hv, hx]; rfl, Below.refl _ _⟩
    · refine (isOdd_true bk of xs.length c x w (by simpa using hc) hx hl).mono ?_
      rintro e w' ⟨rfl, rfl⟩
      exact ⟨by rw [hv, hx]; rfl, Below.refl _ _⟩

end Go.Proofs.YtobloamnaemfnaaGreatDoor

namespace Go.Proofs.YtobloamnaemfnaaGreatDoor
open Go.RowKit

set_option maxHeartbeats 1000000 in
theorem mult_nil (ca : Int) (na : Bool) (ea : Int) (nb : Bool) (tb : ByteArray) (eb m : Int) (w : World) : Calls Tryz.prog 170 #[dcV ca na ⟨#[]⟩ ea, dcV 0 nb tb eb, .int .i64 m] w fun e w' => e = .returned (.tuple #[dcV ca na ⟨#[]⟩ ea, .int .i64 0]) ∧ Below w.heap.size w w' := by
  have Ba0 := hide (((Blk.newAt w (w.heap.size) (rfl) #[.int .i64 ca, .bool na, .string ⟨#[]⟩, .int .i64 ea] 23).alloc (.cells #[.int .i64 0, .bool nb, .string tb, .int .i64 eb] 23)).alloc (.cells #[.int .i64 0, .bool false, .string ⟨#[]⟩, .int .i64 0] 23))
  have Bb0 := hide ((Blk.newAt (w.alloc (.cells #[.int .i64 ca, .bool na, .string ⟨#[]⟩, .int .i64 ea] 23)) (w.heap.size + 1) (by simp) #[.int .i64 0, .bool nb, .string tb, .int .i64 eb] 23).alloc (.cells #[.int .i64 0, .bool false, .string ⟨#[]⟩, .int .i64 0] 23))
  have Br0 := hide (Blk.newAt ((w.alloc (.cells #[.int .i64 ca, .bool na, .string ⟨#[]⟩, .int .i64 ea] 23)).alloc (.cells #[.int .i64 0, .bool nb, .string tb, .int .i64 eb] 23)) (w.heap.size + 1 + 1) (by simp) #[.int .i64 0, .bool false, .string ⟨#[]⟩, .int .i64 0] 23)
  have HB0 : Hid (Below w.heap.size w (((w.alloc (.cells #[.int .i64 ca, .bool na, .string ⟨#[]⟩, .int .i64 ea] 23)).alloc (.cells #[.int .i64 0, .bool nb, .string tb, .int .i64 eb] 23)).alloc (.cells #[.int .i64 0, .bool false, .string ⟨#[]⟩, .int .i64 0] 23))) := ((((Below.refl _ _).alloc (Nat.le_refl _) _).alloc (by simp <;> omega) _).alloc (by simp <;> omega) _)
  go_enter Tryz.func170, Tryz.ntmps170
  go_wp2
  refine bodyPost_ret (results_dec2 rfl _ _ _ _ _ _ _ rfl (Blk.newAt _ _ (by simp) _ _)) rfl ?_
  exact ⟨rfl, (((Below.refl _ _).alloc (Nat.le_refl _) _).alloc (by simp) _).alloc (by simp; omega) _⟩

theorem nt_divs (a b : Value) (x y : Nat) (w : World) (ha : Nt w a x) (hb : Nt w b y) (hx : Sm x) (hy : Sm y) (h0 : y ≠ 0) : Calls Tryz.prog 194 #[a, b] w fun e w' => ∃ o l c o' l' c', e = .returned (.tuple #[.slice o l c, .slice o' l' c', .int .i64 0]) ∧ Hid (Nt w' (.slice o l c) (x / y)) ∧ Hid (Nt w' (.slice o' l' c') (x % y)) ∧ Below w.heap.size w w' := by
  refine (nt_div a b x y w ha hb hx hy h0).mono ?_
  rintro e w' ⟨v1, v2, rfl, ⟨o, c, xs, rfl, h1⟩, ⟨o', c', ys, rfl, h2⟩, hb⟩
  exact ⟨o, xs.length, c, o', ys.length, c', rfl, ⟨o, c, xs, rfl, h1⟩, ⟨o', c', ys, rfl, h2⟩, hb⟩

theorem nt_len {w : World} {o : Option Addr} {l c n : Nat} (h : Nt w (.slice o l c) n) : (l = 0 ↔ n = 0) := by
  obtain ⟨o', c', xs, he, _, _, _, h4⟩ := h
  cases he
  constructor
  · intro h
    have := List.length_eq_zero_iff.1 h
    subst this
    exact h4.2.2.symm
  · rintro rfl
    rw [num_zero (by decide) h4.2.1 h4.2.2]
    rfl

theorem sm_one : Sm 1 := Sm.of (k := 1) (by decide) (by omega)
theorem sm_succ {a b : Nat} (h : a ≤ b) (hb : Sm (b + 1)) : Sm (a + 1) := Nat.lt_of_le_of_lt (Nat.succ_le_succ h) hb

theorem nt_ofs (w : World) : Calls Tryz.prog 190 #[.int .u64 1] w fun e w' => ∃ o l c, e = .returned (.slice o l c) ∧ Hid (Nt w' (.slice o l c) 1) ∧ Below w.heap.size w w' := by
  refine (nt_of 1 w (by decide)).mono ?_
  rintro e w' ⟨v, rfl, ⟨o, c, xs, rfl, h⟩, hb, _⟩
  exact ⟨o, xs.length, c, rfl, ⟨o, c, xs, rfl, h⟩, hb⟩

set_option maxHeartbeats 2000000 in
theorem mult_exact (ca : Int) (na : Bool) (ta : ByteArray) (ea : Int) (nb : Bool) (tb : ByteArray) (eb m : Int) (A U : Nat) (w : World) (h0 : ta.size ≠ 0) (ca' : ∀ W, Calls Tryz.prog 206 #[dcV ca na ta ea, .int .i64 (min ea eb)] W fun e w' => ∃ o l c, e = .returned (.slice o l c) ∧ Hid (Nt w' (.slice o l c) A) ∧ Below W.heap.size W w') (cb' : ∀ W, Calls Tryz.prog 206 #[dcV 0 nb tb eb, .int .i64 (min ea eb)] W fun e w' => ∃ o l c, e = .returned (.slice o l c) ∧ Hid (Nt w' (.slice o l c) U) ∧ Below W.heap.size W w') (sA : Sm A) (sU : Sm U) (hU : U ≠ 0) (hm : A % U = 0) : Calls Tryz.prog 170 #[dcV ca na ta ea, dcV 0 nb tb eb, .int .i64 m] w fun e w' => e = .returned (.tuple #[dcV ca na ta ea, .int .i64 0]) ∧ Below w.heap.size w w' := by
  have CCA := hide ca'
  have CCB := hide cb'
  have h2 := toList_ne h0
  obtain ⟨x, hx⟩ : ∃ x, x = min ea eb := ⟨_, rfl⟩
  have HX := hide hx
  rw [← hx] at CCA CCB
  have SA := hide sA
  have SU := hide sU
  have HU := hide hU
  have HM := hide hm
  clear hm ca' cb' hx sA sU hU h0
  have Ba0 := hide (((Blk.newAt w (w.heap.size) (rfl) #[.int .i64 ca, .bool na, .string ta, .int .i64 ea] 23).alloc (.cells #[.int .i64 0, .bool nb, .string tb, .int .i64 eb] 23)).alloc (.cells #[.int .i64 0, .bool false, .string ⟨#[]⟩, .int .i64 0] 23))
  have Bb0 := hide ((Blk.newAt (w.alloc (.cells #[.int .i64 ca, .bool na, .string ta, .int .i64 ea] 23)) (w.heap.size + 1) (by simp) #[.int .i64 0, .bool nb, .string tb, .int .i64 eb] 23).alloc (.cells #[.int .i64 0, .bool false, .string ⟨#[]⟩, .int .i64 0] 23))
  have Br0 := hide (Blk.newAt ((w.alloc (.cells #[.int .i64 ca, .bool na, .string ta, .int .i64 ea] 23)).alloc (.cells #[.int .i64 0, .bool nb, .string tb, .int .i64 eb] 23)) (w.heap.size + 1 + 1) (by simp) #[.int .i64 0, .bool false, .string ⟨#[]⟩, .int .i64 0] 23)
  have HB0 : Hid (Below w.heap.size w (((w.alloc (.cells #[.int .i64 ca, .bool na, .string ta, .int .i64 ea] 23)).alloc (.cells #[.int .i64 0, .bool nb, .string tb, .int .i64 eb] 23)).alloc (.cells #[.int .i64 0, .bool false, .string ⟨#[]⟩, .int .i64 0] 23))) := ((((Below.refl _ _).alloc (Nat.le_refl _) _).alloc (by simp <;> omega) _).alloc (by simp <;> omega) _)
  go_enter Tryz.func170, Tryz.ntmps170
  go_wp2_with fail
  simp only [← HX.out]
  refine (CCB.out _).mono ?_
  rintro e w1 ⟨o1, l1, c1, rfl, Z1, hb⟩
  have Ba1 := hide (Ba0.out.below hb Ba0.out.lt)
  have Bb1 := hide (Bb0.out.below hb Bb0.out.lt)
  have Br1 := hide (Br0.out.below hb Br0.out.lt)
  have HB1 := hide (HB0.out.trans (hb.mono HB0.out.size))
  clear hb Ba0 Bb0 Br0 HB0 
  obtain ⟨ya0, ya1, ya2, ya3⟩ := Ba1.out.four
  obtain ⟨yb0, yb1, yb2, yb3⟩ := Bb1.out.four
  obtain ⟨yr0, yr1, yr2, yr3⟩ := Br1.out.four
  go_wp2_with fail
  refine (CCA.out _).mono ?_
  rintro e w2 ⟨o2, l2, c2, rfl, Z2, hb⟩
  have Y1 := hide (Z1.out.below hb)
  clear Z1
  have Ba2 := hide (Ba1.out.below hb Ba1.out.lt)
  have Bb2 := hide (Bb1.out.below hb Bb1.out.lt)
  have Br2 := hide (Br1.out.below hb Br1.out.lt)
  have HB2 := hide (HB1.out.trans (hb.mono HB1.out.size))
  clear hb Ba1 Bb1 Br1 HB1 ya0 ya1 ya2 ya3 yb0 yb1 yb2 yb3 yr0 yr1 yr2 yr3
  obtain ⟨ya0, ya1, ya2, ya3⟩ := Ba2.out.four
  obtain ⟨yb0, yb1, yb2, yb3⟩ := Bb2.out.four
  obtain ⟨yr0, yr1, yr2, yr3⟩ := Br2.out.four
  have DM := hide (nt_divs _ _ _ _ w2 Z2.out Y1.out SA.out SU.out HU.out)
  go_wp2_with fail
  refine (DM.out).mono ?_
  rintro e w3 ⟨o3, l3, c3, o4, l4, c4, rfl, ZQ, ZR, hb⟩
  have Z1 := hide (Y1.out.below hb)
  clear Y1 Z2 DM
  have Ba3 := hide (Ba2.out.below hb Ba2.out.lt)
  have Bb3 := hide (Bb2.out.below hb Bb2.out.lt)
  have Br3 := hide (Br2.out.below hb Br2.out.lt)
  have HB3 := hide (HB2.out.trans (hb.mono HB2.out.size))
  clear hb Ba2 Bb2 Br2 HB2 ya0 ya1 ya2 ya3 yb0 yb1 yb2 yb3 yr0 yr1 yr2 yr3
  obtain ⟨ya0, ya1, ya2, ya3⟩ := Ba3.out.four
  obtain ⟨yb0, yb1, yb2, yb3⟩ := Bb3.out.four
  obtain ⟨yr0, yr1, yr2, yr3⟩ := Br3.out.four
  obtain rfl := (nt_len ZR.out).2 HM.out
  have fr0 := Br3.out.free 0
  have fr1 := Br3.out.free 1
  have fr2 := Br3.out.free 2
  have fr3 := Br3.out.free 3
  go_wp2
  refine bodyPost_ret (results_dec2 rfl _ _ _ _ _ _ _ rfl (Br3.out.put4 _ _ _ _)) rfl ?_
  exact ⟨rfl, below_put4 (HB3.out) (by omega) _ _ _ _⟩

set_option maxHeartbeats 4000000 in
theorem mult_up (ca : Int) (na : Bool) (ta : ByteArray) (ea : Int) (nb : Bool) (tb : ByteArray) (eb m : Int) (A U : Nat) (w : World) (h0 : ta.size ≠ 0) (ca' : ∀ W, Calls Tryz.prog 206 #[dcV ca na ta ea, .int .i64 (min ea eb)] W fun e w' => ∃ o l c, e = .returned (.slice o l c) ∧ Hid (Nt w' (.slice o l c) A) ∧ Below W.heap.size W w') (cb' : ∀ W, Calls Tryz.prog 206 #[dcV 0 nb tb eb, .int .i64 (min ea eb)] W fun e w' => ∃ o l c, e = .returned (.slice o l c) ∧ Hid (Nt w' (.slice o l c) U) ∧ Below W.heap.size W w') (sA : Sm A) (sU : Sm U) (hU : U ≠ 0) (hm : A % U ≠ 0) (sR : Sm (A % U + A % U)) (f : Nat) (hf : ∀ args w, (callFunc f args).run Tryz.prog w = .ok (.enter f args) w) (lv : ∀ W, Calls Tryz.prog 207 #[.int .i64 m] W fun e w' => e = .returned (.func (.func f) #[.int .i64 m] #[]) ∧ Below W.heap.size W w') (md : ∀ W, Calls Tryz.prog f #[.int .i64 m, .agg #[.bool na, .bool (decide (A / U % 2 = 1)), .int .i64 (cmpN (A % U + A % U) U)]] W fun e w' => e = .returned (.bool true) ∧ Below W.heap.size W w')
    (N : Nat) (sN : Sm N) (du : ∀ W, Calls Tryz.prog 210 #[dcV 0 nb tb eb] W fun e w' => ∃ o l c, e = .returned (.slice o l c) ∧ Hid (Nt w' (.slice o l c) N) ∧ Below W.heap.size W w') (htab : Tab w) (hsz : (Lib.decDigits ((A / U + 1) * N)).length ≤ 100000) (hxb : -10000 ≤ eb ∧ eb ≤ 10000) (sA1 : Sm (A + 1)) : Calls Tryz.prog 170 #[dcV ca na ta ea, dcV 0 nb tb eb, .int .i64 m] w fun e w' => e = .returned (decErr (tellF na ((A / U + 1) * N) eb)) ∧ Below w.heap.size w w' := by
  have CCA := hide ca'
  have CCB := hide cb'
  have h2 := toList_ne h0
  obtain ⟨x, hx⟩ : ∃ x, x = min ea eb := ⟨_, rfl⟩
  have HX := hide hx
  rw [← hx] at CCA CCB
  have SA := hide sA
  have SU := hide sU
  have HU := hide hU
  have HM := hide hm
  have LV := hide lv
  have SR := hide sR
  have SR1 : Hid (Sm (A % U)) := Nat.lt_trans (Nat.mod_lt _ (Nat.pos_of_ne_zero hU)) sU
  obtain ⟨od, hod⟩ : ∃ od, od = decide (A / U % 2 = 1) := ⟨_, rfl⟩
  obtain ⟨hv, hhv⟩ : ∃ hv, hv = cmpN (A % U + A % U) U := ⟨_, rfl⟩
  rw [← hod, ← hhv] at md
  have MD := hide md
  have HOD := hide hod
  have HHV := hide hhv.symm
  have SQ : Hid (Sm (A / U)) := Nat.lt_of_le_of_lt (Nat.div_le_self _ _) sA
  have SC : Hid (Sm (A / U + 1)) := sm_succ (Nat.div_le_self _ _) sA1
  have SM1 : Hid (Sm 1) := sm_one
  have SN := hide sN
  have DU := hide du
  have HT := hide htab
  obtain ⟨T, hT⟩ : ∃ T : ByteArray, T = ⟨(Lib.decDigits ((A / U + 1) * N)).toArray⟩ := ⟨_, rfl⟩
  have HTT := hide hT
  have hTb : bys T = Lib.decDigits ((A / U + 1) * N) := by rw [hT, bys_mk]
  have hTs : T.size = (Lib.decDigits ((A / U + 1) * N)).length := by rw [hT, size_mk0]
  have FG := fun (X : World) => fin_any na T eb X (by rw [hTs]; omega) (by omega) (by omega) (by rw [hTb]; exact (dd_okT _).2.2)
  rw [hTb, dd_val] at FG
  rcases hTF : tellF na ((A / U + 1) * N) eb with ⟨⟨cc, nn, ll, ee⟩, er⟩
  rw [hTF] at FG
  unfold decErr decVal at FG ⊢
  simp only at FG ⊢
  obtain ⟨D, hD⟩ : ∃ D : ByteArray, D = ⟨ll.toArray⟩ := ⟨_, rfl⟩
  rw [← hD] at FG ⊢
  have FI := hide FG
  clear FG hT hTb hTs hTF hD hsz hxb sN du htab sA1
  clear hod hhv hm lv md sR ca' cb' hx sA sU hU h0
  have Ba0 := hide (((Blk.newAt w (w.heap.size) (rfl) #[.int .i64 ca, .bool na, .string ta, .int .i64 ea] 23).alloc (.cells #[.int .i64 0, .bool nb, .string tb, .int .i64 eb] 23)).alloc (.cells #[.int .i64 0, .bool false, .string ⟨#[]⟩, .int .i64 0] 23))
  have Bb0 := hide ((Blk.newAt (w.alloc (.cells #[.int .i64 ca, .bool na, .string ta, .int .i64 ea] 23)) (w.heap.size + 1) (by simp) #[.int .i64 0, .bool nb, .string tb, .int .i64 eb] 23).alloc (.cells #[.int .i64 0, .bool false, .string ⟨#[]⟩, .int .i64 0] 23))
  have Br0 := hide (Blk.newAt ((w.alloc (.cells #[.int .i64 ca, .bool na, .string ta, .int .i64 ea] 23)).alloc (.cells #[.int .i64 0, .bool nb, .string tb, .int .i64 eb] 23)) (w.heap.size + 1 + 1) (by simp) #[.int .i64 0, .bool false, .string ⟨#[]⟩, .int .i64 0] 23)
  have HB0 : Hid (Below w.heap.size w (((w.alloc (.cells #[.int .i64 ca, .bool na, .string ta, .int .i64 ea] 23)).alloc (.cells #[.int .i64 0, .bool nb, .string tb, .int .i64 eb] 23)).alloc (.cells #[.int .i64 0, .bool false, .string ⟨#[]⟩, .int .i64 0] 23))) := ((((Below.refl _ _).alloc (Nat.le_refl _) _).alloc (by simp <;> omega) _).alloc (by simp <;> omega) _)
  go_enter Tryz.func170, Tryz.ntmps170
  go_wp2_with fail
  simp only [← HX.out]
  refine (CCB.out _).mono ?_
  rintro e w1 ⟨o1, l1, c1, rfl, Z1, hb⟩
  have Ba1 := hide (Ba0.out.below hb Ba0.out.lt)
  have Bb1 := hide (Bb0.out.below hb Bb0.out.lt)
  have Br1 := hide (Br0.out.below hb Br0.out.lt)
  have HB1 := hide (HB0.out.trans (hb.mono HB0.out.size))
  clear hb Ba0 Bb0 Br0 HB0 
  obtain ⟨ya0, ya1, ya2, ya3⟩ := Ba1.out.four
  obtain ⟨yb0, yb1, yb2, yb3⟩ := Bb1.out.four
  obtain ⟨yr0, yr1, yr2, yr3⟩ := Br1.out.four
  go_wp2_with fail
  refine (CCA.out _).mono ?_
  rintro e w2 ⟨o2, l2, c2, rfl, Z2, hb⟩
  have Y1 := hide (Z1.out.below hb)
  clear Z1
  have Ba2 := hide (Ba1.out.below hb Ba1.out.lt)
  have Bb2 := hide (Bb1.out.below hb Bb1.out.lt)
  have Br2 := hide (Br1.out.below hb Br1.out.lt)
  have HB2 := hide (HB1.out.trans (hb.mono HB1.out.size))
  clear hb Ba1 Bb1 Br1 HB1 ya0 ya1 ya2 ya3 yb0 yb1 yb2 yb3 yr0 yr1 yr2 yr3
  obtain ⟨ya0, ya1, ya2, ya3⟩ := Ba2.out.four
  obtain ⟨yb0, yb1, yb2, yb3⟩ := Bb2.out.four
  obtain ⟨yr0, yr1, yr2, yr3⟩ := Br2.out.four
  have DM := hide (nt_divs _ _ _ _ w2 Z2.out Y1.out SA.out SU.out HU.out)
  go_wp2_with fail
  refine (DM.out).mono ?_
  rintro e w3 ⟨o3, l3, c3, o4, l4, c4, rfl, ZQ, ZR, hb⟩
  have Z1 := hide (Y1.out.below hb)
  clear Y1 Z2 DM
  have Ba3 := hide (Ba2.out.below hb Ba2.out.lt)
  have Bb3 := hide (Bb2.out.below hb Bb2.out.lt)
  have Br3 := hide (Br2.out.below hb Br2.out.lt)
  have HB3 := hide (HB2.out.trans (hb.mono HB2.out.size))
  clear hb Ba2 Bb2 Br2 HB2 ya0 ya1 ya2 ya3 yb0 yb1 yb2 yb3 yr0 yr1 yr2 yr3
  obtain ⟨ya0, ya1, ya2, ya3⟩ := Ba3.out.four
  obtain ⟨yb0, yb1, yb2, yb3⟩ := Bb3.out.four
  obtain ⟨yr0, yr1, yr2, yr3⟩ := Br3.out.four
  have hl4 : l4 ≠ 0 := fun h => HM.out ((nt_len ZR.out).1 h)
  have hl5 : ((l4 : Int) == 0) = false := by
    have : (l4 : Int) ≠ 0 := by omega
    simpa using this
  clear hl4
  go_wp2_with fail
  refine (LV.out _).mono ?_
  rintro e w4 ⟨rfl, hb⟩
  have Y1 := hide (Z1.out.below hb)
  have YQ := hide (ZQ.out.below hb)
  have YR := hide (ZR.out.below hb)
  clear Z1 ZQ ZR
  have Ba4 := hide (Ba3.out.below hb Ba3.out.lt)
  have Bb4 := hide (Bb3.out.below hb Bb3.out.lt)
  have Br4 := hide (Br3.out.below hb Br3.out.lt)
  have HB4 := hide (HB3.out.trans (hb.mono HB3.out.size))
  clear hb Ba3 Bb3 Br3 HB3 ya0 ya1 ya2 ya3 yb0 yb1 yb2 yb3 yr0 yr1 yr2 yr3
  obtain ⟨ya0, ya1, ya2, ya3⟩ := Ba4.out.four
  obtain ⟨yb0, yb1, yb2, yb3⟩ := Bb4.out.four
  obtain ⟨yr0, yr1, yr2, yr3⟩ := Br4.out.four
  have b0 : Hid (Below w4.heap.size w4 w4.drew) := bdrewD w4
  have C0 : Hid (∀ X, Hid (Below w4.heap.size w4 X) → Calls Tryz.prog 208 #[.slice o3 l3 c3] X fun e w' => e = .returned (.bool od) ∧ Hid (Below w4.heap.size w4 w') ∧ w'.cell? ⟨w.heap.size, 1, none⟩ = some (.bool na)) := by
    intro X bX
    refine (isOdd_any o3 l3 c3 _ X (YQ.out.below bX.out)).mono ?_
    rintro e w' ⟨rfl, hb⟩
    have bb := bX.out.trans (hb.mono bX.out.size)
    have Baq := Ba4.out.below bb Ba4.out.lt
    exact ⟨by rw [HOD.out], bb, Baq.cell 1⟩
  have C1 : Hid (∀ X, Hid (Below w4.heap.size w4 X) → Calls Tryz.prog 187 #[.slice o4 l4 c4, .slice o4 l4 c4] X fun e w' => (∃ o l c, e = .returned (.slice o l c) ∧ Hid (Nt w' (.slice o l c) (A % U + A % U))) ∧ Hid (Below w4.heap.size w4 w') ∧ w'.cell? ⟨w.heap.size, 1, none⟩ = some (.bool na)) := by
    intro X bX
    refine (nt_adds _ _ _ _ X (YR.out.below bX.out) (YR.out.below bX.out) SR1.out SR1.out).mono ?_
    rintro e w' ⟨o, l, c, rfl, hz, hb⟩
    have bb := bX.out.trans (hb.mono bX.out.size)
    have Baq := Ba4.out.below bb Ba4.out.lt
    exact ⟨⟨o, l, c, rfl, hz⟩, bb, Baq.cell 1⟩
  have C2 : Hid (∀ X (o : Option Addr) (l c : Nat), Hid (Below w4.heap.size w4 X) → Nt X (.slice o l c) (A % U + A % U) → Calls Tryz.prog 209 #[.slice o l c, .slice o1 l1 c1] X fun e w' => e = .returned (.int .i64 hv) ∧ Hid (Below w4.heap.size w4 w') ∧ w'.cell? ⟨w.heap.size, 1, none⟩ = some (.bool na)) := by
    intro X o l c bX hz
    refine (nt_cmp _ _ _ _ hv X hz (Y1.out.below bX.out) SR.out SU.out HHV.out).mono ?_
    rintro e w' ⟨rfl, hb⟩
    have bb := bX.out.trans (hb.mono bX.out.size)
    have Baq := Ba4.out.below bb Ba4.out.lt
    exact ⟨rfl, bb, Baq.cell 1⟩
  have C3 : Hid (∀ X, Hid (Below w4.heap.size w4 X) → Calls Tryz.prog f #[.int .i64 m, .agg #[.bool na, .bool od, .int .i64 hv]] X fun e w' => e = .returned (.bool true) ∧ Hid (Below w4.heap.size w4 w') ∧ w'.cell? ⟨w.heap.size, 1, none⟩ = some (.bool na)) := by
    intro X bX
    refine (MD.out X).mono ?_
    rintro e w' ⟨rfl, hb⟩
    have bb := bX.out.trans (hb.mono bX.out.size)
    have Baq := Ba4.out.below bb Ba4.out.lt
    exact ⟨rfl, bb, Baq.cell 1⟩
  go_wp2_with fail
  have mk0 : True := trivial
  go_region_held3 (fun w' => w'.cell? ⟨w.heap.size, 1, none⟩ = some (.bool na)) (go_keep) (first
    | (clear mk0; go_at_call 208; refine (C0.out _ b0).mono ?_; rintro e w5 ⟨rfl, b1, q0⟩; have mk1 : True := trivial)
    | (clear mk1; go_at_call 187; refine (C1.out _ b1).mono ?_; rintro e w6 ⟨⟨o5, l5, c5, rfl, Z5⟩, b2, q1⟩; have mk2 : True := trivial)
    | (clear mk2; go_at_call 209; refine (C2.out _ _ _ _ b2 Z5.out).mono ?_; rintro e w7 ⟨rfl, b3, q2⟩; have mk3 : True := trivial)
    | (clear mk3; with_reducible refine (C3.out _ b3).mono ?_; rintro e w8 ⟨rfl, b4, q3⟩; have mk4 : True := trivial))
  have Ba8 := hide (Ba4.out.below b4.out Ba4.out.lt)
  have Bb8 := hide (Bb4.out.below b4.out Bb4.out.lt)
  have Br8 := hide (Br4.out.below b4.out Br4.out.lt)
  have HB8 := hide (HB4.out.trans (b4.out.mono HB4.out.size))
  have YQ8 := hide (YQ.out.below b4.out)
  clear mk4 b0 b1 b2 b3 b4 q0 q1 q2 q3 Z5 C0 C1 C2 C3 Ba4 Bb4 Br4 HB4 YQ YR Y1 SR SR1 SU MD HOD HHV hl5 ya0 ya1 ya2 ya3 yb0 yb1 yb2 yb3 yr0 yr1 yr2 yr3
  obtain ⟨ya0, ya1, ya2, ya3⟩ := Ba8.out.four
  obtain ⟨yb0, yb1, yb2, yb3⟩ := Bb8.out.four
  obtain ⟨yr0, yr1, yr2, yr3⟩ := Br8.out.four
  have OF := hide (fun W => nt_ofs W)
  go_wp2_with fail
  refine (OF.out _).mono ?_
  rintro e w9 ⟨o6, l6, c6, rfl, Z6, hb⟩
  have YQ9 := hide (YQ8.out.below hb)
  clear YQ8 OF
  have Ba9 := hide (Ba8.out.below hb Ba8.out.lt)
  have Bb9 := hide (Bb8.out.below hb Bb8.out.lt)
  have Br9 := hide (Br8.out.below hb Br8.out.lt)
  have HB9 := hide (HB8.out.trans (hb.mono HB8.out.size))
  clear hb Ba8 Bb8 Br8 HB8 ya0 ya1 ya2 ya3 yb0 yb1 yb2 yb3 yr0 yr1 yr2 yr3
  obtain ⟨ya0, ya1, ya2, ya3⟩ := Ba9.out.four
  obtain ⟨yb0, yb1, yb2, yb3⟩ := Bb9.out.four
  obtain ⟨yr0, yr1, yr2, yr3⟩ := Br9.out.four
  have AD := hide (nt_adds _ _ _ _ w9 YQ9.out Z6.out SQ.out SM1.out)
  clear YQ9 Z6
  go_wp2_with fail
  refine (AD.out).mono ?_
  rintro e w10 ⟨o7, l7, c7, rfl, Z7, hb⟩
  clear AD
  have Ba10 := hide (Ba9.out.below hb Ba9.out.lt)
  have Bb10 := hide (Bb9.out.below hb Bb9.out.lt)
  have Br10 := hide (Br9.out.below hb Br9.out.lt)
  have HB10 := hide (HB9.out.trans (hb.mono HB9.out.size))
  clear hb Ba9 Bb9 Br9 HB9 ya0 ya1 ya2 ya3 yb0 yb1 yb2 yb3 yr0 yr1 yr2 yr3
  obtain ⟨ya0, ya1, ya2, ya3⟩ := Ba10.out.four
  obtain ⟨yb0, yb1, yb2, yb3⟩ := Bb10.out.four
  obtain ⟨yr0, yr1, yr2, yr3⟩ := Br10.out.four
  have HL : Hid (w.heap.size < w10.heap.size ∧ w.heap.size + 1 < w10.heap.size ∧ w.heap.size + 1 + 1 < w10.heap.size) := ⟨Ba10.out.lt, Bb10.out.lt, Br10.out.lt⟩
  have HTC := hide (HT.out.below HB10.out)
  obtain ⟨G, hG⟩ : ∃ G, G = w.heap.size + 1 + 1 := ⟨_, rfl⟩
  have gn1 : ¬ G = w.heap.size := by omega
  have gn2 : ¬ w.heap.size = G := by omega
  have gn3 : ¬ G = w.heap.size + 1 := by omega
  have gn4 : ¬ w.heap.size + 1 = G := by omega
  have gle : w.heap.size ≤ G := by omega
  have HG := hide hG
  rw [← hG] at Br10
  clear hG HL HT ya0 ya1 ya2 ya3 yb0 yb1 yb2 yb3 yr0 yr1 yr2 yr3
  have d0 : w10.cell? ⟨w.heap.size, 1, none⟩ = some (.bool na) := Ba10.out.cell 1
  have d1 : w10.cell? ⟨w.heap.size + 1, 0, none⟩ = some (.int .i64 0) := Bb10.out.cell 0
  have d2 : w10.cell? ⟨w.heap.size + 1, 1, none⟩ = some (.bool nb) := Bb10.out.cell 1
  have d3 : w10.cell? ⟨w.heap.size + 1, 2, none⟩ = some (.string tb) := Bb10.out.cell 2
  have d4 : w10.cell? ⟨w.heap.size + 1, 3, none⟩ = some (.int .i64 eb) := Bb10.out.cell 3
  have HC : Hid (∀ w', Below w10.heap.size w10 w' → w'.cell? ⟨w.heap.size, 1, none⟩ = some (.bool na) ∧ w'.cell? ⟨w.heap.size + 1, 0, none⟩ = some (.int .i64 0) ∧ w'.cell? ⟨w.heap.size + 1, 1, none⟩ = some (.bool nb) ∧ w'.cell? ⟨w.heap.size + 1, 2, none⟩ = some (.string tb) ∧ w'.cell? ⟨w.heap.size + 1, 3, none⟩ = some (.int .i64 eb) ∧ w'.cell? ⟨G, 0, none⟩ = some (.int .i64 0) ∧ w'.cell? ⟨G, 1, none⟩ = some (.bool false) ∧ w'.cell? ⟨G, 2, none⟩ = some (.string ⟨#[]⟩) ∧ w'.cell? ⟨G, 3, none⟩ = some (.int .i64 0) ∧ w'.frozen? ⟨G, 0, none⟩ = false ∧ w'.frozen? ⟨G, 1, none⟩ = false ∧ w'.frozen? ⟨G, 2, none⟩ = false ∧ w'.frozen? ⟨G, 3, none⟩ = false) := by
    intro w' hb
    have Ba10q := Ba10.out.below hb Ba10.out.lt
    have Bb10q := Bb10.out.below hb Bb10.out.lt
    have Br10q := Br10.out.below hb Br10.out.lt
    exact ⟨Ba10q.cell 1, Bb10q.cell 0, Bb10q.cell 1, Bb10q.cell 2, Bb10q.cell 3, Br10q.cell 0, Br10q.cell 1, Br10q.cell 2, Br10q.cell 3, Br10q.free 0, Br10q.free 1, Br10q.free 2, Br10q.free 3⟩
  have b0 : Hid (Below w10.heap.size w10 w10.drew) := bdrewD w10
  have C0 : Hid (∀ X, Hid (Below w10.heap.size w10 X) → Calls Tryz.prog 210 #[dcV 0 nb tb eb] X fun e w' => (∃ o l c, e = .returned (.slice o l c) ∧ Hid (Nt w' (.slice o l c) N)) ∧ Hid (Below w10.heap.size w10 w') ∧ w'.cell? ⟨w.heap.size, 1, none⟩ = some (.bool na) ∧ w'.cell? ⟨w.heap.size + 1, 0, none⟩ = some (.int .i64 0) ∧ w'.cell? ⟨w.heap.size + 1, 1, none⟩ = some (.bool nb) ∧ w'.cell? ⟨w.heap.size + 1, 2, none⟩ = some (.string tb) ∧ w'.cell? ⟨w.heap.size + 1, 3, none⟩ = some (.int .i64 eb) ∧ w'.cell? ⟨G, 0, none⟩ = some (.int .i64 0) ∧ w'.cell? ⟨G, 1, none⟩ = some (.bool false) ∧ w'.cell? ⟨G, 2, none⟩ = some (.string ⟨#[]⟩) ∧ w'.cell? ⟨G, 3, none⟩ = some (.int .i64 0) ∧ w'.frozen? ⟨G, 0, none⟩ = false ∧ w'.frozen? ⟨G, 1, none⟩ = false ∧ w'.frozen? ⟨G, 2, none⟩ = false ∧ w'.frozen? ⟨G, 3, none⟩ = false) := by
    intro X bX
    refine (DU.out X).mono ?_
    rintro e w' ⟨o, l, c, rfl, hz, hb⟩
    have bb := bX.out.trans (hb.mono bX.out.size)
    exact ⟨⟨o, l, c, rfl, hz⟩, bb, HC.out _ bb⟩
  have C1 : Hid (∀ X (o : Option Addr) (l c : Nat), Hid (Below w10.heap.size w10 X) → Nt X (.slice o l c) N → Calls Tryz.prog 113 #[.slice o7 l7 c7, .slice o l c] X fun e w' => (∃ o l c, e = .returned (.slice o l c) ∧ Hid (Nt w' (.slice o l c) ((A / U + 1) * N))) ∧ Hid (Below w10.heap.size w10 w') ∧ w'.cell? ⟨w.heap.size, 1, none⟩ = some (.bool na) ∧ w'.cell? ⟨w.heap.size + 1, 0, none⟩ = some (.int .i64 0) ∧ w'.cell? ⟨w.heap.size + 1, 1, none⟩ = some (.bool nb) ∧ w'.cell? ⟨w.heap.size + 1, 2, none⟩ = some (.string tb) ∧ w'.cell? ⟨w.heap.size + 1, 3, none⟩ = some (.int .i64 eb) ∧ w'.cell? ⟨G, 0, none⟩ = some (.int .i64 0) ∧ w'.cell? ⟨G, 1, none⟩ = some (.bool false) ∧ w'.cell? ⟨G, 2, none⟩ = some (.string ⟨#[]⟩) ∧ w'.cell? ⟨G, 3, none⟩ = some (.int .i64 0) ∧ w'.frozen? ⟨G, 0, none⟩ = false ∧ w'.frozen? ⟨G, 1, none⟩ = false ∧ w'.frozen? ⟨G, 2, none⟩ = false ∧ w'.frozen? ⟨G, 3, none⟩ = false) := by
    intro X o l c bX hz
    refine (nt_muls _ _ _ _ X (Z7.out.below bX.out) hz SC.out SN.out).mono ?_
    rintro e w' ⟨o, l, c, rfl, hz, hb⟩
    have bb := bX.out.trans (hb.mono bX.out.size)
    exact ⟨⟨o, l, c, rfl, hz⟩, bb, HC.out _ bb⟩
  have C2 : Hid (∀ X (o : Option Addr) (l c : Nat), Hid (Below w10.heap.size w10 X) → Nt X (.slice o l c) ((A / U + 1) * N) → Calls Tryz.prog 112 #[.slice o l c] X fun e w' => e = .returned (.string T) ∧ Hid (Below w10.heap.size w10 w') ∧ w'.cell? ⟨w.heap.size, 1, none⟩ = some (.bool na) ∧ w'.cell? ⟨w.heap.size + 1, 0, none⟩ = some (.int .i64 0) ∧ w'.cell? ⟨w.heap.size + 1, 1, none⟩ = some (.bool nb) ∧ w'.cell? ⟨w.heap.size + 1, 2, none⟩ = some (.string tb) ∧ w'.cell? ⟨w.heap.size + 1, 3, none⟩ = some (.int .i64 eb) ∧ w'.cell? ⟨G, 0, none⟩ = some (.int .i64 0) ∧ w'.cell? ⟨G, 1, none⟩ = some (.bool false) ∧ w'.cell? ⟨G, 2, none⟩ = some (.string ⟨#[]⟩) ∧ w'.cell? ⟨G, 3, none⟩ = some (.int .i64 0) ∧ w'.frozen? ⟨G, 0, none⟩ = false ∧ w'.frozen? ⟨G, 1, none⟩ = false ∧ w'.frozen? ⟨G, 2, none⟩ = false ∧ w'.frozen? ⟨G, 3, none⟩ = false) := by
    intro X o l c bX hz
    refine (nt_text _ _ X hz (HTC.out.below bX.out)).mono ?_
    rintro e w' ⟨rfl, hb⟩
    have bb := bX.out.trans (hb.mono bX.out.size)
    exact ⟨by rw [HTT.out], bb, HC.out _ bb⟩
  have C3 : Hid (∀ X, Hid (Below w10.heap.size w10 X) → Calls Tryz.prog 22 #[.bool na, .string T, .int .i64 eb] X fun e w' => e = .returned (.tuple #[.agg #[.int .i64 (cc : Int), .bool nn, .string D, .int .i64 ee], .int .i64 er]) ∧ Hid (Below w10.heap.size w10 w') ∧ w'.cell? ⟨w.heap.size, 1, none⟩ = some (.bool na) ∧ w'.cell? ⟨w.heap.size + 1, 0, none⟩ = some (.int .i64 0) ∧ w'.cell? ⟨w.heap.size + 1, 1, none⟩ = some (.bool nb) ∧ w'.cell? ⟨w.heap.size + 1, 2, none⟩ = some (.string tb) ∧ w'.cell? ⟨w.heap.size + 1, 3, none⟩ = some (.int .i64 eb) ∧ w'.cell? ⟨G, 0, none⟩ = some (.int .i64 0) ∧ w'.cell? ⟨G, 1, none⟩ = some (.bool false) ∧ w'.cell? ⟨G, 2, none⟩ = some (.string ⟨#[]⟩) ∧ w'.cell? ⟨G, 3, none⟩ = some (.int .i64 0) ∧ w'.frozen? ⟨G, 0, none⟩ = false ∧ w'.frozen? ⟨G, 1, none⟩ = false ∧ w'.frozen? ⟨G, 2, none⟩ = false ∧ w'.frozen? ⟨G, 3, none⟩ = false) := by
    intro X bX
    refine (FI.out X).mono ?_
    rintro e w' ⟨rfl, hb⟩
    have bb := bX.out.trans (hb.mono bX.out.size)
    exact ⟨rfl, bb, HC.out _ bb⟩
  have BRF : Hid (∀ w', Below w10.heap.size w10 w' → Below w.heap.size w w' ∧ Blk w' G #[.int .i64 0, .bool false, .string ⟨#[]⟩, .int .i64 0] 23) := fun w' hb => ⟨HB10.out.trans (hb.mono HB10.out.size), Br10.out.below hb Br10.out.lt⟩
  clear HC Z7 HTC HTT FI Ba10 Bb10 Br10 HB10 DU SC SN
  go_wp2_with fail
  simp only [← HG.out]
  have mk0 : True := trivial
  go_region_held3 (fun w' => w'.cell? ⟨w.heap.size, 1, none⟩ = some (.bool na) ∧ w'.cell? ⟨w.heap.size + 1, 0, none⟩ = some (.int .i64 0) ∧ w'.cell? ⟨w.heap.size + 1, 1, none⟩ = some (.bool nb) ∧ w'.cell? ⟨w.heap.size + 1, 2, none⟩ = some (.string tb) ∧ w'.cell? ⟨w.heap.size + 1, 3, none⟩ = some (.int .i64 eb)) (go_keep) (first
    | (clear mk0; go_at_call 210; refine (C0.out _ b0).mono ?_; rintro e v1 ⟨⟨o8, l8, c8, rfl, Z8⟩, b1, q0_0, q0_1, q0_2, q0_3, q0_4, q0_5, q0_6, q0_7, q0_8, q0_9, q0_10, q0_11, q0_12⟩; have mk1 : True := trivial)
    | (clear mk1; go_at_call 113; refine (C1.out _ _ _ _ b1 Z8.out).mono ?_; rintro e v2 ⟨⟨o9, l9, c9, rfl, Z9⟩, b2, q1_0, q1_1, q1_2, q1_3, q1_4, q1_5, q1_6, q1_7, q1_8, q1_9, q1_10, q1_11, q1_12⟩; have mk2 : True := trivial)
    | (clear mk2; go_at_call 112; refine (C2.out _ _ _ _ b2 Z9.out).mono ?_; rintro e v3 ⟨rfl, b3, q2_0, q2_1, q2_2, q2_3, q2_4, q2_5, q2_6, q2_7, q2_8, q2_9, q2_10, q2_11, q2_12⟩; have mk3 : True := trivial)
    | (clear mk3; go_at_call 22; refine (C3.out _ b3).mono ?_; rintro e v4 ⟨rfl, b4, q3_0, q3_1, q3_2, q3_3, q3_4, q3_5, q3_6, q3_7, q3_8, q3_9, q3_10, q3_11, q3_12⟩; have mk4 : True := trivial))
  obtain ⟨hbel, hblk⟩ := BRF.out _ b4.out
  have HBL := hide hbel
  have QR := hide hblk
  clear hbel hblk BRF b0 b1 b2 b3 b4 C0 C1 C2 C3
  repeat (first | go_values | go_skip | go_guarded | go_step | go_upon)
  refine bodyPost_ret (results_dec2 rfl _ _ _ _ _ _ _ rfl (QR.out.put4 _ _ _ _)) rfl ?_
  exact ⟨rfl, below_put4 HBL.out gle _ _ _ _⟩

set_option maxHeartbeats 4000000 in
theorem mult_in (ca : Int) (na : Bool) (ta : ByteArray) (ea : Int) (nb : Bool) (tb : ByteArray) (eb m : Int) (A U : Nat) (w : World) (h0 : ta.size ≠ 0) (ca' : ∀ W, Calls Tryz.prog 206 #[dcV ca na ta ea, .int .i64 (min ea eb)] W fun e w' => ∃ o l c, e = .returned (.slice o l c) ∧ Hid (Nt w' (.slice o l c) A) ∧ Below W.heap.size W w') (cb' : ∀ W, Calls Tryz.prog 206 #[dcV 0 nb tb eb, .int .i64 (min ea eb)] W fun e w' => ∃ o l c, e = .returned (.slice o l c) ∧ Hid (Nt w' (.slice o l c) U) ∧ Below W.heap.size W w') (sA : Sm A) (sU : Sm U) (hU : U ≠ 0) (hm : A % U ≠ 0) (sR : Sm (A % U + A % U)) (f : Nat) (hf : ∀ args w, (callFunc f args).run Tryz.prog w = .ok (.enter f args) w) (lv : ∀ W, Calls Tryz.prog 207 #[.int .i64 m] W fun e w' => e = .returned (.func (.func f) #[.int .i64 m] #[]) ∧ Below W.heap.size W w') (md : ∀ W, Calls Tryz.prog f #[.int .i64 m, .agg #[.bool na, .bool (decide (A / U % 2 = 1)), .int .i64 (cmpN (A % U + A % U) U)]] W fun e w' => e = .returned (.bool false) ∧ Below W.heap.size W w')
    (N : Nat) (sN : Sm N) (du : ∀ W, Calls Tryz.prog 210 #[dcV 0 nb tb eb] W fun e w' => ∃ o l c, e = .returned (.slice o l c) ∧ Hid (Nt w' (.slice o l c) N) ∧ Below W.heap.size W w') (htab : Tab w) (hsz : (Lib.decDigits ((A / U) * N)).length ≤ 100000) (hxb : -10000 ≤ eb ∧ eb ≤ 10000) : Calls Tryz.prog 170 #[dcV ca na ta ea, dcV 0 nb tb eb, .int .i64 m] w fun e w' => e = .returned (decErr (tellF na ((A / U) * N) eb)) ∧ Below w.heap.size w w' := by
  have CCA := hide ca'
  have CCB := hide cb'
  have h2 := toList_ne h0
  obtain ⟨x, hx⟩ : ∃ x, x = min ea eb := ⟨_, rfl⟩
  have HX := hide hx
  rw [← hx] at CCA CCB
  have SA := hide sA
  have SU := hide sU
  have HU := hide hU
  have HM := hide hm
  have LV := hide lv
  have SR := hide sR
  have SR1 : Hid (Sm (A % U)) := Nat.lt_trans (Nat.mod_lt _ (Nat.pos_of_ne_zero hU)) sU
  obtain ⟨od, hod⟩ : ∃ od, od = decide (A / U % 2 = 1) := ⟨_, rfl⟩
  obtain ⟨hv, hhv⟩ : ∃ hv, hv = cmpN (A % U + A % U) U := ⟨_, rfl⟩
  rw [← hod, ← hhv] at md
  have MD := hide md
  have HOD := hide hod
  have HHV := hide hhv.symm
  have SQ : Hid (Sm (A / U)) := Nat.lt_of_le_of_lt (Nat.div_le_self _ _) sA
  have SC : Hid (Sm (A / U)) := SQ.out
  clear SQ
  have SN := hide sN
  have DU := hide du
  have HT := hide htab
  obtain ⟨T, hT⟩ : ∃ T : ByteArray, T = ⟨(Lib.decDigits ((A / U) * N)).toArray⟩ := ⟨_, rfl⟩
  have HTT := hide hT
  have hTb : bys T = Lib.decDigits ((A / U) * N) := by rw [hT, bys_mk]
  have hTs : T.size = (Lib.decDigits ((A / U) * N)).length := by rw [hT, size_mk0]
  have FG := fun (X : World) => fin_any na T eb X (by rw [hTs]; omega) (by omega) (by omega) (by rw [hTb]; exact (dd_okT _).2.2)
  rw [hTb, dd_val] at FG
  rcases hTF : tellF na ((A / U) * N) eb with ⟨⟨cc, nn, ll, ee⟩, er⟩
  rw [hTF] at FG
  unfold decErr decVal at FG ⊢
  simp only at FG ⊢
  obtain ⟨D, hD⟩ : ∃ D : ByteArray, D = ⟨ll.toArray⟩ := ⟨_, rfl⟩
  rw [← hD] at FG ⊢
  have FI := hide FG
  clear FG hT hTb hTs hTF hD hsz hxb sN du htab
  clear hod hhv hm lv md sR ca' cb' hx sA sU hU h0
  have Ba0 := hide (((Blk.newAt w (w.heap.size) (rfl) #[.int .i64 ca, .bool na, .string ta, .int .i64 ea] 23).alloc (.cells #[.int .i64 0, .bool nb, .string tb, .int .i64 eb] 23)).alloc (.cells #[.int .i64 0, .bool false, .string ⟨#[]⟩, .int .i64 0] 23))
  have Bb0 := hide ((Blk.newAt (w.alloc (.cells #[.int .i64 ca, .bool na, .string ta, .int .i64 ea] 23)) (w.heap.size + 1) (by simp) #[.int .i64 0, .bool nb, .string tb, .int .i64 eb] 23).alloc (.cells #[.int .i64 0, .bool false, .string ⟨#[]⟩, .int .i64 0] 23))
  have Br0 := hide (Blk.newAt ((w.alloc (.cells #[.int .i64 ca, .bool na, .string ta, .int .i64 ea] 23)).alloc (.cells #[.int .i64 0, .bool nb, .string tb, .int .i64 eb] 23)) (w.heap.size + 1 + 1) (by simp) #[.int .i64 0, .bool false, .string ⟨#[]⟩, .int .i64 0] 23)
  have HB0 : Hid (Below w.heap.size w (((w.alloc (.cells #[.int .i64 ca, .bool na, .string ta, .int .i64 ea] 23)).alloc (.cells #[.int .i64 0, .bool nb, .string tb, .int .i64 eb] 23)).alloc (.cells #[.int .i64 0, .bool false, .string ⟨#[]⟩, .int .i64 0] 23))) := ((((Below.refl _ _).alloc (Nat.le_refl _) _).alloc (by simp <;> omega) _).alloc (by simp <;> omega) _)
  go_enter Tryz.func170, Tryz.ntmps170
  go_wp2_with fail
  simp only [← HX.out]
  refine (CCB.out _).mono ?_
  rintro e w1 ⟨o1, l1, c1, rfl, Z1, hb⟩
  have Ba1 := hide (Ba0.out.below hb Ba0.out.lt)
  have Bb1 := hide (Bb0.out.below hb Bb0.out.lt)
  have Br1 := hide (Br0.out.below hb Br0.out.lt)
  have HB1 := hide (HB0.out.trans (hb.mono HB0.out.size))
  clear hb Ba0 Bb0 Br0 HB0 
  obtain ⟨ya0, ya1, ya2, ya3⟩ := Ba1.out.four
  obtain ⟨yb0, yb1, yb2, yb3⟩ := Bb1.out.four
  obtain ⟨yr0, yr1, yr2, yr3⟩ := Br1.out.four
  go_wp2_with fail
  refine (CCA.out _).mono ?_
  rintro e w2 ⟨o2, l2, c2, rfl, Z2, hb⟩
  have Y1 := hide (Z1.out.below hb)
  clear Z1
  have Ba2 := hide (Ba1.out.below hb Ba1.out.lt)
  have Bb2 := hide (Bb1.out.below hb Bb1.out.lt)
  have Br2 := hide (Br1.out.below hb Br1.out.lt)
  have HB2 := hide (HB1.out.trans (hb.mono HB1.out.size))
  clear hb Ba1 Bb1 Br1 HB1 ya0 ya1 ya2 ya3 yb0 yb1 yb2 yb3 yr0 yr1 yr2 yr3
  obtain ⟨ya0, ya1, ya2, ya3⟩ := Ba2.out.four
  obtain ⟨yb0, yb1, yb2, yb3⟩ := Bb2.out.four
  obtain ⟨yr0, yr1, yr2, yr3⟩ := Br2.out.four
  have DM := hide (nt_divs _ _ _ _ w2 Z2.out Y1.out SA.out SU.out HU.out)
  go_wp2_with fail
  refine (DM.out).mono ?_
  rintro e w3 ⟨o3, l3, c3, o4, l4, c4, rfl, ZQ, ZR, hb⟩
  have Z1 := hide (Y1.out.below hb)
  clear Y1 Z2 DM
  have Ba3 := hide (Ba2.out.below hb Ba2.out.lt)
  have Bb3 := hide (Bb2.out.below hb Bb2.out.lt)
  have Br3 := hide (Br2.out.below hb Br2.out.lt)
  have HB3 := hide (HB2.out.trans (hb.mono HB2.out.size))
  clear hb Ba2 Bb2 Br2 HB2 ya0 ya1 ya2 ya3 yb0 yb1 yb2 yb3 yr0 yr1 yr2 yr3
  obtain ⟨ya0, ya1, ya2, ya3⟩ := Ba3.out.four
  obtain ⟨yb0, yb1, yb2, yb3⟩ := Bb3.out.four
  obtain ⟨yr0, yr1, yr2, yr3⟩ := Br3.out.four
  have hl4 : l4 ≠ 0 := fun h => HM.out ((nt_len ZR.out).1 h)
  have hl5 : ((l4 : Int) == 0) = false := by
    have : (l4 : Int) ≠ 0 := by omega
    simpa using this
  clear hl4
  go_wp2_with fail
  refine (LV.out _).mono ?_
  rintro e w4 ⟨rfl, hb⟩
  have Y1 := hide (Z1.out.below hb)
  have YQ := hide (ZQ.out.below hb)
  have YR := hide (ZR.out.below hb)
  clear Z1 ZQ ZR
  have Ba4 := hide (Ba3.out.below hb Ba3.out.lt)
  have Bb4 := hide (Bb3.out.below hb Bb3.out.lt)
  have Br4 := hide (Br3.out.below hb Br3.out.lt)
  have HB4 := hide (HB3.out.trans (hb.mono HB3.out.size))
  clear hb Ba3 Bb3 Br3 HB3 ya0 ya1 ya2 ya3 yb0 yb1 yb2 yb3 yr0 yr1 yr2 yr3
  obtain ⟨ya0, ya1, ya2, ya3⟩ := Ba4.out.four
  obtain ⟨yb0, yb1, yb2, yb3⟩ := Bb4.out.four
  obtain ⟨yr0, yr1, yr2, yr3⟩ := Br4.out.four
  have b0 : Hid (Below w4.heap.size w4 w4.drew) := bdrewD w4
  have C0 : Hid (∀ X, Hid (Below w4.heap.size w4 X) → Calls Tryz.prog 208 #[.slice o3 l3 c3] X fun e w' => e = .returned (.bool od) ∧ Hid (Below w4.heap.size w4 w') ∧ w'.cell? ⟨w.heap.size, 1, none⟩ = some (.bool na)) := by
    intro X bX
    refine (isOdd_any o3 l3 c3 _ X (YQ.out.below bX.out)).mono ?_
    rintro e w' ⟨rfl, hb⟩
    have bb := bX.out.trans (hb.mono bX.out.size)
    have Baq := Ba4.out.below bb Ba4.out.lt
    exact ⟨by rw [HOD.out], bb, Baq.cell 1⟩
  have C1 : Hid (∀ X, Hid (Below w4.heap.size w4 X) → Calls Tryz.prog 187 #[.slice o4 l4 c4, .slice o4 l4 c4] X fun e w' => (∃ o l c, e = .returned (.slice o l c) ∧ Hid (Nt w' (.slice o l c) (A % U + A % U))) ∧ Hid (Below w4.heap.size w4 w') ∧ w'.cell? ⟨w.heap.size, 1, none⟩ = some (.bool na)) := by
    intro X bX
    refine (nt_adds _ _ _ _ X (YR.out.below bX.out) (YR.out.below bX.out) SR1.out SR1.out).mono ?_
    rintro e w' ⟨o, l, c, rfl, hz, hb⟩
    have bb := bX.out.trans (hb.mono bX.out.size)
    have Baq := Ba4.out.below bb Ba4.out.lt
    exact ⟨⟨o, l, c, rfl, hz⟩, bb, Baq.cell 1⟩
  have C2 : Hid (∀ X (o : Option Addr) (l c : Nat), Hid (Below w4.heap.size w4 X) → Nt X (.slice o l c) (A % U + A % U) → Calls Tryz.prog 209 #[.slice o l c, .slice o1 l1 c1] X fun e w' => e = .returned (.int .i64 hv) ∧ Hid (Below w4.heap.size w4 w') ∧ w'.cell? ⟨w.heap.size, 1, none⟩ = some (.bool na)) := by
    intro X o l c bX hz
    refine (nt_cmp _ _ _ _ hv X hz (Y1.out.below bX.out) SR.out SU.out HHV.out).mono ?_
    rintro e w' ⟨rfl, hb⟩
    have bb := bX.out.trans (hb.mono bX.out.size)
    have Baq := Ba4.out.below bb Ba4.out.lt
    exact ⟨rfl, bb, Baq.cell 1⟩
  have C3 : Hid (∀ X, Hid (Below w4.heap.size w4 X) → Calls Tryz.prog f #[.int .i64 m, .agg #[.bool na, .bool od, .int .i64 hv]] X fun e w' => e = .returned (.bool false) ∧ Hid (Below w4.heap.size w4 w') ∧ w'.cell? ⟨w.heap.size, 1, none⟩ = some (.bool na)) := by
    intro X bX
    refine (MD.out X).mono ?_
    rintro e w' ⟨rfl, hb⟩
    have bb := bX.out.trans (hb.mono bX.out.size)
    have Baq := Ba4.out.below bb Ba4.out.lt
    exact ⟨rfl, bb, Baq.cell 1⟩
  go_wp2_with fail
  have mk0 : True := trivial
  go_region_held3 (fun w' => w'.cell? ⟨w.heap.size, 1, none⟩ = some (.bool na)) (go_keep) (first
    | (clear mk0; go_at_call 208; refine (C0.out _ b0).mono ?_; rintro e w5 ⟨rfl, b1, q0⟩; have mk1 : True := trivial)
    | (clear mk1; go_at_call 187; refine (C1.out _ b1).mono ?_; rintro e w6 ⟨⟨o5, l5, c5, rfl, Z5⟩, b2, q1⟩; have mk2 : True := trivial)
    | (clear mk2; go_at_call 209; refine (C2.out _ _ _ _ b2 Z5.out).mono ?_; rintro e w7 ⟨rfl, b3, q2⟩; have mk3 : True := trivial)
    | (clear mk3; with_reducible refine (C3.out _ b3).mono ?_; rintro e w8 ⟨rfl, b4, q3⟩; have mk4 : True := trivial))
  have Ba8 := hide (Ba4.out.below b4.out Ba4.out.lt)
  have Bb8 := hide (Bb4.out.below b4.out Bb4.out.lt)
  have Br8 := hide (Br4.out.below b4.out Br4.out.lt)
  have HB8 := hide (HB4.out.trans (b4.out.mono HB4.out.size))
  have YQ8 := hide (YQ.out.below b4.out)
  clear mk4 b0 b1 b2 b3 b4 q0 q1 q2 q3 Z5 C0 C1 C2 C3 Ba4 Bb4 Br4 HB4 YQ YR Y1 SR SR1 SU MD HOD HHV hl5 ya0 ya1 ya2 ya3 yb0 yb1 yb2 yb3 yr0 yr1 yr2 yr3
  obtain ⟨ya0, ya1, ya2, ya3⟩ := Ba8.out.four
  obtain ⟨yb0, yb1, yb2, yb3⟩ := Bb8.out.four
  obtain ⟨yr0, yr1, yr2, yr3⟩ := Br8.out.four
  have HL : Hid (w.heap.size < w8.heap.size ∧ w.heap.size + 1 < w8.heap.size ∧ w.heap.size + 1 + 1 < w8.heap.size) := ⟨Ba8.out.lt, Bb8.out.lt, Br8.out.lt⟩
  have HTC := hide (HT.out.below HB8.out)
  obtain ⟨G, hG⟩ : ∃ G, G = w.heap.size + 1 + 1 := ⟨_, rfl⟩
  have gn1 : ¬ G = w.heap.size := by omega
  have gn2 : ¬ w.heap.size = G := by omega
  have gn3 : ¬ G = w.heap.size + 1 := by omega
  have gn4 : ¬ w.heap.size + 1 = G := by omega
  have gle : w.heap.size ≤ G := by omega
  have HG := hide hG
  rw [← hG] at Br8
  clear hG HL HT ya0 ya1 ya2 ya3 yb0 yb1 yb2 yb3 yr0 yr1 yr2 yr3
  have d0 : w8.cell? ⟨w.heap.size, 1, none⟩ = some (.bool na) := Ba8.out.cell 1
  have d1 : w8.cell? ⟨w.heap.size + 1, 0, none⟩ = some (.int .i64 0) := Bb8.out.cell 0
  have d2 : w8.cell? ⟨w.heap.size + 1, 1, none⟩ = some (.bool nb) := Bb8.out.cell 1
  have d3 : w8.cell? ⟨w.heap.size + 1, 2, none⟩ = some (.string tb) := Bb8.out.cell 2
  have d4 : w8.cell? ⟨w.heap.size + 1, 3, none⟩ = some (.int .i64 eb) := Bb8.out.cell 3
  have HC : Hid (∀ w', Below w8.heap.size w8 w' → w'.cell? ⟨w.heap.size, 1, none⟩ = some (.bool na) ∧ w'.cell? ⟨w.heap.size + 1, 0, none⟩ = some (.int .i64 0) ∧ w'.cell? ⟨w.heap.size + 1, 1, none⟩ = some (.bool nb) ∧ w'.cell? ⟨w.heap.size + 1, 2, none⟩ = some (.string tb) ∧ w'.cell? ⟨w.heap.size + 1, 3, none⟩ = some (.int .i64 eb) ∧ w'.cell? ⟨G, 0, none⟩ = some (.int .i64 0) ∧ w'.cell? ⟨G, 1, none⟩ = some (.bool false) ∧ w'.cell? ⟨G, 2, none⟩ = some (.string ⟨#[]⟩) ∧ w'.cell? ⟨G, 3, none⟩ = some (.int .i64 0) ∧ w'.frozen? ⟨G, 0, none⟩ = false ∧ w'.frozen? ⟨G, 1, none⟩ = false ∧ w'.frozen? ⟨G, 2, none⟩ = false ∧ w'.frozen? ⟨G, 3, none⟩ = false) := by
    intro w' hb
    have Ba8q := Ba8.out.below hb Ba8.out.lt
    have Bb8q := Bb8.out.below hb Bb8.out.lt
    have Br8q := Br8.out.below hb Br8.out.lt
    exact ⟨Ba8q.cell 1, Bb8q.cell 0, Bb8q.cell 1, Bb8q.cell 2, Bb8q.cell 3, Br8q.cell 0, Br8q.cell 1, Br8q.cell 2, Br8q.cell 3, Br8q.free 0, Br8q.free 1, Br8q.free 2, Br8q.free 3⟩
  have b0 : Hid (Below w8.heap.size w8 w8.drew) := bdrewD w8
  have C0 : Hid (∀ X, Hid (Below w8.heap.size w8 X) → Calls Tryz.prog 210 #[dcV 0 nb tb eb] X fun e w' => (∃ o l c, e = .returned (.slice o l c) ∧ Hid (Nt w' (.slice o l c) N)) ∧ Hid (Below w8.heap.size w8 w') ∧ w'.cell? ⟨w.heap.size, 1, none⟩ = some (.bool na) ∧ w'.cell? ⟨w.heap.size + 1, 0, none⟩ = some (.int .i64 0) ∧ w'.cell? ⟨w.heap.size + 1, 1, none⟩ = some (.bool nb) ∧ w'.cell? ⟨w.heap.size + 1, 2, none⟩ = some (.string tb) ∧ w'.cell? ⟨w.heap.size + 1, 3, none⟩ = some (.int .i64 eb) ∧ w'.cell? ⟨G, 0, none⟩ = some (.int .i64 0) ∧ w'.cell? ⟨G, 1, none⟩ = some (.bool false) ∧ w'.cell? ⟨G, 2, none⟩ = some (.string ⟨#[]⟩) ∧ w'.cell? ⟨G, 3, none⟩ = some (.int .i64 0) ∧ w'.frozen? ⟨G, 0, none⟩ = false ∧ w'.frozen? ⟨G, 1, none⟩ = false ∧ w'.frozen? ⟨G, 2, none⟩ = false ∧ w'.frozen? ⟨G, 3, none⟩ = false) := by
    intro X bX
    refine (DU.out X).mono ?_
    rintro e w' ⟨o, l, c, rfl, hz, hb⟩
    have bb := bX.out.trans (hb.mono bX.out.size)
    exact ⟨⟨o, l, c, rfl, hz⟩, bb, HC.out _ bb⟩
  have C1 : Hid (∀ X (o : Option Addr) (l c : Nat), Hid (Below w8.heap.size w8 X) → Nt X (.slice o l c) N → Calls Tryz.prog 113 #[.slice o3 l3 c3, .slice o l c] X fun e w' => (∃ o l c, e = .returned (.slice o l c) ∧ Hid (Nt w' (.slice o l c) ((A / U) * N))) ∧ Hid (Below w8.heap.size w8 w') ∧ w'.cell? ⟨w.heap.size, 1, none⟩ = some (.bool na) ∧ w'.cell? ⟨w.heap.size + 1, 0, none⟩ = some (.int .i64 0) ∧ w'.cell? ⟨w.heap.size + 1, 1, none⟩ = some (.bool nb) ∧ w'.cell? ⟨w.heap.size + 1, 2, none⟩ = some (.string tb) ∧ w'.cell? ⟨w.heap.size + 1, 3, none⟩ = some (.int .i64 eb) ∧ w'.cell? ⟨G, 0, none⟩ = some (.int .i64 0) ∧ w'.cell? ⟨G, 1, none⟩ = some (.bool false) ∧ w'.cell? ⟨G, 2, none⟩ = some (.string ⟨#[]⟩) ∧ w'.cell? ⟨G, 3, none⟩ = some (.int .i64 0) ∧ w'.frozen? ⟨G, 0, none⟩ = false ∧ w'.frozen? ⟨G, 1, none⟩ = false ∧ w'.frozen? ⟨G, 2, none⟩ = false ∧ w'.frozen? ⟨G, 3, none⟩ = false) := by
    intro X o l c bX hz
    refine (nt_muls _ _ _ _ X (YQ8.out.below bX.out) hz SC.out SN.out).mono ?_
    rintro e w' ⟨o, l, c, rfl, hz, hb⟩
    have bb := bX.out.trans (hb.mono bX.out.size)
    exact ⟨⟨o, l, c, rfl, hz⟩, bb, HC.out _ bb⟩
  have C2 : Hid (∀ X (o : Option Addr) (l c : Nat), Hid (Below w8.heap.size w8 X) → Nt X (.slice o l c) ((A / U) * N) → Calls Tryz.prog 112 #[.slice o l c] X fun e w' => e = .returned (.string T) ∧ Hid (Below w8.heap.size w8 w') ∧ w'.cell? ⟨w.heap.size, 1, none⟩ = some (.bool na) ∧ w'.cell? ⟨w.heap.size + 1, 0, none⟩ = some (.int .i64 0) ∧ w'.cell? ⟨w.heap.size + 1, 1, none⟩ = some (.bool nb) ∧ w'.cell? ⟨w.heap.size + 1, 2, none⟩ = some (.string tb) ∧ w'.cell? ⟨w.heap.size + 1, 3, none⟩ = some (.int .i64 eb) ∧ w'.cell? ⟨G, 0, none⟩ = some (.int .i64 0) ∧ w'.cell? ⟨G, 1, none⟩ = some (.bool false) ∧ w'.cell? ⟨G, 2, none⟩ = some (.string ⟨#[]⟩) ∧ w'.cell? ⟨G, 3, none⟩ = some (.int .i64 0) ∧ w'.frozen? ⟨G, 0, none⟩ = false ∧ w'.frozen? ⟨G, 1, none⟩ = false ∧ w'.frozen? ⟨G, 2, none⟩ = false ∧ w'.frozen? ⟨G, 3, none⟩ = false) := by
    intro X o l c bX hz
    refine (nt_text _ _ X hz (HTC.out.below bX.out)).mono ?_
    rintro e w' ⟨rfl, hb⟩
    have bb := bX.out.trans (hb.mono bX.out.size)
    exact ⟨by rw [HTT.out], bb, HC.out _ bb⟩
  have C3 : Hid (∀ X, Hid (Below w8.heap.size w8 X) → Calls Tryz.prog 22 #[.bool na, .string T, .int .i64 eb] X fun e w' => e = .returned (.tuple #[.agg #[.int .i64 (cc : Int), .bool nn, .string D, .int .i64 ee], .int .i64 er]) ∧ Hid (Below w8.heap.size w8 w') ∧ w'.cell? ⟨w.heap.size, 1, none⟩ = some (.bool na) ∧ w'.cell? ⟨w.heap.size + 1, 0, none⟩ = some (.int .i64 0) ∧ w'.cell? ⟨w.heap.size + 1, 1, none⟩ = some (.bool nb) ∧ w'.cell? ⟨w.heap.size + 1, 2, none⟩ = some (.string tb) ∧ w'.cell? ⟨w.heap.size + 1, 3, none⟩ = some (.int .i64 eb) ∧ w'.cell? ⟨G, 0, none⟩ = some (.int .i64 0) ∧ w'.cell? ⟨G, 1, none⟩ = some (.bool false) ∧ w'.cell? ⟨G, 2, none⟩ = some (.string ⟨#[]⟩) ∧ w'.cell? ⟨G, 3, none⟩ = some (.int .i64 0) ∧ w'.frozen? ⟨G, 0, none⟩ = false ∧ w'.frozen? ⟨G, 1, none⟩ = false ∧ w'.frozen? ⟨G, 2, none⟩ = false ∧ w'.frozen? ⟨G, 3, none⟩ = false) := by
    intro X bX
    refine (FI.out X).mono ?_
    rintro e w' ⟨rfl, hb⟩
    have bb := bX.out.trans (hb.mono bX.out.size)
    exact ⟨rfl, bb, HC.out _ bb⟩
  have BRF : Hid (∀ w', Below w8.heap.size w8 w' → Below w.heap.size w w' ∧ Blk w' G #[.int .i64 0, .bool false, .string ⟨#[]⟩, .int .i64 0] 23) := fun w' hb => ⟨HB8.out.trans (hb.mono HB8.out.size), Br8.out.below hb Br8.out.lt⟩
  clear HC YQ8 HTC HTT FI Ba8 Bb8 Br8 HB8 DU SC SN
  go_wp2_with fail
  simp only [← HG.out]
  have mk0 : True := trivial
  go_region_held3 (fun w' => w'.cell? ⟨w.heap.size, 1, none⟩ = some (.bool na) ∧ w'.cell? ⟨w.heap.size + 1, 0, none⟩ = some (.int .i64 0) ∧ w'.cell? ⟨w.heap.size + 1, 1, none⟩ = some (.bool nb) ∧ w'.cell? ⟨w.heap.size + 1, 2, none⟩ = some (.string tb) ∧ w'.cell? ⟨w.heap.size + 1, 3, none⟩ = some (.int .i64 eb)) (go_keep) (first
    | (clear mk0; go_at_call 210; refine (C0.out _ b0).mono ?_; rintro e v1 ⟨⟨o8, l8, c8, rfl, Z8⟩, b1, q0_0, q0_1, q0_2, q0_3, q0_4, q0_5, q0_6, q0_7, q0_8, q0_9, q0_10, q0_11, q0_12⟩; have mk1 : True := trivial)
    | (clear mk1; go_at_call 113; refine (C1.out _ _ _ _ b1 Z8.out).mono ?_; rintro e v2 ⟨⟨o9, l9, c9, rfl, Z9⟩, b2, q1_0, q1_1, q1_2, q1_3, q1_4, q1_5, q1_6, q1_7, q1_8, q1_9, q1_10, q1_11, q1_12⟩; have mk2 : True := trivial)
    | (clear mk2; go_at_call 112; refine (C2.out _ _ _ _ b2 Z9.out).mono ?_; rintro e v3 ⟨rfl, b3, q2_0, q2_1, q2_2, q2_3, q2_4, q2_5, q2_6, q2_7, q2_8, q2_9, q2_10, q2_11, q2_12⟩; have mk3 : True := trivial)
    | (clear mk3; go_at_call 22; refine (C3.out _ b3).mono ?_; rintro e v4 ⟨rfl, b4, q3_0, q3_1, q3_2, q3_3, q3_4, q3_5, q3_6, q3_7, q3_8, q3_9, q3_10, q3_11, q3_12⟩; have mk4 : True := trivial))
  obtain ⟨hbel, hblk⟩ := BRF.out _ b4.out
  have HBL := hide hbel
  have QR := hide hblk
  clear hbel hblk BRF b0 b1 b2 b3 b4 C0 C1 C2 C3
  repeat (first | go_values | go_skip | go_guarded | go_step | go_upon)
  refine bodyPost_ret (results_dec2 rfl _ _ _ _ _ _ _ rfl (QR.out.put4 _ _ _ _)) rfl ?_
  exact ⟨rfl, below_put4 HBL.out gle _ _ _ _⟩

end Go.Proofs.YtobloamnaemfnaaGreatDoor

namespace Go.Proofs.YtobloamnaemfnaaGreatDoor
open Go.RowKit

theorem mode_any (m : Nat) (hm : m < 8) : ∃ f : Nat, (∀ args w, (callFunc f args).run Tryz.prog w = .ok (.enter f args) w) ∧ (∀ W, Calls Tryz.prog 207 #[.int .i64 (m : Int)] W fun e w' => e = .returned (.func (.func f) #[.int .i64 (m : Int)] #[]) ∧ Below W.heap.size W w') ∧ ∀ (ng od : Bool) (hf : Int), (hf = -1 ∨ hf = 0 ∨ hf = 1) → ∀ W, Calls Tryz.prog f #[.int .i64 (m : Int), .agg #[.bool ng, .bool od, .int .i64 hf]] W fun e w' => e = .returned (.bool (leavesB m ng od hf)) ∧ Below W.heap.size W w' := by
  rcases (by omega : m = 0 ∨ m = 1 ∨ m = 2 ∨ m = 3 ∨ m = 4 ∨ m = 5 ∨ m = 6 ∨ m = 7) with rfl | rfl | rfl | rfl | rfl | rfl | rfl | rfl
  · exact ⟨232, fun args w => by kernel_rfl, fun W => leaves_0 W, fun ng od hf hh W => mode_0 ng od hf W hh⟩
  · exact ⟨232, fun args w => by kernel_rfl, fun W => leaves_1 W, fun ng od hf hh W => mode_1 ng od hf W hh⟩
  · exact ⟨233, fun args w => by kernel_rfl, fun W => leaves_2 W, fun ng od hf hh W => mode_2 ng od hf W hh⟩
  · exact ⟨233, fun args w => by kernel_rfl, fun W => leaves_3 W, fun ng od hf hh W => mode_3 ng od hf W hh⟩
  · exact ⟨234, fun args w => by kernel_rfl, fun W => leaves_4 W, fun ng od hf hh W => mode_4 ng od hf W hh⟩
  · exact ⟨235, fun args w => by kernel_rfl, fun W => leaves_5 W, fun ng od hf hh W => mode_5 ng od hf W hh⟩
  · exact ⟨235, fun args w => by kernel_rfl, fun W => leaves_6 W, fun ng od hf hh W => mode_6 ng od hf W hh⟩
  · exact ⟨234, fun args w => by kernel_rfl, fun W => leaves_7 W, fun ng od hf hh W => mode_7 ng od hf W hh⟩

theorem cmpN_three (x y : Nat) : cmpN x y = -1 ∨ cmpN x y = 0 ∨ cmpN x y = 1 := by
  unfold cmpN
  split
  · exact .inl rfl
  · split
    · exact .inr (.inr rfl)
    · exact .inr (.inl rfl)

theorem may_fin {d : DecT} (h : May d) (h0 : d.dig ≠ []) : Fin d := by
  rcases may_cases h with ⟨n, rfl⟩ | h | ⟨n, rfl⟩ | rfl
  · exact absurd rfl h0
  · exact h
  · exact absurd rfl h0
  · exact absurd rfl h0

theorem mult_any (d : DecT) (hd : May d) (nb : Bool) (tb : ByteArray) (eb : Int) (m : Nat) (w : World) (hm : m < 8) (hok : OkT (bys tb)) (h48 : byt (bys tb) 0 ≠ 48) (hs : tb.size ≤ 32) (h1 : -4000 ≤ eb) (h2 : eb ≤ 4000) (htab : Tab w) :
    Calls Tryz.prog 170 #[decVal d, dcV 0 nb tb eb, .int .i64 (m : Int)] w fun e w' => e = .returned (decErr (rndD d (decV (bys tb)) eb m)) ∧ Below w.heap.size w w' := by
  by_cases hz : d.dig = []
  · rw [rndD_zero hz]
    have := mult_nil (d.cls : Int) d.neg d.exp nb tb eb (m : Int) w
    unfold decErr decVal
    rw [hz]
    exact this
  · have hf := may_fin hd hz
    have l1 := hf.len
    have l2 := hf.lo
    have l3 := hf.hi
    have bm : bys ⟨d.dig.toArray⟩ = d.dig := bys_mk _
    have sm0 : (⟨d.dig.toArray⟩ : ByteArray).size = d.dig.length := size_mk0 _
    have lp := List.length_pos_iff.2 hz
    obtain ⟨ka, hka⟩ : ∃ ka : Nat, ka = (d.exp - min d.exp eb).toNat := ⟨_, rfl⟩
    obtain ⟨ku, hku⟩ : ∃ ku : Nat, ku = (eb - min d.exp eb).toNat := ⟨_, rfl⟩
    obtain ⟨N, hN⟩ : ∃ N, N = decV (bys tb) := ⟨_, rfl⟩
    have n0 : N ≠ 0 := by rw [hN]; exact decV_ne hok.1 h48 hok.2.2
    have a1 := decV_lt _ d.dig rfl hf.dig
    have u1 := decV_lt _ (bys tb) rfl hok.2.2
    rw [bys_len, ← hN] at u1
    obtain ⟨A, hA⟩ : ∃ A, A = decV d.dig * 10 ^ ka := ⟨_, rfl⟩
    obtain ⟨U, hU⟩ : ∃ U, U = N * 10 ^ ku := ⟨_, rfl⟩
    have bA : A < 10 ^ (d.dig.length + ka) := by
      rw [hA, Nat.pow_add]
      exact Nat.mul_lt_mul_of_pos_right a1 (Nat.pow_pos (by omega))
    have bU : U < 10 ^ (tb.size + ku) := by
      rw [hU, Nat.pow_add]
      exact Nat.mul_lt_mul_of_pos_right u1 (Nat.pow_pos (by omega))
    have u0 : U ≠ 0 := by rw [hU]; exact Nat.mul_ne_zero n0 (Nat.ne_of_gt (Nat.pow_pos (by omega)))
    have sA : Sm A := Sm.of bA (by omega)
    have sU : Sm U := Sm.of bU (by omega)
    have bA1 : A + 1 < 10 ^ (d.dig.length + ka + 1) := by rw [Nat.pow_succ]; omega
    have sA1 : Sm (A + 1) := Sm.of bA1 (by omega)
    have bR : A % U < U := Nat.mod_lt _ (Nat.pos_of_ne_zero u0)
    have sR : Sm (A % U + A % U) := Sm.of (k := tb.size + ku + 1) (by rw [Nat.pow_succ]; omega) (by omega)
    have sN : Sm N := Sm.of u1 (by omega)
    have CA := fun W => rcounted_any (d.cls : Int) d.neg ⟨d.dig.toArray⟩ d.exp (min d.exp eb) (decV d.dig) ka W (by rw [sm0]; omega) (by rw [bm]; exact hf.okT) (by rw [bm]) (by omega) (by omega) (Sm.of a1 (by omega)) (Sm.of (k := ka + 1) (by rw [Nat.pow_succ]; have := Nat.pow_pos (n := ka) (show 0 < 10 by omega); omega) (by omega))
    have CU := fun W => rcounted_any 0 nb tb eb (min d.exp eb) N ku W (by omega) hok hN.symm (by omega) (by omega) sN (Sm.of (k := ku + 1) (by rw [Nat.pow_succ]; have := Nat.pow_pos (n := ku) (show 0 < 10 by omega); omega) (by omega))
    rw [← hA] at CA
    rw [← hU] at CU
    have DU := fun W => digitsOf_any 0 nb tb eb N W (by omega) hok hN.symm
    have z0 : (⟨d.dig.toArray⟩ : ByteArray).size ≠ 0 := by rw [sm0]; omega
    have hsz : ∀ c, c ≤ A + 1 → (Lib.decDigits (c * N)).length ≤ 100000 := by
      intro c hc
      have q : c * N < 10 ^ (d.dig.length + ka + 1 + tb.size) := by
        rw [Nat.pow_add]
        refine Nat.lt_of_le_of_lt (Nat.mul_le_mul_right _ hc) ?_
        exact Nat.lt_of_le_of_lt (Nat.mul_le_mul_left _ (Nat.le_of_lt u1)) (Nat.mul_lt_mul_of_pos_right bA1 (Nat.pow_pos (by omega)))
      have := sizeN_le q (by omega)
      unfold sizeN at this
      omega
    have dq : A / U ≤ A := Nat.div_le_self _ _
    by_cases hr : A % U = 0
    · rw [rndD_exact hf m (by rw [← hN, ← hka, ← hku, ← hA, ← hU]; exact hr)]
      exact mult_exact (d.cls : Int) d.neg ⟨d.dig.toArray⟩ d.exp nb tb eb (m : Int) A U w z0 CA CU sA sU u0 hr
    · rw [rndD_fin hz, ← hN, ← hka, ← hku, ← hA, ← hU]
      obtain ⟨f, f1, f2, f3⟩ := mode_any m hm
      have f4 := f3 d.neg (decide (A / U % 2 = 1)) (cmpN (A % U + A % U) U) (cmpN_three _ _)
      unfold rndN
      rw [if_neg hr]
      cases hb : leavesB m d.neg (decide (A / U % 2 = 1)) (cmpN (A % U + A % U) U)
      · rw [hb] at f4
        rw [if_neg (by simp), Nat.add_zero]
        exact mult_in (d.cls : Int) d.neg ⟨d.dig.toArray⟩ d.exp nb tb eb (m : Int) A U w z0 CA CU sA sU u0 hr sR f f1 f2 f4 N sN DU htab (hsz _ (by omega)) (by omega)
      · rw [hb] at f4
        rw [if_pos rfl]
        exact mult_up (d.cls : Int) d.neg ⟨d.dig.toArray⟩ d.exp nb tb eb (m : Int) A U w z0 CA CU sA sU u0 hr sR f f1 f2 f4 N sN DU htab (hsz _ (by omega)) (by omega) sA1

end Go.Proofs.YtobloamnaemfnaaGreatDoor
