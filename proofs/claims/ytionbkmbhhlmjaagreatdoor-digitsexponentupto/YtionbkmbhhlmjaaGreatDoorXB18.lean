/-
  What the reference's Add does: the sum, digit by digit.
  What the reference's Mul does: the product, digit by digit.
  What the reference's by does: the quotient by 10000, and the rest.
  What the reference's Text does: the number's decimal digits.
  What quipuref05's Number answers of any int.
  What quipuref16's Exponent answers.
-/
import Derived.Test.YtionbkmbhhlmjaaGreatDoorXOut
import Derived.Test.YtionbkmbhhlmjaaGreatDoorXB6
import Derived.Laws.BitsAllLaws
import Derived.Test.YtionbkmbhhlmjaaGreatDoorXB2
import Derived.Deep.QuietTactic
import Derived.BigQuiet
import Derived.WalkSmall
import Derived.Test.YtionbkmbhhlmjaaGreatDoorXB5
import Derived.Test.YtionbkmbhhlmjaaGreatDoorXB7
import Derived.Laws.BytesArg
import Derived.Test.YtionbkmbhhlmjaaGreatDoorXB17
import Derived.Test.YtionbkmbhhlmjaaGreatDoorXB16
namespace Go.Proofs.YtionbkmbhhlmjaaGreatDoor
open Go.RowKit

end Go.Proofs.YtionbkmbhhlmjaaGreatDoor

namespace Go.Proofs.YtionbkmbhhlmjaaGreatDoor
open Go.RowKit

end Go.Proofs.YtionbkmbhhlmjaaGreatDoor

namespace Go.Proofs.YtionbkmbhhlmjaaGreatDoor
open Go.RowKit

def ByPost (w : World) (m n : Nat) (e : Ending) (w' : World) : Prop :=
  ∃ g ys cap, e = .returned (.tuple #[.slice (some ⟨g, 0, none⟩) (List.length ys) cap, .int .u32 ((n % 10000 : Nat) : Int)]) ∧ w.heap.size ≤ g ∧ g < w'.heap.size ∧ ys.length ≤ cap ∧ At .u32 w' (some ⟨g, 0, none⟩) ys ∧ Is 65536 ys (n / 10000) ∧ ys.length ≤ m ∧ Below w.heap.size w w'

structure ByIn (w : World) (xs : List Nat) (la k r : Nat) (wr : World) : Prop where
  bel : Below w.heap.size w wr
  small : r < 10000
  row : ∃ q, Row .u32 96 wr w.heap.size q ∧ q.length = la ∧ Ok 65536 q ∧ (∀ j, j < k → dg q j = 0) ∧ num 65536 q * 10000 + r * 65536 ^ k + V 65536 (dg xs) k = num 65536 xs

set_option maxRecDepth 20000 in
theorem by_step {B q r a k v N : Nat} (h : q * 10000 + r * B ^ (k + 1) + (v + a * B ^ k) = N) :
    (q + (r * B + a) / 10000 * B ^ k) * 10000 + (r * B + a) % 10000 * B ^ k + v = N := by
  have h1 := Nat.div_add_mod (r * B + a) 10000
  rw [Nat.pow_succ] at h
  generalize B ^ k = P at h ⊢
  generalize hx : r * B + a = x at h1 ⊢
  generalize x / 10000 = u at h1 ⊢
  generalize x % 10000 = t at h1 ⊢
  have h2 : (10000 * u + t) * P = (r * B + a) * P := by rw [h1, hx]
  rw [Nat.add_mul, Nat.add_mul, Nat.mul_assoc r, Nat.mul_comm B P, Nat.mul_assoc 10000] at h2
  rw [Nat.add_mul, Nat.mul_comm (u * P)]
  generalize u * P = U at h2 ⊢
  generalize t * P = T at h2 ⊢
  generalize a * P = A at h h2
  generalize r * (P * B) = R at h h2
  clear h1 hx
  rw [Nat.mul_comm q] at h ⊢
  omega

theorem ByIn.step {w wr wr' : World} {xs : List Nat} {la k r : Nat} (hb : Below w.heap.size w wr) (hr : r < 10000) (hk : k < la) {q : List Nat} (hq : Row .u32 96 wr w.heap.size q) (hl : q.length = la) (ho : Ok 65536 q) (hz : ∀ j, j < k + 1 → dg q j = 0)
    (hn : num 65536 q * 10000 + r * 65536 ^ (k + 1) + V 65536 (dg xs) (k + 1) = num 65536 xs) (hx : dg xs k < 65536)
    (hw : Like wr' (wr.setCell ⟨w.heap.size, k, none⟩ (.int .u32 (((r * 65536 + dg xs k) / 10000 : Nat) : Int)))) :
    ByIn w xs la k ((r * 65536 + dg xs k) % 10000) wr' := by
  refine ⟨hw.below (hb.setCell (Nat.le_refl _) _), Nat.mod_lt _ (by omega), _, (hq.set k _).alike hw, by simp [hl], ho.set (by omega) (by omega), ?_, ?_⟩
  · intro j hj
    rw [dg_set _ _ _ _ (by omega), if_neg (by omega)]
    exact hz j (by omega)
  · have e := num_set 65536 q k ((r * 65536 + dg xs k) / 10000) (by omega)
    rw [hz k (by omega), Nat.zero_mul, Nat.add_zero] at e
    rw [e]
    exact by_step hn

theorem by_or {r a : Nat} (hr : r < 10000) (ha : a < 65536) : bits .or .u32 ((r : Int) * 65536) (a : Int) = ((r * 65536 + a : Nat) : Int) := by
  rw [show (r : Int) * 65536 = ((r * 65536 : Nat) : Int) by omega, u32_or_nat _ _ (by omega) (by omega), Nat.or_comm]
  have h := or_low (y := a) (a := r) (s := 16) (by simpa using ha)
  rw [show (2 : Nat) ^ 16 = 65536 by decide +kernel] at h
  rw [h, Nat.add_comm]

set_option maxRecDepth 100000 in
set_option maxHeartbeats 1000000 in
theorem by_at (b o la ca : Nat) (xs : List Nat) (w : World) (hla : la ≤ 100000000) (hx : xs.length = la) (hb : b < w.heap.size)
    (hcell : ∀ i, i < la → w.cell? ⟨b, o + i, none⟩ = some (.int .u32 ((dg xs i : Nat) : Int))) (ox : Ok 65536 xs) :
    Calls Tryz.prog 48 #[.slice (some ⟨b, o, none⟩) la ca, .int .u32 10000] w (ByPost w la (num 65536 xs)) := by
  obtain ⟨i0, hi, hz0, hz1, hz2⟩ := info_parts Tryz.infoD
  go_enter Tryz.func48, Tryz.ntmps48
  go_wp2_with (at_make; refine wpList_make_full _ rfl _ _ 77 rfl w.heap.size 96 i0 (.int .u32 0) 1 Tryz.underlying77 hi hz0 hz1 _ _ _ _ la rfl rfl (by omega) (by omega) (by rw [hz2]; omega) (by unfold maxLen; omega) (Nat.le_refl _) ?_)
  intro w1 hown hgrow
  have hr1 : Row .u32 96 w1 w.heap.size (List.replicate la 0) := Row.made hown
  have hbl1 : Below w.heap.size w w1 := (Below.refl _ _).grown hgrow (Nat.le_refl _) (fun k hk => by cases hk)
  have HST : Hid (ByIn w xs la la 0 w1) := ⟨hbl1, by omega, _, hr1, by simp, Ok.replicate (by omega) la, fun j _ => dg_replicate la j, by rw [num_replicate, ← hx]; simp [num]⟩
  clear hown hgrow hr1 hbl1
  go_wp2
  go_loopw [7, 8, 9] (fun rv i _ wr => ∃ k r : Nat, k ≤ la ∧ rv = .int .u32 (r : Int) ∧ i = .int .i64 ((k : Int) - 1) ∧ ByIn w xs la k r wr) (fun _ i _ _ => (intOf i + 1).toNat)
  case atStart => exact ⟨la, 0, Nat.le_refl _, rfl, rfl, HST.out⟩
  case round =>
    clear HST
    obtain ⟨k, r, hk, rfl, rfl, hin⟩ := hrel
    obtain ⟨q, hq, hql, hqo, hqz, hqn⟩ := hin.row
    have hbr := hin.bel
    have hrs := hin.small
    rcases k with _ | k
    · obtain ⟨n, hn⟩ : ∃ n, n = num 65536 xs := ⟨_, rfl⟩
      rw [Nat.pow_zero, Nat.mul_one, show V 65536 (dg xs) 0 = 0 from rfl, Nat.add_zero, ← hn] at hqn
      have e1 : num 65536 q = n / 10000 := by omega
      have e2 : r = n % 10000 := by omega
      rw [hn] at e1 e2
      have hat := hq.at
      have HIS : Hid (Is 65536 (trimmed q) (num 65536 xs / 10000)) := by rw [← e1]; exact Is.trimmed hqo
      have HE2 : Hid (r = num 65536 xs % 10000) := e2
      have hg := hq.lt
      have HLE : Hid ((trimmed q).length ≤ la) := by rw [← hql]; exact length_trimmed_le q
      have HTL : Hid ((trimmed q).length = tops q la) := by rw [← hql]; exact length_trimmed q
      have HAT := hide hat.trimmed
      have hcq : ∀ i, i < la → wr.cell? ⟨w.heap.size, i, none⟩ = some (.int .u32 ((q[i]?.getD 0 : Nat) : Int)) := fun i hi => by have := hq.cell i (by omega); exact this
      have HCQ := hide hcq
      clear hin hq hqo hqz hqn hat e1 e2 hn hcq hcell
      go_wp2
      go_loop [10] (fun n => ∃ k : Nat, k ≤ la ∧ n = .int .i64 k ∧ tops q la = tops q k) (fun n => (intOf n).toNat)
      case atStart => exact ⟨la, Nat.le_refl _, rfl, rfl⟩
      case round =>
        obtain ⟨k, hk, rfl, ht⟩ := hrel
        have HT : Hid (tops q la = tops q k) := ht
        clear ht
        have htl := tops_le q k
        rcases k with _ | k
        · have et : tops q la = 0 := by rw [HT.out]; rfl
          have HET := hide et
          clear et
          go_wp2
          go_ret2
          exact ⟨w.heap.size, trimmed q, la, by rw [HTL.out, HET.out, HE2.out]; rfl, Nat.le_refl _, hg, HLE.out, HAT.out, HIS.out, HLE.out, hbr⟩
        · have hck := HCQ.out k (by omega)
          have hpos : (0 : Int) < ((k + 1 : Nat) : Int) := by omega
          by_cases hz : q[k]?.getD 0 = 0
          · rw [hz] at hck
            have HT2 : Hid (tops q la = tops q k) := by rw [HT.out]; simp [tops, hz, Hid]
            go_wp2
            go_round
            case rel => exact ⟨k, by omega, by go_num, HT2.out⟩
            case measure => simp [intOf]
          · have HET : Hid (tops q la = k + 1) := by rw [HT.out]; simp [tops, hz, Hid]
            go_wp2
            go_ret2
            exact ⟨w.heap.size, trimmed q, la, by rw [HTL.out, HET.out, HE2.out]; rfl, Nat.le_refl _, hg, HLE.out, HAT.out, HIS.out, HLE.out, hbr⟩
    · have c0 : wr.cell? ⟨b, o + k, none⟩ = some (.int .u32 ((dg xs k : Nat) : Int)) := (hbr.cell hb).trans (hcell k (by omega))
      have c3 := hq.cell k (by omega)
      have f3 := hq.free k
      rw [hqz k (by omega)] at c3
      have hst := fun wr' hw => ByIn.step (wr' := wr') hbr hrs (by omega) hq hql hqo hqz hqn (ox k) hw
      obtain ⟨a, ha⟩ : ∃ a, a = dg xs k := ⟨_, rfl⟩
      have hal : a < 65536 := by rw [ha]; exact ox k
      rw [← ha] at c0 hst
      have e1 := by_or hrs hal
      obtain ⟨x, hxx⟩ : ∃ x, x = r * 65536 + a := ⟨_, rfl⟩
      rw [← hxx] at e1 hst
      have hxl : x < 655360000 := by omega
      obtain ⟨d, hd⟩ : ∃ d, d = x / 10000 := ⟨_, rfl⟩
      obtain ⟨m, hm⟩ : ∃ m, m = x % 10000 := ⟨_, rfl⟩
      rw [← hd, ← hm] at hst
      have e2 : (x : Int) / 10000 = (d : Int) := by omega
      have e3 : (x : Int) % 10000 = (m : Int) := by omega
      have HS : Hid (∀ wr', Like wr' (wr.setCell ⟨w.heap.size, k, none⟩ (.int .u32 (d : Int))) → ByIn w xs la k m wr') := hst
      have hkl : (k : Int) < (la : Int) := by omega
      clear hst hin hq hqo hqz hqn ha hxx hd hm hcell ox
      go_wp2
      go_roundw
      case rel => exact ⟨k, m, by omega, by rw [e3], by go_num, HS.out _ ⟨rfl, rfl, rfl, rfl⟩⟩
      case measure => simp [intOf]

end Go.Proofs.YtionbkmbhhlmjaaGreatDoor

namespace Go.Proofs.YtionbkmbhhlmjaaGreatDoor
open Go.RowKit

def G8 (w wr : World) (v : Value) (ys : List Nat) : Prop := Below w.heap.size w wr ∧ wr.ownsRow w.heap.size 5 1 v ys.length (vals .u8 ys)

theorem G8.at {w wr : World} {v : Value} {ys : List Nat} (h : G8 w wr v ys) : ∃ ao cap, v = .slice ao ys.length cap ∧ ys.length ≤ cap ∧ At .u8 wr ao ys := by
  obtain ⟨hb, hl, ho⟩ := h
  rcases ho with ⟨rfl, h0⟩ | ⟨g, cap, cur, rfl, hg, hh, hn, _, hs, ht⟩
  · obtain rfl : ys = [] := List.length_eq_zero_iff.1 h0
    exact ⟨none, 0, rfl, Nat.le_refl _, At.nil _ _ _⟩
  · refine ⟨_, cap, rfl, hn, .inr ⟨g, 0, rfl, lt_of_block hh, fun i hi => ?_⟩⟩
    simp only [World.cell?, hh]
    have hc : cur[i]? = (vals .u8 ys)[i]? := by
      rw [← ht, List.getElem?_take_of_lt (by omega), Array.getElem?_toList]
    simp only [Option.isSome_none, Bool.false_eq_true, if_false, Nat.zero_add, hc]
    simp [vals, hi]

theorem G8.step {w wr w1 : World} {v v' : Value} {ys : List Nat} {d : Nat} (o : Obj) (h : G8 w wr v ys) (ho : w1.ownsRow w.heap.size 5 1 v' (ys.length + 1) (vals .u8 ys ++ [.int .u8 (d : Int)])) (hg : (wr.alloc o).grownBy w1 v.ownBlock) :
    G8 w w1 v' (ys ++ [d]) := by
  have hb := h.1.alloc (h.1.size) o
  refine ⟨hb.grown hg hb.size ?_, ?_⟩
  · intro k hk
    rcases h.2.2 with ⟨rfl, _⟩ | ⟨g, cap, cur, rfl, hgb, _⟩
    · simp [Value.ownBlock] at hk
    · simp [Value.ownBlock] at hk; omega
  · rw [List.length_append]
    have : vals .u8 (ys ++ [d]) = vals .u8 ys ++ [.int .u8 (d : Int)] := by simp [vals]
    rw [this]; exact ho

theorem G8.below {w wr w' : World} {v : Value} {ys : List Nat} (h : G8 w wr v ys) (hb : Below wr.heap.size wr w') : G8 w w' v ys := by
  refine ⟨h.1.trans (hb.mono h.1.size), h.2.kept (row := none) ⟨hb.os, hb.tape, hb.output, hb.size, fun k hk _ => hb.block k hk⟩ ?_⟩
  cases hv : v.ownBlock with
  | none => exact .inl rfl
  | some g => exact .inr (by simp)

theorem Tryz.infoB : (Tryz.prog.info? 5).map (fun i => (i.zero, i.size, i.bytes)) = some (some (.int .u8 0), 1, 1) := by kernel_rfl

theorem At.keep32 {wr w1 : World} {v : Value} {xs : List Nat} {g : Nat} (o : Obj) (hg : (wr.alloc o).grownBy w1 v.ownBlock) (hat : At .u32 wr (some ⟨g, 0, none⟩) xs) (hne : v.ownBlock ≠ some g) : At .u32 w1 (some ⟨g, 0, none⟩) xs := by
  rcases hat with h' | ⟨b, o', h1, h2, h3⟩
  · exact .inl h'
  · refine .inr ⟨b, o', h1, Nat.lt_of_lt_of_le h2 (Nat.le_trans (by simp) hg.size), fun i hi => ?_⟩
    have hb : b = g := by simp only [Option.some.injEq, Addr.mk.injEq] at h1; omega
    rw [World.cell?_of_block (w := wr) ((hg.block b (by simp; omega) (fun e => hne (by rw [← hb]; exact e.symm))).trans (Below.heap_alloc _ _ _ h2))]
    exact h3 i hi

def lowD (N n : Nat) : List Nat := mk (fun j => 48 + N / 10 ^ j % 10) n

theorem lowD_len (N n : Nat) : (lowD N n).length = n := mk_len _ _
theorem lowD_succ (N n : Nat) : lowD N (n + 1) = lowD N n ++ [48 + N / 10 ^ n % 10] := mk_succ _ _
theorem lowD_get (N n j : Nat) (h : j < n) : (lowD N n)[j]?.getD 0 = 48 + N / 10 ^ j % 10 := dg_mk _ n j h

structure TxtIn (w : World) (N k g : Nat) (ys : List Nat) (t : Nat) (low : Value) (wr : World) : Prop where
  gr : G8 w wr low (lowD N (4 * k + t))
  at' : At .u32 wr (some ⟨g, 0, none⟩) ys
  lt : g < wr.heap.size
  ne : low.ownBlock ≠ some g

structure TxtOut (w : World) (N la k : Nat) (a low : Value) (wr : World) : Prop where
  rst : ∃ o c ys, a = .slice o (List.length ys) c ∧ ys.length ≤ la ∧ At .u32 wr o ys ∧ Is 65536 ys (N / 10000 ^ k) ∧ ∀ b o', ys ≠ [] → o = some ⟨b, o', none⟩ → low.ownBlock ≠ some b
  gr : G8 w wr low (lowD N (4 * k))
  top : ∀ j, k = j + 1 → N / 10000 ^ j ≠ 0

theorem txt_few {N k la : Nat} (hN : N < 65536 ^ la) (ht : ∀ j, k = j + 1 → N / 10000 ^ j ≠ 0) : k ≤ 2 * la + 1 := by
  rcases k with _ | j
  · omega
  · have h := ht j rfl
    have h1 : 10000 ^ j ≤ N := by
      rcases Nat.lt_or_ge N (10000 ^ j) with h' | h'
      · exact absurd (Nat.div_eq_of_lt h') h
      · exact h'
    have h2 : (65536 : Nat) ≤ 10000 ^ 2 := by decide +kernel
    have h3 : 65536 ^ la ≤ (10000 ^ 2) ^ la := Nat.pow_le_pow_left h2 la
    rw [← Nat.pow_mul] at h3
    rcases Nat.lt_or_ge j (2 * la) with h' | h'
    · omega
    · have := Nat.pow_le_pow_right (show 0 < 10000 by decide) h'; omega

theorem pow4 (k : Nat) : (10000 : Nat) ^ k = 10 ^ (4 * k) := by rw [Nat.pow_mul]

theorem txt_digit (N k t : Nat) (ht : t < 4) : N / 10000 ^ k % 10000 / 10 ^ t % 10 = N / 10 ^ (4 * k + t) % 10 := by
  rw [Nat.pow_add, ← Nat.div_div_eq_div_mul, ← pow4]
  generalize N / 10000 ^ k = M
  rcases (show t = 0 ∨ t = 1 ∨ t = 2 ∨ t = 3 by omega) with rfl | rfl | rfl | rfl
  · show M % 10000 / 1 % 10 = M / 1 % 10; omega
  · show M % 10000 / 10 % 10 = M / 10 % 10; omega
  · show M % 10000 / 100 % 10 = M / 100 % 10; omega
  · show M % 10000 / 1000 % 10 = M / 1000 % 10; omega

def padB (m r : Nat) : List Nat := (padD m r).map UInt8.toNat

theorem padB_succ (m r : Nat) : padB (m + 1) r = padB m (r / 10) ++ [48 + r % 10] := by
  unfold padB
  rw [padD, List.map_append]
  simp
  omega

theorem padB_len : ∀ m r : Nat, (padB m r).length = m
  | 0, _ => rfl
  | m + 1, r => by rw [padB_succ, List.length_append, padB_len m]; rfl

theorem padB_str (N j : Nat) (h1 : N < 10 ^ (j + 1)) (h2 : 10 ^ j ≤ N) : strOfNums ((padB (j + 1) N).map fun (x : Nat) => (x : Int)) = ⟨(Lib.decDigits N).toArray⟩ := by
  have hl : (Lib.decDigits N).length = j + 1 := by rw [Lib.decDigits_length]; exact Lib.nDigits_unique j N h2 h1
  have hp := padD_eq (j + 1) N (by omega) h1
  rw [hl, Nat.sub_self] at hp
  unfold padB
  rw [hp]
  simp only [List.replicate_zero, List.nil_append, List.map_map]
  apply ByteArray.ext
  apply Array.toList_inj.1
  rw [strOfNums_data, List.map_map]
  show _ = Lib.decDigits N
  conv => rhs; rw [← List.map_id (Lib.decDigits N)]
  apply List.map_congr_left
  intro x _
  simp

set_option maxRecDepth 100000 in
set_option maxHeartbeats 2000000 in
theorem rtext_any (ao : Option Addr) (la ca N : Nat) (xs : List Nat) (w : World) (hla : la ≤ 10000000) (hx : xs.length = la) (hax : At .u32 w ao xs) (his : Is 65536 xs N) :
    Calls Tryz.prog 35 #[.slice ao la ca] w fun e w' => e = .returned (.string ⟨(Lib.decDigits N).toArray⟩) ∧ Below w.heap.size w w' := by
  obtain ⟨i0, hi, hz0, hz1, hz2⟩ := info_parts Tryz.infoB
  have HN : Hid (N < 65536 ^ la) := by rw [← his.2.2, ← hx]; exact num_lt his.1
  have HST : Hid (TxtOut w N la 0 (.slice ao la ca) (.slice (some ⟨w.heap.size, 0, none⟩) 0 0) (w.alloc (.cells #[] 5))) := by
    refine ⟨⟨ao, ca, xs, by rw [hx], by omega, hax.alloc _, by simpa using his, ?_⟩, ⟨(Below.refl _ _).alloc (Nat.le_refl _) _, World.ownsRow_lit _ #[] 0 (Nat.le_refl _) (by unfold maxLen; omega) rfl⟩, fun j hj => by omega⟩
    intro b o' hne e h
    rcases hax with h1 | ⟨b', o'', h1, h2, _⟩
    · exact hne h1
    · rw [e] at h1
      simp only [Option.some.injEq, Addr.mk.injEq] at h1
      simp [Value.ownBlock] at h
      omega
  clear hax his
  go_enter Tryz.func35, Tryz.ntmps35
  go_wp2
  go_loopw [0, 3, 4, 5, 6] (fun a low _ _ _ wr => ∃ k : Nat, TxtOut w N la k a low wr) (fun _ low _ _ _ _ => 8 * la + 8 - lenV low)
  case atStart => exact ⟨0, HST.out⟩
  case round =>
    clear HST
    obtain ⟨wq, hwq⟩ : ∃ x, x = wr := ⟨_, rfl⟩
    subst hwq
    obtain ⟨k, ⟨⟨o, c, ys, rfl, hyl, hyat, hyis, hyne⟩, hgr, htop⟩⟩ := hrel
    have hk := txt_few HN.out htop
    obtain ⟨lo, lc, rfl, hlc, hlat⟩ := hgr.at
    rw [lowD_len] at *
    have hbel := hgr.1
    have hsz := hbel.size
    by_cases hy0 : ys.length = 0
    · have hN : N < 10 ^ (4 * k) := by
        have h1 : N / 10000 ^ k = 0 := by
          rw [← hyis.2.2]
          rw [List.length_eq_zero_iff.1 hy0]; rfl
        rw [pow4] at h1
        rcases Nat.lt_or_ge N (10 ^ (4 * k)) with h | h
        · exact h
        · have := Nat.div_pos h (Nat.pow_pos (show 0 < 10 by omega)); omega
      have HN0 := hide hN
      rw [hy0]
      have HLAT := hide hlat
      have HBEL := hide hbel
      clear hyis hyne hyat hgr htop hN hlat hbel hyl hy0
      go_wp2
      go_loop [7] (fun n => ∃ j : Nat, j ≤ 4 * k ∧ n = .int .i64 j ∧ N < 10 ^ j) (fun n => (intOf n).toNat)
      case atStart => exact ⟨4 * k, Nat.le_refl _, by go_num, HN0.out⟩
      case round =>
        clear HN0
        obtain ⟨j, hj, rfl, hNj⟩ := hrel
        have HNJ := hide hNj
        clear hNj
        rcases j with _ | j
        · have hz : N = 0 := by have := HNJ.out; simp at this; exact this
          have hd : (⟨#[48]⟩ : ByteArray) = ⟨(Lib.decDigits N).toArray⟩ := by rw [hz, Lib.decDigits_one (by omega)]; rfl
          have HD := hide hd
          clear hd hz
          go_wp2
          go_ret
          exact ⟨by rw [← HD.out]; rfl, HBEL.out⟩
        · obtain ⟨lb, lf, rfl, hlb, hlcell⟩ : ∃ lb lf, lo = some ⟨lb, lf, none⟩ ∧ lb < wq.heap.size ∧ ∀ i, i < 4 * k → wq.cell? ⟨lb, lf + i, none⟩ = some (.int .u8 ((48 + N / 10 ^ i % 10 : Nat) : Int)) := by
            rcases HLAT.out with h | ⟨b, f, h1, h2, h3⟩
            · have := lowD_len N (4 * k); rw [h] at this; simp at this; omega
            · exact ⟨b, f, h1, h2, fun i hi => by rw [h3 i (by rw [lowD_len]; exact hi), lowD_get N _ i hi]⟩
          have c0 := hlcell j (by omega)
          have HLC := hide hlcell
          have hpos : (0 : Int) < ((j + 1 : Nat) : Int) := by omega
          have hjl : (j : Int) < ((4 * k : Nat) : Int) := by omega
          obtain ⟨x, hx'⟩ : ∃ x, x = N / 10 ^ j % 10 := ⟨_, rfl⟩
          rw [← hx'] at c0
          have hx10 : x < 10 := by rw [hx']; exact Nat.mod_lt _ (by omega)
          have hq : N / 10 ^ j < 10 := by
            have := HNJ.out
            rw [Nat.pow_succ] at this
            exact (Nat.div_lt_iff_lt_mul (Nat.pow_pos (by omega))).2 (by rw [Nat.mul_comm]; exact this)
          clear hlcell
          by_cases hx0 : x = 0
          · have HN1 : Hid (N < 10 ^ j) := by
              have h1 : N / 10 ^ j = 0 := by rw [Nat.mod_eq_of_lt hq] at hx'; rw [← hx']; exact hx0
              rcases Nat.lt_or_ge N (10 ^ j) with h | h
              · exact h
              · have := Nat.div_pos h (Nat.pow_pos (show 0 < 10 by omega)); omega
            rw [hx0] at c0
            clear hx' hq
            go_wp2
            go_round
            case rel => exact ⟨j, by omega, by go_num, HN1.out⟩
            case measure => simp [intOf]
          · have hge : 10 ^ j ≤ N := by
              rcases Nat.lt_or_ge N (10 ^ j) with h | h
              · rw [Nat.div_eq_of_lt h] at hx'; exact absurd (by simpa using hx') hx0
              · exact h
            have hc48 : (((48 + x : Nat) : Int) == 48) = false := by rw [beq_eq_false_iff_ne]; omega
            have HSTR := hide (padB_str N j HNJ.out hge)
            have HS0 : Hid (G8 wq (wq.alloc (.cells #[] 5)) (.slice (some ⟨wq.heap.size, 0, none⟩) 0 0) (padB (j + 1 - (j + 1)) (N / 10 ^ (j + 1)))) := by
              rw [Nat.sub_self]
              exact ⟨(Below.refl _ _).alloc (Nat.le_refl _) _, World.ownsRow_lit _ #[] 0 (Nat.le_refl _) (by unfold maxLen; omega) rfl⟩
            clear hx' hq hge
            go_wp2
            clear c0
            go_loopw [8, 9] (fun v i wr' => ∃ m : Nat, m ≤ j + 1 ∧ i = .int .i64 ((m : Int) - 1) ∧ G8 wq wr' v (padB (j + 1 - m) (N / 10 ^ m))) (fun _ i _ => (intOf i + 1).toNat)
            case atStart => exact ⟨j + 1, Nat.le_refl _, by go_num, HS0.out⟩
            case round =>
              clear HS0
              obtain ⟨m, hm, rfl, hgm⟩ := hrel
              rcases m with _ | m
              · rw [Nat.sub_zero, Nat.pow_zero, Nat.div_one] at hgm
                obtain ⟨po, pc, rfl, hpc, hpat⟩ := hgm.at
                rw [padB_len] at *
                obtain ⟨pb, pf, rfl, hpcell⟩ : ∃ pb pf, po = some ⟨pb, pf, none⟩ ∧ ∀ i, i < j + 1 → wr.cell? ⟨pb, pf + i, none⟩ = some (.int .u8 (((padB (j + 1) N).map fun (x : Nat) => (x : Int)).getD i 0)) := by
                  rcases hpat with h | ⟨b, f, h1, _, h3⟩
                  · have := padB_len (j + 1) N; rw [h] at this; simp at this
                  · refine ⟨b, f, h1, fun i hi => ?_⟩
                    rw [h3 i (by rw [padB_len]; exact hi)]
                    have : i < (padB (j + 1) N).length := by rw [padB_len]; exact hi
                    simp [List.getD, this]
                have kc := run_convert_bytes_arg (P := Tryz.prog) wr 60 5 Tryz.underlying60 Tryz.underlying5 pb pf (j + 1) pc ((padB (j + 1) N).map fun (x : Nat) => (x : Int)) (by rw [List.length_map, padB_len]) hpcell 9 Tryz.underlying9
                rw [HSTR.out] at kc
                have hbw := HBEL.out.trans (hgm.1.mono HBEL.out.size)
                clear hgm hpat hpcell
                go_wp2
                go_ret
                exact ⟨rfl, hbw⟩
              · have c1 : wr.cell? ⟨lb, lf + m, none⟩ = some (.int .u8 ((48 + N / 10 ^ m % 10 : Nat) : Int)) := (hgm.1.cell hlb).trans (HLC.out m (by omega))
                have hml : (m : Int) < ((4 * k : Nat) : Int) := by omega
                obtain ⟨l, hl⟩ : ∃ l, l = j + 1 - (m + 1) := ⟨_, rfl⟩
                have hown := hgm.2
                rw [padB_len, ← hl] at hown
                have hsz1 := hgm.1.size
                have HG := hide hgm
                obtain ⟨d, hd⟩ : ∃ d, d = 48 + N / 10 ^ m % 10 := ⟨_, rfl⟩
                rw [← hd] at c1
                have hd57 : d ≤ 57 := by have := Nat.mod_lt (N / 10 ^ m) (show 0 < 10 by omega); omega
                have HPS : Hid (padB l (N / 10 ^ (m + 1)) ++ [d] = padB (j + 1 - m) (N / 10 ^ m)) := by
                  have e1 : j + 1 - m = l + 1 := by omega
                  rw [e1, padB_succ, ← hd, Nat.div_div_eq_div_mul, ← Nat.pow_succ]; rfl
                have HL := hide hl
                rw [← hl] at HG
                have hll : l ≤ 4 * k := by omega
                clear hgm hd hl
                go_wp2_with (at_builtin; refine wpList_append_own _ rfl _ _ 60 rfl wq.heap.size 5 i0 (.int .u8 0) 1 1 Tryz.underlying60 hi hz0 hz1 hz2 rfl (by decide) _ _ _ rfl (hown.alloc _) ⟨wr.heap.size, 0, none⟩ 1 1 [.int .u8 (d : Int)] rfl rfl ?c1B ?c2B ?c3B ?c4B ?c5B ?_)
                try case c1B => exact new_cell wr _ _
                case c2B => first | exact one_one _ _ | rfl
                case c3B => unfold maxLen; omega
                case c4B => omega
                case c5B => first | (simp; omega) | omega
                intro v' w1 hown' hgrow _
                have hg' := HG.out.step _ (by rw [padB_len]; exact hown') hgrow
                rw [HPS.out] at hg'
                have HI := hide hg'
                clear hown hown' hgrow hg' HG HPS
                go_wp2
                go_roundw
                case rel => exact ⟨m, by omega, by go_num, HI.out⟩
                case measure => simp [intOf]
    · have hpos : (0 : Int) < (ys.length : Int) := by omega
      obtain ⟨b, f, rfl, hb, hcell⟩ : ∃ b f, o = some ⟨b, f, none⟩ ∧ b < wq.heap.size ∧ ∀ i, i < ys.length → wq.cell? ⟨b, f + i, none⟩ = some (.int .u32 ((dg ys i : Nat) : Int)) := by
        rcases hyat with h | h
        · rw [h] at hy0; simp at hy0
        · exact h
      have hM : N / 10000 ^ k ≠ 0 := by
        rw [← hyis.2.2]
        intro h
        have := num_zero (by omega) hyis.2.1 h
        rw [this] at hy0; simp at hy0
      have HTOP : Hid (∀ j, k + 1 = j + 1 → N / 10000 ^ j ≠ 0) := by
        intro j hj
        rw [show j = k by omega]
        exact hM
      have by' := by_at b f ys.length c ys wq (by omega) rfl hb hcell hyis.1
      rw [hyis.2.2] at by'
      have BY := hide by'
      have HGR := hide hgr
      have HGL := hide hgr.2.lt
      clear hyis hyne hyat hgr htop hlat hcell hM by' hb
      go_wp2_with fail
      refine BY.out.mono ?_
      rintro e w4 ⟨g, qs, qc, rfl, hg1, hg2, hqc, hqat, hqis, hql, hb4⟩
      have hbel4 := hbel.trans (hb4.mono hsz)
      have HIN : Hid (TxtIn w N k g qs 0 (.slice lo (4 * k) lc) w4) := by
        refine ⟨HGR.out.below hb4, hqat, hg2, fun h => ?_⟩
        have := (HGL.out g h).2
        omega
      obtain ⟨r0, hr0⟩ : ∃ r0, r0 = N / 10000 ^ k % 10000 := ⟨_, rfl⟩
      rw [← hr0]
      have HR0 := hide hr0
      have HQIS := hide hqis
      clear BY HGR HGL hqat hqis hbel hb4 hbel4 hr0
      go_wp2
      go_loopw [3, 5, 6] (fun low r kk wr => ∃ t : Nat, t ≤ 4 ∧ kk = .int .i64 t ∧ r = .int .u32 ((r0 / 10 ^ t : Nat) : Int) ∧ TxtIn w N k g qs t low wr) (fun _ _ kk _ => 4 - (intOf kk).toNat)
      case atStart => exact ⟨0, by omega, rfl, by simp, HIN.out⟩
      case round =>
        clear HIN
        obtain ⟨t, ht, rfl, rfl, hin⟩ := hrel
        by_cases h4 : t = 4
        · subst h4
          have HO : Hid (TxtOut w N la (k + 1) (.slice (some ⟨g, 0, none⟩) qs.length qc) u3 wr) := by
            refine ⟨⟨_, qc, qs, rfl, by omega, hin.at', ?_, ?_⟩, hin.gr, HTOP.out⟩
            · have := HQIS.out
              rw [Nat.div_div_eq_div_mul, ← Nat.pow_succ] at this
              exact this
            · intro b' o' _ e
              simp only [Option.some.injEq, Addr.mk.injEq] at e
              rw [← e.1]; exact hin.ne
          have hlv : lenV u3 = 4 * k + 4 := by
            obtain ⟨_, _, e, _⟩ := hin.gr.at
            rw [e, lowD_len]; rfl
          have HLV := hide hlv
          clear hin hlv
          go_wp2
          go_roundw
          case rel => exact ⟨k + 1, HO.out⟩
          case measure => rw [HLV.out]; simp [lenV]; omega
        · have hown := hin.gr.2
          rw [lowD_len] at hown
          have hsz1 := hin.gr.1.size
          have ht4 : t < 4 := by omega
          obtain ⟨r, hr⟩ : ∃ r, r = r0 / 10 ^ t := ⟨_, rfl⟩
          have hdig : 48 + r % 10 = 48 + N / 10 ^ (4 * k + t) % 10 := by rw [hr, HR0.out, txt_digit N k t ht4]
          have hnext : r / 10 = r0 / 10 ^ (t + 1) := by rw [hr, Nat.div_div_eq_div_mul, ← Nat.pow_succ]
          have hrl : r < 10000 := by
            have h1 : r ≤ r0 := by rw [hr]; exact Nat.div_le_self _ _
            have h2 : r0 < 10000 := by rw [HR0.out]; exact Nat.mod_lt _ (by omega)
            omega
          rw [← hr]
          obtain ⟨d, hd⟩ : ∃ d, d = 48 + r % 10 := ⟨_, rfl⟩
          obtain ⟨r', hr'⟩ : ∃ r', r' = r / 10 := ⟨_, rfl⟩
          have e1 : 48 + (r : Int) % 10 = (d : Int) := by omega
          have e2 : (r : Int) / 10 = (r' : Int) := by omega
          have hd57 : d ≤ 57 := by omega
          have HD : Hid (d = 48 + N / 10 ^ (4 * k + t) % 10) := hd.trans hdig
          have HR' : Hid (r' = r0 / 10 ^ (t + 1)) := hr'.trans hnext
          have HIN := hide hin
          have HOL := hide hin.gr.2.lt
          clear hin hdig hnext hd hr hr'
          go_wp2_with (at_builtin; refine wpList_append_lies _ rfl _ _ 60 rfl w.heap.size 5 i0 (.int .u8 0) 1 1 Tryz.underlying60 hi hz0 hz1 hz2 rfl (by decide) _ _ _ rfl (hown.alloc _) ⟨wr.heap.size, 0, none⟩ 1 1 [.int .u8 (d : Int)] rfl rfl ?c1A ?c2A (by omega) ?c3A ?c4A ?c5A (wr.heap.size + 1) (by simp) ?_)
          try case c1A => exact new_cell wr _ _
          case c2A => first | exact one_one _ _ | rfl
          case c3A => unfold maxLen; omega
          case c4A => omega
          case c5A => first | (simp; omega) | omega
          intro g' cap w5 hown' hgrow hlies hlt
          have HI : Hid (TxtIn w N k g qs (t + 1) (.slice (some ⟨g', 0, none⟩) (4 * k + t + 1) cap) w5) := by
            have hgs := HIN.out.gr.step _ (by rw [lowD_len]; exact hown') hgrow
            rw [HD.out, ← lowD_succ] at hgs
            have hlt5 := HIN.out.lt
            refine ⟨hgs, At.keep32 _ hgrow HIN.out.at' HIN.out.ne, Nat.lt_of_lt_of_le hlt5 (Nat.le_trans (by simp) hgrow.size), ?_⟩
            show some g' ≠ some g
            intro h
            injection h with h
            subst h
            rcases hlies with h | h
            · exact HIN.out.ne h
            · omega
          clear hown hown' hgrow hlies hlt HIN HOL
          go_wp2
          go_roundw
          case rel => exact ⟨t + 1, by omega, by go_num, by first | rw [← HR'.out, e2] | rw [← HR'.out], HI.out⟩
          case measure => simp [intOf]; omega

end Go.Proofs.YtionbkmbhhlmjaaGreatDoor

namespace Go.Proofs.YtionbkmbhhlmjaaGreatDoor
open Go.RowKit

set_option maxRecDepth 100000 in
set_option maxHeartbeats 2000000 in
theorem numB_neg (n : Nat) (w : World) (h : n ≤ 9223372036854775807) (h0 : -(n : Int) < 0) : Calls Tryz.prog 26 #[.int .i64 (-(n : Int))] w fun e w' => e = .returned (.string ⟨(Lib.itoa (-(n : Int))).toArray⟩) ∧ Below w.heap.size w w' := by
  have hst : At .u64 (w.alloc (.cells #[.int .u64 (n : Int)] 56)) (some ⟨w.heap.size, 0, none⟩) [n] := Row.at (k := .u64) (e := 56) (heap_alloc_new w _)
  have IN := hide (in_any (some ⟨w.heap.size, 0, none⟩) 1 1 [n] (w.alloc (.cells #[.int .u64 (n : Int)] 56)) (by omega) rfl hst (fun i => by
    rcases i with _ | i
    · show n < B64; exact Nat.lt_of_le_of_lt h (by decide)
    · show (0 : Nat) < B64; decide))
  rw [show num B64 [n] = n by simp [num, V, dg]] at IN
  have HB0 : Hid (Below w.heap.size w (w.alloc (.cells #[.int .u64 (n : Int)] 56))) := (Below.refl _ _).alloc (Nat.le_refl _) _
  have s1 : (Lib.decDigits n).length ≤ 20 := sizeN_le (Nat.lt_of_le_of_lt h (by decide)) (by omega)
  have RT := hide (fun (ao : Option Addr) (cap : Nat) (ys : List Nat) (W : World) (h1 : ys.length ≤ 4) (h2 : At .u32 W ao ys) (h3 : Is 65536 ys n) => rtext_any ao ys.length cap n ys W (by omega) rfl h2 h3)
  obtain ⟨D, hD⟩ : ∃ D : ByteArray, D = ⟨(Lib.decDigits n).toArray⟩ := ⟨_, rfl⟩
  have hDs : D.size = (Lib.decDigits n).length := by rw [hD, size_mk0]
  have s2 : ¬ 9223372036854775807 < 1 + D.size := by omega
  rw [← hD] at RT
  have EQ : Hid ((⟨(Lib.itoa (-(n : Int))).toArray⟩ : ByteArray) = ⟨#[45]⟩ ++ D) := by
    have e : Lib.itoa (-(n : Int)) = 45 :: Lib.decDigits n := by
      unfold Lib.itoa
      rw [if_pos h0, show (-(n : Int)).natAbs = n by omega]
    show _ = _
    rw [e, ← mk_bys (⟨#[45]⟩ ++ D), bys_append, hD, bys_mk (Lib.decDigits n)]; rfl
  clear hst hD s1 hDs
  go_enter Tryz.func26, Tryz.ntmps26
  go_wp2_with fail
  refine IN.out.mono ?_
  rintro e w1 ⟨ao, cap, ys, rfl, hle, hat, his, hlen, hb⟩
  have HB1 := hide (HB0.out.trans (hb.mono HB0.out.size))
  have TX := hide (RT.out ao cap ys w1 (by omega) hat his)
  clear hb HB0 IN RT hat his
  go_wp2_with fail
  refine TX.out.mono ?_
  rintro e w2 ⟨rfl, hb⟩
  have HB2 := hide (HB1.out.trans (hb.mono HB1.out.size))
  clear hb HB1 TX
  go_wp2
  go_ret
  exact ⟨by rw [EQ.out]; rfl, HB2.out⟩

set_option maxRecDepth 100000 in
set_option maxHeartbeats 2000000 in
theorem numB_pos (n : Nat) (w : World) (h : n ≤ 9223372036854775807) : Calls Tryz.prog 26 #[.int .i64 ((n : Int))] w fun e w' => e = .returned (.string ⟨(Lib.itoa ((n : Int))).toArray⟩) ∧ Below w.heap.size w w' := by
  have hst : At .u64 (w.alloc (.cells #[.int .u64 (n : Int)] 56)) (some ⟨w.heap.size, 0, none⟩) [n] := Row.at (k := .u64) (e := 56) (heap_alloc_new w _)
  have IN := hide (in_any (some ⟨w.heap.size, 0, none⟩) 1 1 [n] (w.alloc (.cells #[.int .u64 (n : Int)] 56)) (by omega) rfl hst (fun i => by
    rcases i with _ | i
    · show n < B64; exact Nat.lt_of_le_of_lt h (by decide)
    · show (0 : Nat) < B64; decide))
  rw [show num B64 [n] = n by simp [num, V, dg]] at IN
  have HB0 : Hid (Below w.heap.size w (w.alloc (.cells #[.int .u64 (n : Int)] 56))) := (Below.refl _ _).alloc (Nat.le_refl _) _
  have s1 : (Lib.decDigits n).length ≤ 20 := sizeN_le (Nat.lt_of_le_of_lt h (by decide)) (by omega)
  have RT := hide (fun (ao : Option Addr) (cap : Nat) (ys : List Nat) (W : World) (h1 : ys.length ≤ 4) (h2 : At .u32 W ao ys) (h3 : Is 65536 ys n) => rtext_any ao ys.length cap n ys W (by omega) rfl h2 h3)
  obtain ⟨D, hD⟩ : ∃ D : ByteArray, D = ⟨(Lib.decDigits n).toArray⟩ := ⟨_, rfl⟩
  have hDs : D.size = (Lib.decDigits n).length := by rw [hD, size_mk0]
  have s2 : ¬ 9223372036854775807 < 1 + D.size := by omega
  rw [← hD] at RT
  have EQ : Hid ((⟨(Lib.itoa ((n : Int))).toArray⟩ : ByteArray) = D) := by
    have e : Lib.itoa ((n : Int)) = Lib.decDigits n := by
      unfold Lib.itoa
      rw [if_neg (by omega), show ((n : Int)).toNat = n by omega]
    show _ = _
    rw [e, hD]
  clear hst hD s1 hDs
  go_enter Tryz.func26, Tryz.ntmps26
  go_wp2_with fail
  refine IN.out.mono ?_
  rintro e w1 ⟨ao, cap, ys, rfl, hle, hat, his, hlen, hb⟩
  have HB1 := hide (HB0.out.trans (hb.mono HB0.out.size))
  have TX := hide (RT.out ao cap ys w1 (by omega) hat his)
  clear hb HB0 IN RT hat his
  go_wp2_with fail
  refine TX.out.mono ?_
  rintro e w2 ⟨rfl, hb⟩
  have HB2 := hide (HB1.out.trans (hb.mono HB1.out.size))
  clear hb HB1 TX
  go_wp2
  go_ret
  exact ⟨by rw [EQ.out]; rfl, HB2.out⟩

set_option maxRecDepth 100000 in
set_option maxHeartbeats 2000000 in
theorem numB_min (n : Nat) (w : World) (h : n = 9223372036854775808) : Calls Tryz.prog 26 #[.int .i64 (-9223372036854775808)] w fun e w' => e = .returned (.string ⟨(Lib.itoa (-9223372036854775808)).toArray⟩) ∧ Below w.heap.size w w' := by
  have hst : At .u64 (w.alloc (.cells #[.int .u64 9223372036854775808] 56)) (some ⟨w.heap.size, 0, none⟩) [n] := by
    have q : At .u64 (w.alloc (.cells #[.int .u64 (n : Int)] 56)) (some ⟨w.heap.size, 0, none⟩) [n] := Row.at (k := .u64) (e := 56) (heap_alloc_new w _)
    rwa [show (n : Int) = 9223372036854775808 by omega] at q
  have hwm : IntKind.u64.wrap (wrap64 9223372036854775808) = 9223372036854775808 := by kernel_rfl
  have IN := hide (in_any (some ⟨w.heap.size, 0, none⟩) 1 1 [n] (w.alloc (.cells #[.int .u64 9223372036854775808] 56)) (by omega) rfl hst (fun i => by
    rcases i with _ | i
    · show n < B64; rw [h]; decide
    · show (0 : Nat) < B64; decide))
  rw [show num B64 [n] = n by simp [num, V, dg]] at IN
  have HB0 : Hid (Below w.heap.size w (w.alloc (.cells #[.int .u64 9223372036854775808] 56))) := (Below.refl _ _).alloc (Nat.le_refl _) _
  have s1 : (Lib.decDigits n).length ≤ 20 := sizeN_le (by rw [h]; decide) (by omega)
  have RT := hide (fun (ao : Option Addr) (cap : Nat) (ys : List Nat) (W : World) (h1 : ys.length ≤ 4) (h2 : At .u32 W ao ys) (h3 : Is 65536 ys n) => rtext_any ao ys.length cap n ys W (by omega) rfl h2 h3)
  obtain ⟨D, hD⟩ : ∃ D : ByteArray, D = ⟨(Lib.decDigits n).toArray⟩ := ⟨_, rfl⟩
  have hDs : D.size = (Lib.decDigits n).length := by rw [hD, size_mk0]
  have s2 : ¬ 9223372036854775807 < 1 + D.size := by omega
  rw [← hD] at RT
  have EQ : Hid ((⟨(Lib.itoa (-9223372036854775808)).toArray⟩ : ByteArray) = ⟨#[45]⟩ ++ D) := by
    have e : Lib.itoa (-9223372036854775808) = 45 :: Lib.decDigits n := by
      unfold Lib.itoa
      rw [if_pos (by decide), h]
      rfl
    show _ = _
    rw [e, ← mk_bys (⟨#[45]⟩ ++ D), bys_append, hD, bys_mk (Lib.decDigits n)]; rfl
  clear hst hD s1 hDs
  go_enter Tryz.func26, Tryz.ntmps26
  go_wp2_with fail
  refine IN.out.mono ?_
  rintro e w1 ⟨ao, cap, ys, rfl, hle, hat, his, hlen, hb⟩
  have HB1 := hide (HB0.out.trans (hb.mono HB0.out.size))
  have TX := hide (RT.out ao cap ys w1 (by omega) hat his)
  clear hb HB0 IN RT hat his
  go_wp2_with fail
  refine TX.out.mono ?_
  rintro e w2 ⟨rfl, hb⟩
  have HB2 := hide (HB1.out.trans (hb.mono HB1.out.size))
  clear hb HB1 TX
  go_wp2
  go_ret
  exact ⟨by rw [EQ.out]; rfl, HB2.out⟩


theorem numB_any (e : Int) (w : World) (h1 : -9223372036854775808 ≤ e) (h2 : e ≤ 9223372036854775807) : Calls Tryz.prog 26 #[.int .i64 e] w fun e' w' => e' = .returned (.string ⟨(Lib.itoa e).toArray⟩) ∧ Below w.heap.size w w' := by
  by_cases h : e < 0
  · by_cases hm : e = -9223372036854775808
    · subst hm
      exact numB_min _ w rfl
    · obtain ⟨n, rfl⟩ : ∃ n : Nat, e = -(n : Int) := ⟨(-e).toNat, by omega⟩
      exact numB_neg n w (by omega) h
  · obtain ⟨n, rfl⟩ : ∃ n : Nat, e = (n : Int) := ⟨e.toNat, by omega⟩
    exact numB_pos n w (by omega)

end Go.Proofs.YtionbkmbhhlmjaaGreatDoor

namespace Go.Proofs.YtionbkmbhhlmjaaGreatDoor
open Go.RowKit

theorem fillL_eq (n : Nat) (least : Int) (j : Nat) (h99 : j ≤ 99) (hlo : j = 0 ∨ (j : Int) - 1 + ((Lib.decDigits n).length : Int) < least) (hend : ¬ (j < 99 ∧ (j : Int) + ((Lib.decDigits n).length : Int) < least)) : fillL n least = List.replicate j 48 ++ Lib.decDigits n := by
  unfold fillL
  rw [show (min 99 (least - ((Lib.decDigits n).length : Int))).toNat = j by omega]

set_option maxRecDepth 100000 in
set_option maxHeartbeats 16000000 in
theorem rexponent_any (e least : Int) (plus : Bool) (s : Sy) (w : World) (h1 : -9223372036854775808 ≤ e) (h2 : e ≤ 9223372036854775807) (hw : (wrL s (fillL e.natAbs least)).length ≤ 100000000000) :
    Calls Tryz.prog 13 #[.int .i64 e, .int .i64 least, .bool plus, symV s] w fun r w' => (∃ v, r = .returned v ∧ w'.ownsRow w.heap.size 34 2 v (expP e least plus s).length (cellsP (expP e least plus s))) ∧ Below w.heap.size w w' := by
  obtain ⟨SC, hSC⟩ : ∃ SC, SC = symC s := ⟨_, rfl⟩
  obtain ⟨W, hW⟩ : ∃ W, W = w.alloc (.cells SC 26) := ⟨_, rfl⟩
  have BY0 := hide (show Blk W w.heap.size SC 26 by rw [hW]; exact Blk.newAt _ _ rfl _ _)
  have HB0 : Hid (Below w.heap.size w W) := hide (by rw [hW]; exact (Below.refl _ _).alloc (Nat.le_refl _) _)
  obtain ⟨W2, hW2⟩ : ∃ W2, W2 = W.alloc (.cells #[] 34) := ⟨_, rfl⟩
  have hDw : w.heap.size < W.heap.size := BY0.out.lt
  have BB2 : Hid (Below W.heap.size W W2) := hide (by rw [hW2]; exact (Below.refl _ _).alloc (Nat.le_refl _) _)
  have BY2 := Blk.on BY0 BB2.out
  have HB2 := hide (HB0.out.trans (BB2.out.mono HB0.out.size))
  have O2 : Hid (W2.ownsRow (w.heap.size + 1) 34 2 (.slice (some ⟨W.heap.size, 0, none⟩) 0 0) ([] : List Pc).length (cellsP [])) := hide (by rw [hW2]; exact World.ownsRow_made W #[] 0 hDw (by decide) rfl)
  have hS2 : w.heap.size + 1 ≤ W2.heap.size := by have := BB2.out.size; omega
  have HW := hide hW.symm
  have HW2 := hide hW2.symm
  have SL : SC.toList.length = 21 := by rw [hSC]; rfl
  have C10 : Hid (SC[16]? = some (.string s.exp) ∧ SC[12]? = some (.string s.min) ∧ SC[13]? = some (.string s.plu)) := hide (by rw [hSC]; exact ⟨rfl, rfl, rfl⟩)
  have SI : (Tryz.prog.info? 26).map (·.size) = some SC.toList.length := by rw [SL]; exact symInfo
  have WR : Hid (∀ (t : ByteArray) X, DigB (bys t) → t.size ≤ 4096 → (wrL s (bys t)).length ≤ 100000000000 → Calls Tryz.prog 17 #[.string t, .agg SC] X fun e w' => e = .returned (.string (mkP (wrL s (bys t)))) ∧ Below X.heap.size X w') := hide (fun t X h1 h2 h3 => by
    rw [hSC]
    exact rWrite_any t s X h1 (by omega) h3)
  have EV : symV s = .agg SC := by rw [hSC]; rfl
  rw [EV]
  have y_16 := (BY2.out.cell 16).trans C10.out.1
  have AE := hide (raddP_any [] s.exp 6 O2.out hS2 (by simp))
  clear hW hW2 EV SL BB2 BY0 HB0 hSC
  go_enter Tryz.func13, Tryz.ntmps13
  go_wp2_with (first | simp only [HW.out] | simp only [HW2.out])
  refine AE.out.mono ?_
  rintro r w3 ⟨⟨v3, rfl, ho3⟩, hb3⟩
  obtain ⟨A3, hA3⟩ : ∃ A3, A3 = oneP s.exp 6 := ⟨_, rfl⟩
  obtain ⟨k3, hk3⟩ : ∃ k3, k3 = A3.length := ⟨_, rfl⟩
  rw [List.nil_append, ← hA3, ← hk3] at ho3
  have hA3l : A3.length ≤ 1 := by rw [hA3]; exact oneP_len _ _
  obtain ⟨u3, c3, rfl⟩ := ownD_slice ho3
  have O3 := hide ho3
  have K3 := hide hk3
  have HA3 := hide hA3
  have BY3 := hide (BY2.out.below hb3 (by omega))
  have HB3 := hide (HB2.out.trans (hb3.mono (by omega)))
  have hS3 : w.heap.size + 1 ≤ w3.heap.size := Nat.le_trans hS2 hb3.size
  clear ho3 hb3 AE BY2 O2 HB2 y_16 HW HW2 hA3 hk3
  obtain ⟨ND, hND⟩ : ∃ ND, ND = (Lib.decDigits e.natAbs).length := ⟨_, rfl⟩
  have hNDl : ND ≤ 20 := by rw [hND]; exact sizeN_le (Nat.lt_of_le_of_lt (show e.natAbs ≤ 9223372036854775808 by omega) (by decide)) (by omega)
  have NU := hide (fun X => numB_any e X h1 h2)
  obtain ⟨T0, hT0⟩ : ∃ T0, T0 = mkP (Lib.decDigits e.natAbs) := ⟨_, rfl⟩
  have HT0 := hide hT0
  have hT0s : T0.size = ND := by rw [hT0, mkP_size, hND]
  have FE : Hid (∀ j : Nat, j ≤ 99 → (j = 0 ∨ (j : Int) - 1 + (ND : Int) < least) → ¬ (j < 99 ∧ (j : Int) + (ND : Int) < least) → fillL e.natAbs least = List.replicate j 48 ++ bys T0) := hide (fun j q1 q2 q3 => by rw [hT0, bys_mkP]; rw [hND] at q2 q3; exact fillL_eq e.natAbs least j q1 q2 q3)
  have FD := hide (fillL_dig e.natAbs least)
  have FW := hide hw
  have FS : Hid ((fillL e.natAbs least).length ≤ 4096) := hide (by have := fillL_len e.natAbs least (by omega); omega)
  obtain ⟨FT, hFT⟩ : ∃ FT, FT = fillL e.natAbs least := ⟨_, rfl⟩
  obtain ⟨JX, hJX⟩ : ∃ JX, JX = mkP (wrL s FT) := ⟨_, rfl⟩
  have PE : Hid (expP e least plus s = A3 ++ sgnP e plus s ++ oneP JX 8) := hide (by unfold expP; rw [hJX, hFT, HA3.out])
  rw [← hFT] at FD FW FS FE
  have HJX := hide hJX
  clear hFT hJX hw hT0 hND
  by_cases hneg : e < 0
  · have PS : Hid (A3 ++ oneP s.min 7 = A3 ++ sgnP e plus s) := hide (by unfold sgnP; rw [if_pos hneg])
    have y_12 := (BY3.out.cell 12).trans C10.out.2.1
    have AG := hide (raddP_any (v := .slice u3 k3 c3) A3 s.min 7 (by rw [← K3.out]; exact O3.out) hS3 (by omega))
    go_wp2_with fail
    refine AG.out.mono ?_
    rintro r w4 ⟨⟨v4, rfl, ho4⟩, hb4⟩
    obtain ⟨A4, hA4⟩ : ∃ A4, A4 = A3 ++ oneP s.min 7 := ⟨_, rfl⟩
    obtain ⟨k4, hk4⟩ : ∃ k4, k4 = A4.length := ⟨_, rfl⟩
    rw [← hA4, ← hk4] at ho4
    have hA4l : A4.length ≤ 2 := by have := oneP_len s.min 7; rw [hA4, List.length_append]; omega
    obtain ⟨u4, c4, rfl⟩ := ownD_slice ho4
    have O4 := hide ho4
    have K4 := hide hk4
    have HA4 := hide hA4
    have BY4 := hide (BY3.out.below hb4 (by omega))
    have HB4 := hide (HB3.out.trans (hb4.mono (by omega)))
    have hS4 : w.heap.size + 1 ≤ w4.heap.size := Nat.le_trans hS3 hb4.size
    clear ho4 hb4 AG BY3 O3 HB3 y_12 hA4 hk4 K3
    rw [← HA4.out] at PS
    have NU1 := hide (NU.out w4)
    obtain ⟨NT, hNT⟩ : ∃ NT : ByteArray, NT = ⟨(Lib.itoa e).toArray⟩ := ⟨_, rfl⟩
    rw [← hNT] at NU1
    have EN : Lib.itoa e = 45 :: bys T0 := by rw [HT0.out, bys_mkP]; unfold Lib.itoa; rw [if_pos hneg]
    have hNs : NT.size = 1 + ND := by rw [hNT, size_mk0, EN, List.length_cons, bys_len, hT0s]; omega
    have EX : Hid (NT.extract 1 (1 + ND) = T0) := hide (by
      rw [← hNs, ← mkP_bys (NT.extract 1 NT.size), bys_from _ _ _ (Nat.le_refl _), hNT, bys_mk, EN, ← mkP_bys T0]
      rfl)
    have hN1 : (1 : Int) ≤ (NT.size : Int) := by omega
    clear hNT EN
    clear NU
    go_wp2_with fail
    refine NU1.out.mono ?_
    rintro r w5 ⟨rfl, hb5⟩
    have BY5 := Blk.on BY4 hb5
    have O5 := hide (ownD_below O4.out hb5)
    have HB5 := hide (HB4.out.trans (hb5.mono HB4.out.size))
    have hS5 : w.heap.size + 1 ≤ w5.heap.size := Nat.le_trans hS4 hb5.size
    clear hb5 NU1 BY4 O4 HB4
    go_wp2
    go_loopw [10, 11] (fun x q wr => ∃ (j : Nat) (t : ByteArray), j ≤ 99 ∧ x = .string t ∧ q = .int .i64 (j : Int) ∧ t.size = j + ND ∧ Hid (t = mkP (List.replicate j 48 ++ bys T0)) ∧ Hid (j = 0 ∨ (j : Int) - 1 + (ND : Int) < least) ∧ wr = w5) (fun _ q _ => 99 - (intOf q).toNat)
    case atStart => exact ⟨0, T0, by omega, by rw [EX.out], rfl, by omega, hide (by rw [List.replicate_zero, List.nil_append]; rfl), hide (.inl rfl), rfl⟩
    case round =>
      obtain ⟨j, t, hj, rfl, rfl, hts, HTt, HLo, rfl⟩ := hrel
      by_cases hgo : j < 99 ∧ (j : Int) + (ND : Int) < least
      · obtain ⟨hj1, hj2⟩ := hgo
        have hj1' : (j : Int) < 99 := by omega
        have hj2' : (t.size : Int) < least := by omega
        have hcat : ¬ 9223372036854775807 < (⟨#[48]⟩ : ByteArray).size + t.size := by have : (⟨#[48]⟩ : ByteArray).size = 1 := rfl; omega
        have hcat2 : ¬ 9223372036854775807 < 1 + t.size := by omega
        have HT2 : Hid (⟨#[48]⟩ ++ t = mkP (List.replicate (j + 1) 48 ++ bys T0)) := hide (by
          rw [HTt.out, List.replicate_succ, List.cons_append, show (48 : UInt8) :: (List.replicate j 48 ++ bys T0) = [48] ++ (List.replicate j 48 ++ bys T0) from rfl, mkP_app [48]]
          rfl)
        have hts2 : (⟨#[48]⟩ ++ t : ByteArray).size = j + 1 + ND := by rw [ByteArray.size_append]; have : (⟨#[48]⟩ : ByteArray).size = 1 := rfl; omega
        have HLo2 : Hid (j + 1 = 0 ∨ ((j + 1 : Nat) : Int) - 1 + (ND : Int) < least) := hide (.inr (by omega))
        obtain ⟨t2, ht2⟩ : ∃ t2 : ByteArray, t2 = ⟨#[48]⟩ ++ t := ⟨_, rfl⟩
        rw [← ht2] at HT2 hts2
        have HE2 := hide ht2.symm
        clear ht2 HTt HLo
        go_wp2_with (simp only [HE2.out])
        exact ⟨⟨j + 1, t2, by omega, by first | rfl | rw [HE2.out], by go_num, hts2, HT2, HLo2, by trivial⟩, by simp [intOf]; omega⟩
      · have ET : Hid (bys t = FT) := hide (by rw [HTt.out, bys_mkP]; exact (FE.out j hj HLo.out hgo).symm)
        have CW := hide (WR.out t wr (by rw [ET.out]; exact FD.out) (by rw [← bys_len, ET.out]; exact FS.out) (by rw [ET.out]; exact FW.out))
        rw [ET.out, ← HJX.out] at CW
        obtain ⟨A9, hA9⟩ : ∃ A9, A9 = A4 ++ oneP JX 8 := ⟨_, rfl⟩
        obtain ⟨k9, hk9⟩ : ∃ k9, k9 = A9.length := ⟨_, rfl⟩
        have E9 : Hid (A9 = expP e least plus s) := hide (by rw [hA9, PE.out, ← PS.out])
        have K9 := hide hk9
        have CA : Hid (∀ X, Below wr.heap.size wr X → Calls Tryz.prog 19 #[.slice u4 k4 c4, .string JX, .int .i64 8] X fun r w' => (∃ v9, r = .returned v9 ∧ Hid (w'.ownsRow (w.heap.size + 1) 34 2 v9 k9 (cellsP A9))) ∧ Hid (Below w.heap.size w w')) := hide (fun X hX => by
          refine (raddP_any (v := .slice u4 k4 c4) A4 JX 8 (by rw [← K4.out]; exact ownD_below O5.out hX) (by have := hX.size; omega) (by omega)).mono ?_
          rintro r w' ⟨⟨v', q1, q2⟩, q3⟩
          rw [← hA9, ← hk9] at q2
          exact ⟨⟨v', q1, hide q2⟩, hide (HB5.out.trans ((hX.mono (by omega)).trans (q3.mono (by omega))))⟩)
        have hgo2 : (j : Int) < 99 → ¬ (t.size : Int) < least := fun q => by omega
        have BYr := BY5.out.range
        clear HTt HLo FE WR FD FS FW HB5 hA9 hk9 ET PE O5 hgo
        by_cases hj1 : (j : Int) < 99
        · have hj2 := hgo2 hj1
          clear hgo2
          go_wp2_with (refine wpList_load_mid rfl 26 _ rfl _ _ rfl SC.toList _ BYr Tryz.underlying26 rfl SI ?_; rw [Array.toArray_toList])
          refine CW.out.mono ?_
          rintro r wa ⟨rfl, hba⟩
          have CA1 := hide (CA.out wa hba)
          clear CA hba
          go_wp2_with fail
          refine CA1.out.mono ?_
          rintro r wb ⟨⟨v9, rfl, o9⟩, b9⟩
          go_wp2
          go_ret
          refine ⟨⟨_, rfl, ?_⟩, b9.out⟩
          rw [← E9.out, ← K9.out]
          exact ownD_mono o9.out (Nat.le_succ _)
        · clear hgo2
          go_wp2_with (refine wpList_load_mid rfl 26 _ rfl _ _ rfl SC.toList _ BYr Tryz.underlying26 rfl SI ?_; rw [Array.toArray_toList])
          refine CW.out.mono ?_
          rintro r wa ⟨rfl, hba⟩
          have CA1 := hide (CA.out wa hba)
          clear CA hba
          go_wp2_with fail
          refine CA1.out.mono ?_
          rintro r wb ⟨⟨v9, rfl, o9⟩, b9⟩
          go_wp2
          go_ret
          refine ⟨⟨_, rfl, ?_⟩, b9.out⟩
          rw [← E9.out, ← K9.out]
          exact ownD_mono o9.out (Nat.le_succ _)
  · cases plus
    · have PS : Hid (A3 = A3 ++ sgnP e false s) := hide (by unfold sgnP; rw [if_neg hneg]; simp)
      have NU1 := hide (NU.out w3)
      have EN : Lib.itoa e = bys T0 := by rw [HT0.out, bys_mkP]; unfold Lib.itoa; rw [if_neg (by omega), show e.toNat = e.natAbs by omega]
      rw [EN, show (⟨(bys T0).toArray⟩ : ByteArray) = T0 from mkP_bys T0] at NU1
      clear EN
      clear NU
      go_wp2_with fail
      refine NU1.out.mono ?_
      rintro r w5 ⟨rfl, hb5⟩
      have BY5 := Blk.on BY3 hb5
      have O5 := hide (ownD_below O3.out hb5)
      have HB5 := hide (HB3.out.trans (hb5.mono HB3.out.size))
      have hS5 : w.heap.size + 1 ≤ w5.heap.size := Nat.le_trans hS3 hb5.size
      clear hb5 NU1 BY3 O3 HB3
      go_wp2
      go_loopw [10, 11] (fun x q wr => ∃ (j : Nat) (t : ByteArray), j ≤ 99 ∧ x = .string t ∧ q = .int .i64 (j : Int) ∧ t.size = j + ND ∧ Hid (t = mkP (List.replicate j 48 ++ bys T0)) ∧ Hid (j = 0 ∨ (j : Int) - 1 + (ND : Int) < least) ∧ wr = w5) (fun _ q _ => 99 - (intOf q).toNat)
      case atStart => exact ⟨0, T0, by omega, rfl, rfl, by omega, hide (by rw [List.replicate_zero, List.nil_append]; rfl), hide (.inl rfl), rfl⟩
      case round =>
        obtain ⟨j, t, hj, rfl, rfl, hts, HTt, HLo, rfl⟩ := hrel
        by_cases hgo : j < 99 ∧ (j : Int) + (ND : Int) < least
        · obtain ⟨hj1, hj2⟩ := hgo
          have hj1' : (j : Int) < 99 := by omega
          have hj2' : (t.size : Int) < least := by omega
          have hcat : ¬ 9223372036854775807 < (⟨#[48]⟩ : ByteArray).size + t.size := by have : (⟨#[48]⟩ : ByteArray).size = 1 := rfl; omega
          have hcat2 : ¬ 9223372036854775807 < 1 + t.size := by omega
          have HT2 : Hid (⟨#[48]⟩ ++ t = mkP (List.replicate (j + 1) 48 ++ bys T0)) := hide (by
            rw [HTt.out, List.replicate_succ, List.cons_append, show (48 : UInt8) :: (List.replicate j 48 ++ bys T0) = [48] ++ (List.replicate j 48 ++ bys T0) from rfl, mkP_app [48]]
            rfl)
          have hts2 : (⟨#[48]⟩ ++ t : ByteArray).size = j + 1 + ND := by rw [ByteArray.size_append]; have : (⟨#[48]⟩ : ByteArray).size = 1 := rfl; omega
          have HLo2 : Hid (j + 1 = 0 ∨ ((j + 1 : Nat) : Int) - 1 + (ND : Int) < least) := hide (.inr (by omega))
          obtain ⟨t2, ht2⟩ : ∃ t2 : ByteArray, t2 = ⟨#[48]⟩ ++ t := ⟨_, rfl⟩
          rw [← ht2] at HT2 hts2
          have HE2 := hide ht2.symm
          clear ht2 HTt HLo
          go_wp2_with (simp only [HE2.out])
          exact ⟨⟨j + 1, t2, by omega, by first | rfl | rw [HE2.out], by go_num, hts2, HT2, HLo2, by trivial⟩, by simp [intOf]; omega⟩
        · have ET : Hid (bys t = FT) := hide (by rw [HTt.out, bys_mkP]; exact (FE.out j hj HLo.out hgo).symm)
          have CW := hide (WR.out t wr (by rw [ET.out]; exact FD.out) (by rw [← bys_len, ET.out]; exact FS.out) (by rw [ET.out]; exact FW.out))
          rw [ET.out, ← HJX.out] at CW
          obtain ⟨A9, hA9⟩ : ∃ A9, A9 = A3 ++ oneP JX 8 := ⟨_, rfl⟩
          obtain ⟨k9, hk9⟩ : ∃ k9, k9 = A9.length := ⟨_, rfl⟩
          have E9 : Hid (A9 = expP e least false s) := hide (by rw [hA9, PE.out, ← PS.out])
          have K9 := hide hk9
          have CA : Hid (∀ X, Below wr.heap.size wr X → Calls Tryz.prog 19 #[.slice u3 k3 c3, .string JX, .int .i64 8] X fun r w' => (∃ v9, r = .returned v9 ∧ Hid (w'.ownsRow (w.heap.size + 1) 34 2 v9 k9 (cellsP A9))) ∧ Hid (Below w.heap.size w w')) := hide (fun X hX => by
            refine (raddP_any (v := .slice u3 k3 c3) A3 JX 8 (by rw [← K3.out]; exact ownD_below O5.out hX) (by have := hX.size; omega) (by omega)).mono ?_
            rintro r w' ⟨⟨v', q1, q2⟩, q3⟩
            rw [← hA9, ← hk9] at q2
            exact ⟨⟨v', q1, hide q2⟩, hide (HB5.out.trans ((hX.mono (by omega)).trans (q3.mono (by omega))))⟩)
          have hgo2 : (j : Int) < 99 → ¬ (t.size : Int) < least := fun q => by omega
          have BYr := BY5.out.range
          clear HTt HLo FE WR FD FS FW HB5 hA9 hk9 ET PE O5 hgo
          by_cases hj1 : (j : Int) < 99
          · have hj2 := hgo2 hj1
            clear hgo2
            go_wp2_with (refine wpList_load_mid rfl 26 _ rfl _ _ rfl SC.toList _ BYr Tryz.underlying26 rfl SI ?_; rw [Array.toArray_toList])
            refine CW.out.mono ?_
            rintro r wa ⟨rfl, hba⟩
            have CA1 := hide (CA.out wa hba)
            clear CA hba
            go_wp2_with fail
            refine CA1.out.mono ?_
            rintro r wb ⟨⟨v9, rfl, o9⟩, b9⟩
            go_wp2
            go_ret
            refine ⟨⟨_, rfl, ?_⟩, b9.out⟩
            rw [← E9.out, ← K9.out]
            exact ownD_mono o9.out (Nat.le_succ _)
          · clear hgo2
            go_wp2_with (refine wpList_load_mid rfl 26 _ rfl _ _ rfl SC.toList _ BYr Tryz.underlying26 rfl SI ?_; rw [Array.toArray_toList])
            refine CW.out.mono ?_
            rintro r wa ⟨rfl, hba⟩
            have CA1 := hide (CA.out wa hba)
            clear CA hba
            go_wp2_with fail
            refine CA1.out.mono ?_
            rintro r wb ⟨⟨v9, rfl, o9⟩, b9⟩
            go_wp2
            go_ret
            refine ⟨⟨_, rfl, ?_⟩, b9.out⟩
            rw [← E9.out, ← K9.out]
            exact ownD_mono o9.out (Nat.le_succ _)
    · have PS : Hid (A3 ++ oneP s.plu 7 = A3 ++ sgnP e true s) := hide (by unfold sgnP; rw [if_neg hneg, if_pos rfl])
      have y_13 := (BY3.out.cell 13).trans C10.out.2.2
      have AG := hide (raddP_any (v := .slice u3 k3 c3) A3 s.plu 7 (by rw [← K3.out]; exact O3.out) hS3 (by omega))
      go_wp2_with fail
      refine AG.out.mono ?_
      rintro r w4 ⟨⟨v4, rfl, ho4⟩, hb4⟩
      obtain ⟨A4, hA4⟩ : ∃ A4, A4 = A3 ++ oneP s.plu 7 := ⟨_, rfl⟩
      obtain ⟨k4, hk4⟩ : ∃ k4, k4 = A4.length := ⟨_, rfl⟩
      rw [← hA4, ← hk4] at ho4
      have hA4l : A4.length ≤ 2 := by have := oneP_len s.plu 7; rw [hA4, List.length_append]; omega
      obtain ⟨u4, c4, rfl⟩ := ownD_slice ho4
      have O4 := hide ho4
      have K4 := hide hk4
      have HA4 := hide hA4
      have BY4 := hide (BY3.out.below hb4 (by omega))
      have HB4 := hide (HB3.out.trans (hb4.mono (by omega)))
      have hS4 : w.heap.size + 1 ≤ w4.heap.size := Nat.le_trans hS3 hb4.size
      clear ho4 hb4 AG BY3 O3 HB3 y_13 hA4 hk4 K3
      rw [← HA4.out] at PS
      have NU1 := hide (NU.out w4)
      have EN : Lib.itoa e = bys T0 := by rw [HT0.out, bys_mkP]; unfold Lib.itoa; rw [if_neg (by omega), show e.toNat = e.natAbs by omega]
      rw [EN, show (⟨(bys T0).toArray⟩ : ByteArray) = T0 from mkP_bys T0] at NU1
      clear EN
      clear NU
      go_wp2_with fail
      refine NU1.out.mono ?_
      rintro r w5 ⟨rfl, hb5⟩
      have BY5 := Blk.on BY4 hb5
      have O5 := hide (ownD_below O4.out hb5)
      have HB5 := hide (HB4.out.trans (hb5.mono HB4.out.size))
      have hS5 : w.heap.size + 1 ≤ w5.heap.size := Nat.le_trans hS4 hb5.size
      clear hb5 NU1 BY4 O4 HB4
      go_wp2
      go_loopw [10, 11] (fun x q wr => ∃ (j : Nat) (t : ByteArray), j ≤ 99 ∧ x = .string t ∧ q = .int .i64 (j : Int) ∧ t.size = j + ND ∧ Hid (t = mkP (List.replicate j 48 ++ bys T0)) ∧ Hid (j = 0 ∨ (j : Int) - 1 + (ND : Int) < least) ∧ wr = w5) (fun _ q _ => 99 - (intOf q).toNat)
      case atStart => exact ⟨0, T0, by omega, rfl, rfl, by omega, hide (by rw [List.replicate_zero, List.nil_append]; rfl), hide (.inl rfl), rfl⟩
      case round =>
        obtain ⟨j, t, hj, rfl, rfl, hts, HTt, HLo, rfl⟩ := hrel
        by_cases hgo : j < 99 ∧ (j : Int) + (ND : Int) < least
        · obtain ⟨hj1, hj2⟩ := hgo
          have hj1' : (j : Int) < 99 := by omega
          have hj2' : (t.size : Int) < least := by omega
          have hcat : ¬ 9223372036854775807 < (⟨#[48]⟩ : ByteArray).size + t.size := by have : (⟨#[48]⟩ : ByteArray).size = 1 := rfl; omega
          have hcat2 : ¬ 9223372036854775807 < 1 + t.size := by omega
          have HT2 : Hid (⟨#[48]⟩ ++ t = mkP (List.replicate (j + 1) 48 ++ bys T0)) := hide (by
            rw [HTt.out, List.replicate_succ, List.cons_append, show (48 : UInt8) :: (List.replicate j 48 ++ bys T0) = [48] ++ (List.replicate j 48 ++ bys T0) from rfl, mkP_app [48]]
            rfl)
          have hts2 : (⟨#[48]⟩ ++ t : ByteArray).size = j + 1 + ND := by rw [ByteArray.size_append]; have : (⟨#[48]⟩ : ByteArray).size = 1 := rfl; omega
          have HLo2 : Hid (j + 1 = 0 ∨ ((j + 1 : Nat) : Int) - 1 + (ND : Int) < least) := hide (.inr (by omega))
          obtain ⟨t2, ht2⟩ : ∃ t2 : ByteArray, t2 = ⟨#[48]⟩ ++ t := ⟨_, rfl⟩
          rw [← ht2] at HT2 hts2
          have HE2 := hide ht2.symm
          clear ht2 HTt HLo
          go_wp2_with (simp only [HE2.out])
          exact ⟨⟨j + 1, t2, by omega, by first | rfl | rw [HE2.out], by go_num, hts2, HT2, HLo2, by trivial⟩, by simp [intOf]; omega⟩
        · have ET : Hid (bys t = FT) := hide (by rw [HTt.out, bys_mkP]; exact (FE.out j hj HLo.out hgo).symm)
          have CW := hide (WR.out t wr (by rw [ET.out]; exact FD.out) (by rw [← bys_len, ET.out]; exact FS.out) (by rw [ET.out]; exact FW.out))
          rw [ET.out, ← HJX.out] at CW
          obtain ⟨A9, hA9⟩ : ∃ A9, A9 = A4 ++ oneP JX 8 := ⟨_, rfl⟩
          obtain ⟨k9, hk9⟩ : ∃ k9, k9 = A9.length := ⟨_, rfl⟩
          have E9 : Hid (A9 = expP e least true s) := hide (by rw [hA9, PE.out, ← PS.out])
          have K9 := hide hk9
          have CA : Hid (∀ X, Below wr.heap.size wr X → Calls Tryz.prog 19 #[.slice u4 k4 c4, .string JX, .int .i64 8] X fun r w' => (∃ v9, r = .returned v9 ∧ Hid (w'.ownsRow (w.heap.size + 1) 34 2 v9 k9 (cellsP A9))) ∧ Hid (Below w.heap.size w w')) := hide (fun X hX => by
            refine (raddP_any (v := .slice u4 k4 c4) A4 JX 8 (by rw [← K4.out]; exact ownD_below O5.out hX) (by have := hX.size; omega) (by omega)).mono ?_
            rintro r w' ⟨⟨v', q1, q2⟩, q3⟩
            rw [← hA9, ← hk9] at q2
            exact ⟨⟨v', q1, hide q2⟩, hide (HB5.out.trans ((hX.mono (by omega)).trans (q3.mono (by omega))))⟩)
          have hgo2 : (j : Int) < 99 → ¬ (t.size : Int) < least := fun q => by omega
          have BYr := BY5.out.range
          clear HTt HLo FE WR FD FS FW HB5 hA9 hk9 ET PE O5 hgo
          by_cases hj1 : (j : Int) < 99
          · have hj2 := hgo2 hj1
            clear hgo2
            go_wp2_with (refine wpList_load_mid rfl 26 _ rfl _ _ rfl SC.toList _ BYr Tryz.underlying26 rfl SI ?_; rw [Array.toArray_toList])
            refine CW.out.mono ?_
            rintro r wa ⟨rfl, hba⟩
            have CA1 := hide (CA.out wa hba)
            clear CA hba
            go_wp2_with fail
            refine CA1.out.mono ?_
            rintro r wb ⟨⟨v9, rfl, o9⟩, b9⟩
            go_wp2
            go_ret
            refine ⟨⟨_, rfl, ?_⟩, b9.out⟩
            rw [← E9.out, ← K9.out]
            exact ownD_mono o9.out (Nat.le_succ _)
          · clear hgo2
            go_wp2_with (refine wpList_load_mid rfl 26 _ rfl _ _ rfl SC.toList _ BYr Tryz.underlying26 rfl SI ?_; rw [Array.toArray_toList])
            refine CW.out.mono ?_
            rintro r wa ⟨rfl, hba⟩
            have CA1 := hide (CA.out wa hba)
            clear CA hba
            go_wp2_with fail
            refine CA1.out.mono ?_
            rintro r wb ⟨⟨v9, rfl, o9⟩, b9⟩
            go_wp2
            go_ret
            refine ⟨⟨_, rfl, ?_⟩, b9.out⟩
            rw [← E9.out, ← K9.out]
            exact ownD_mono o9.out (Nat.le_succ _)

end Go.Proofs.YtionbkmbhhlmjaaGreatDoor
