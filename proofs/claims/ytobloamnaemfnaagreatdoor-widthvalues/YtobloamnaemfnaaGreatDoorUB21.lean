/-
  What the reference's by does: the quotient by 10000, and the rest.
  What the reference's Text does: the number's decimal digits.
  The reference's calls over numbers, wherever their digits lie: quipuref01's and quipuref02's, and quipuref03's limb, Amount, Wide, Narrow, Bias.
  What quipuref03's Dec does: a number times a power of 10, as a Dec.
  What quipuref04's May does.
  What quipuref05's Place, Neg, Scale and rank do.
-/
import Derived.Test.YtobloamnaemfnaaGreatDoorUB15
import Derived.Test.YtobloamnaemfnaaGreatDoorUB5
import Derived.Test.YtobloamnaemfnaaGreatDoorUB6
import Derived.Test.YtobloamnaemfnaaGreatDoorUB7
import Derived.Laws.BytesArg
import Derived.Test.YtobloamnaemfnaaGreatDoorUB20
import Derived.Test.YtobloamnaemfnaaGreatDoorUB16
import Derived.Test.YtobloamnaemfnaaGreatDoorUB14
import Derived.Test.YtobloamnaemfnaaGreatDoorUB2
import Derived.Test.YtobloamnaemfnaaGreatDoorUB11
namespace Go.Proofs.YtobloamnaemfnaaGreatDoor
open Go.RowKit

def ByPost (w : World) (m n : Nat) (e : Ending) (w' : World) : Prop :=
  ∃ g ys cap, e = .returned (.tuple #[.slice (some ⟨g, 0, none⟩) (List.length ys) cap, .int .u32 ((n % 10000 : Nat) : Int)]) ∧ w.heap.size ≤ g ∧ g < w'.heap.size ∧ ys.length ≤ cap ∧ At .u32 w' (some ⟨g, 0, none⟩) ys ∧ Is 65536 ys (n / 10000) ∧ ys.length ≤ m ∧ Below w.heap.size w w'

structure ByIn (w : World) (xs : List Nat) (la k r : Nat) (wr : World) : Prop where
  bel : Below w.heap.size w wr
  small : r < 10000
  row : ∃ q, Row .u32 110 wr w.heap.size q ∧ q.length = la ∧ Ok 65536 q ∧ (∀ j, j < k → dg q j = 0) ∧ num 65536 q * 10000 + r * 65536 ^ k + V 65536 (dg xs) k = num 65536 xs

set_option maxRecDepth 20000 in
theorem by_step {B q r a k v N : Nat} (h : q * 10000 + r * B ^ (k + 1) + (v + a * B ^ k) = N) :
    (q + (r * B + a) / 10000 * B ^ k) * 10000 + (r * B + a) % 10000 * B ^ k + v = N := by
  have h1 := Nat.div_add_mod (r * B + a) 10000
  rw [Nat.pow_succ] at h
  generalize B ^ k = P at h ⊢
  generalize hx : r * B + a = x at h1 ⊢
  generalize x / 10000 = u at h1 ⊢
  generalize x % 10000 = t at h1 ⊢
  have h2 : (10000 * u + t) * P = (r * B + a) * P := by rw [h1, hx]
  rw [Nat.add_mul, Nat.add_mul, Nat.mul_assoc r, Nat.mul_comm B P, Nat.mul_assoc 10000] at h2
  rw [Nat.add_mul, Nat.mul_comm (u * P)]
  generalize u * P = U at h2 ⊢
  generalize t * P = T at h2 ⊢
  generalize a * P = A at h h2
  generalize r * (P * B) = R at h h2
  clear h1 hx
  rw [Nat.mul_comm q] at h ⊢
  omega

theorem ByIn.step {w wr wr' : World} {xs : List Nat} {la k r : Nat} (hb : Below w.heap.size w wr) (hr : r < 10000) (hk : k < la) {q : List Nat} (hq : Row .u32 110 wr w.heap.size q) (hl : q.length = la) (ho : Ok 65536 q) (hz : ∀ j, j < k + 1 → dg q j = 0)
    (hn : num 65536 q * 10000 + r * 65536 ^ (k + 1) + V 65536 (dg xs) (k + 1) = num 65536 xs) (hx : dg xs k < 65536)
    (hw : Like wr' (wr.setCell ⟨w.heap.size, k, none⟩ (.int .u32 (((r * 65536 + dg xs k) / 10000 : Nat) : Int)))) :
    ByIn w xs la k ((r * 65536 + dg xs k) % 10000) wr' := by
  refine ⟨hw.below (hb.setCell (Nat.le_refl _) _), Nat.mod_lt _ (by omega), _, (hq.set k _).alike hw, by simp [hl], ho.set (by omega) (by omega), ?_, ?_⟩
  · intro j hj
    rw [dg_set _ _ _ _ (by omega), if_neg (by omega)]
    exact hz j (by omega)
  · have e := num_set 65536 q k ((r * 65536 + dg xs k) / 10000) (by omega)
    rw [hz k (by omega), Nat.zero_mul, Nat.add_zero] at e
    rw [e]
    exact by_step hn

theorem by_or {r a : Nat} (hr : r < 10000) (ha : a < 65536) : bits .or .u32 ((r : Int) * 65536) (a : Int) = ((r * 65536 + a : Nat) : Int) := by
  rw [show (r : Int) * 65536 = ((r * 65536 : Nat) : Int) by omega, u32_or_nat _ _ (by omega) (by omega), Nat.or_comm]
  have h := or_low (y := a) (a := r) (s := 16) (by simpa using ha)
  rw [show (2 : Nat) ^ 16 = 65536 by decide +kernel] at h
  rw [h, Nat.add_comm]

set_option maxRecDepth 100000 in
set_option maxHeartbeats 1000000 in
theorem by_at (b o la ca : Nat) (xs : List Nat) (w : World) (hla : la ≤ 100000000) (hx : xs.length = la) (hb : b < w.heap.size)
    (hcell : ∀ i, i < la → w.cell? ⟨b, o + i, none⟩ = some (.int .u32 ((dg xs i : Nat) : Int))) (ox : Ok 65536 xs) :
    Calls Tryz.prog 134 #[.slice (some ⟨b, o, none⟩) la ca, .int .u32 10000] w (ByPost w la (num 65536 xs)) := by
  obtain ⟨i0, hi, hz0, hz1, hz2⟩ := info_parts Tryz.infoD
  go_enter Tryz.func134, Tryz.ntmps134
  go_wp2_with (at_make; refine wpList_make_full _ rfl _ _ 79 rfl w.heap.size 110 i0 (.int .u32 0) 1 Tryz.underlying79 hi hz0 hz1 _ _ _ _ la rfl rfl (by omega) (by omega) (by rw [hz2]; omega) (by unfold maxLen; omega) (Nat.le_refl _) ?_)
  intro w1 hown hgrow
  have hr1 : Row .u32 110 w1 w.heap.size (List.replicate la 0) := Row.made hown
  have hbl1 : Below w.heap.size w w1 := (Below.refl _ _).grown hgrow (Nat.le_refl _) (fun k hk => by cases hk)
  have HST : Hid (ByIn w xs la la 0 w1) := ⟨hbl1, by omega, _, hr1, by simp, Ok.replicate (by omega) la, fun j _ => dg_replicate la j, by rw [num_replicate, ← hx]; simp [num]⟩
  clear hown hgrow hr1 hbl1
  go_wp2
  go_loopw [7, 8, 9] (fun rv i _ wr => ∃ k r : Nat, k ≤ la ∧ rv = .int .u32 (r : Int) ∧ i = .int .i64 ((k : Int) - 1) ∧ ByIn w xs la k r wr) (fun _ i _ _ => (intOf i + 1).toNat)
  case atStart => exact ⟨la, 0, Nat.le_refl _, rfl, rfl, HST.out⟩
  case round =>
    clear HST
    obtain ⟨k, r, hk, rfl, rfl, hin⟩ := hrel
    obtain ⟨q, hq, hql, hqo, hqz, hqn⟩ := hin.row
    have hbr := hin.bel
    have hrs := hin.small
    rcases k with _ | k
    · obtain ⟨n, hn⟩ : ∃ n, n = num 65536 xs := ⟨_, rfl⟩
      rw [Nat.pow_zero, Nat.mul_one, show V 65536 (dg xs) 0 = 0 from rfl, Nat.add_zero, ← hn] at hqn
      have e1 : num 65536 q = n / 10000 := by omega
      have e2 : r = n % 10000 := by omega
      rw [hn] at e1 e2
      have hat := hq.at
      have HIS : Hid (Is 65536 (trimmed q) (num 65536 xs / 10000)) := by rw [← e1]; exact Is.trimmed hqo
      have HE2 : Hid (r = num 65536 xs % 10000) := e2
      have hg := hq.lt
      have HLE : Hid ((trimmed q).length ≤ la) := by rw [← hql]; exact length_trimmed_le q
      have HTL : Hid ((trimmed q).length = tops q la) := by rw [← hql]; exact length_trimmed q
      have HAT := hide hat.trimmed
      have hcq : ∀ i, i < la → wr.cell? ⟨w.heap.size, i, none⟩ = some (.int .u32 ((q[i]?.getD 0 : Nat) : Int)) := fun i hi => by have := hq.cell i (by omega); exact this
      have HCQ := hide hcq
      clear hin hq hqo hqz hqn hat e1 e2 hn hcq hcell
      go_wp2
      go_loop [10] (fun n => ∃ k : Nat, k ≤ la ∧ n = .int .i64 k ∧ tops q la = tops q k) (fun n => (intOf n).toNat)
      case atStart => exact ⟨la, Nat.le_refl _, rfl, rfl⟩
      case round =>
        obtain ⟨k, hk, rfl, ht⟩ := hrel
        have HT : Hid (tops q la = tops q k) := ht
        clear ht
        have htl := tops_le q k
        rcases k with _ | k
        · have et : tops q la = 0 := by rw [HT.out]; rfl
          have HET := hide et
          clear et
          go_wp2
          go_ret2
          exact ⟨w.heap.size, trimmed q, la, by rw [HTL.out, HET.out, HE2.out]; rfl, Nat.le_refl _, hg, HLE.out, HAT.out, HIS.out, HLE.out, hbr⟩
        · have hck := HCQ.out k (by omega)
          have hpos : (0 : Int) < ((k + 1 : Nat) : Int) := by omega
          by_cases hz : q[k]?.getD 0 = 0
          · rw [hz] at hck
            have HT2 : Hid (tops q la = tops q k) := by rw [HT.out]; simp [tops, hz, Hid]
            go_wp2
            go_round
            case rel => exact ⟨k, by omega, by go_num, HT2.out⟩
            case measure => simp [intOf]
          · have HET : Hid (tops q la = k + 1) := by rw [HT.out]; simp [tops, hz, Hid]
            go_wp2
            go_ret2
            exact ⟨w.heap.size, trimmed q, la, by rw [HTL.out, HET.out, HE2.out]; rfl, Nat.le_refl _, hg, HLE.out, HAT.out, HIS.out, HLE.out, hbr⟩
    · have c0 : wr.cell? ⟨b, o + k, none⟩ = some (.int .u32 ((dg xs k : Nat) : Int)) := (hbr.cell hb).trans (hcell k (by omega))
      have c3 := hq.cell k (by omega)
      have f3 := hq.free k
      rw [hqz k (by omega)] at c3
      have hst := fun wr' hw => ByIn.step (wr' := wr') hbr hrs (by omega) hq hql hqo hqz hqn (ox k) hw
      obtain ⟨a, ha⟩ : ∃ a, a = dg xs k := ⟨_, rfl⟩
      have hal : a < 65536 := by rw [ha]; exact ox k
      rw [← ha] at c0 hst
      have e1 := by_or hrs hal
      obtain ⟨x, hxx⟩ : ∃ x, x = r * 65536 + a := ⟨_, rfl⟩
      rw [← hxx] at e1 hst
      have hxl : x < 655360000 := by omega
      obtain ⟨d, hd⟩ : ∃ d, d = x / 10000 := ⟨_, rfl⟩
      obtain ⟨m, hm⟩ : ∃ m, m = x % 10000 := ⟨_, rfl⟩
      rw [← hd, ← hm] at hst
      have e2 : (x : Int) / 10000 = (d : Int) := by omega
      have e3 : (x : Int) % 10000 = (m : Int) := by omega
      have HS : Hid (∀ wr', Like wr' (wr.setCell ⟨w.heap.size, k, none⟩ (.int .u32 (d : Int))) → ByIn w xs la k m wr') := hst
      have hkl : (k : Int) < (la : Int) := by omega
      clear hst hin hq hqo hqz hqn ha hxx hd hm hcell ox
      go_wp2
      go_roundw
      case rel => exact ⟨k, m, by omega, by rw [e3], by go_num, HS.out _ ⟨rfl, rfl, rfl, rfl⟩⟩
      case measure => simp [intOf]

end Go.Proofs.YtobloamnaemfnaaGreatDoor

namespace Go.Proofs.YtobloamnaemfnaaGreatDoor
open Go.RowKit

def G8 (w wr : World) (v : Value) (ys : List Nat) : Prop := Below w.heap.size w wr ∧ wr.ownsRow w.heap.size 5 1 v ys.length (vals .u8 ys)

theorem G8.at {w wr : World} {v : Value} {ys : List Nat} (h : G8 w wr v ys) : ∃ ao cap, v = .slice ao ys.length cap ∧ ys.length ≤ cap ∧ At .u8 wr ao ys := by
  obtain ⟨hb, hl, ho⟩ := h
  rcases ho with ⟨rfl, h0⟩ | ⟨g, cap, cur, rfl, hg, hh, hn, _, hs, ht⟩
  · obtain rfl : ys = [] := List.length_eq_zero_iff.1 h0
    exact ⟨none, 0, rfl, Nat.le_refl _, At.nil _ _ _⟩
  · refine ⟨_, cap, rfl, hn, .inr ⟨g, 0, rfl, lt_of_block hh, fun i hi => ?_⟩⟩
    simp only [World.cell?, hh]
    have hc : cur[i]? = (vals .u8 ys)[i]? := by
      rw [← ht, List.getElem?_take_of_lt (by omega), Array.getElem?_toList]
    simp only [Option.isSome_none, Bool.false_eq_true, if_false, Nat.zero_add, hc]
    simp [vals, hi]

theorem G8.step {w wr w1 : World} {v v' : Value} {ys : List Nat} {d : Nat} (o : Obj) (h : G8 w wr v ys) (ho : w1.ownsRow w.heap.size 5 1 v' (ys.length + 1) (vals .u8 ys ++ [.int .u8 (d : Int)])) (hg : (wr.alloc o).grownBy w1 v.ownBlock) :
    G8 w w1 v' (ys ++ [d]) := by
  have hb := h.1.alloc (h.1.size) o
  refine ⟨hb.grown hg hb.size ?_, ?_⟩
  · intro k hk
    rcases h.2.2 with ⟨rfl, _⟩ | ⟨g, cap, cur, rfl, hgb, _⟩
    · simp [Value.ownBlock] at hk
    · simp [Value.ownBlock] at hk; omega
  · rw [List.length_append]
    have : vals .u8 (ys ++ [d]) = vals .u8 ys ++ [.int .u8 (d : Int)] := by simp [vals]
    rw [this]; exact ho

theorem G8.below {w wr w' : World} {v : Value} {ys : List Nat} (h : G8 w wr v ys) (hb : Below wr.heap.size wr w') : G8 w w' v ys := by
  refine ⟨h.1.trans (hb.mono h.1.size), h.2.kept (row := none) ⟨hb.os, hb.tape, hb.output, hb.size, fun k hk _ => hb.block k hk⟩ ?_⟩
  cases hv : v.ownBlock with
  | none => exact .inl rfl
  | some g => exact .inr (by simp)

theorem Tryz.infoB : (Tryz.prog.info? 5).map (fun i => (i.zero, i.size, i.bytes)) = some (some (.int .u8 0), 1, 1) := by kernel_rfl

theorem At.keep32 {wr w1 : World} {v : Value} {xs : List Nat} {g : Nat} (o : Obj) (hg : (wr.alloc o).grownBy w1 v.ownBlock) (hat : At .u32 wr (some ⟨g, 0, none⟩) xs) (hne : v.ownBlock ≠ some g) : At .u32 w1 (some ⟨g, 0, none⟩) xs := by
  rcases hat with h' | ⟨b, o', h1, h2, h3⟩
  · exact .inl h'
  · refine .inr ⟨b, o', h1, Nat.lt_of_lt_of_le h2 (Nat.le_trans (by simp) hg.size), fun i hi => ?_⟩
    have hb : b = g := by simp only [Option.some.injEq, Addr.mk.injEq] at h1; omega
    rw [World.cell?_of_block (w := wr) ((hg.block b (by simp; omega) (fun e => hne (by rw [← hb]; exact e.symm))).trans (Below.heap_alloc _ _ _ h2))]
    exact h3 i hi

def lowD (N n : Nat) : List Nat := mk (fun j => 48 + N / 10 ^ j % 10) n

theorem lowD_len (N n : Nat) : (lowD N n).length = n := mk_len _ _
theorem lowD_succ (N n : Nat) : lowD N (n + 1) = lowD N n ++ [48 + N / 10 ^ n % 10] := mk_succ _ _
theorem lowD_get (N n j : Nat) (h : j < n) : (lowD N n)[j]?.getD 0 = 48 + N / 10 ^ j % 10 := dg_mk _ n j h

structure TxtIn (w : World) (N k g : Nat) (ys : List Nat) (t : Nat) (low : Value) (wr : World) : Prop where
  gr : G8 w wr low (lowD N (4 * k + t))
  at' : At .u32 wr (some ⟨g, 0, none⟩) ys
  lt : g < wr.heap.size
  ne : low.ownBlock ≠ some g

structure TxtOut (w : World) (N la k : Nat) (a low : Value) (wr : World) : Prop where
  rst : ∃ o c ys, a = .slice o (List.length ys) c ∧ ys.length ≤ la ∧ At .u32 wr o ys ∧ Is 65536 ys (N / 10000 ^ k) ∧ ∀ b o', ys ≠ [] → o = some ⟨b, o', none⟩ → low.ownBlock ≠ some b
  gr : G8 w wr low (lowD N (4 * k))
  top : ∀ j, k = j + 1 → N / 10000 ^ j ≠ 0

theorem txt_few {N k la : Nat} (hN : N < 65536 ^ la) (ht : ∀ j, k = j + 1 → N / 10000 ^ j ≠ 0) : k ≤ 2 * la + 1 := by
  rcases k with _ | j
  · omega
  · have h := ht j rfl
    have h1 : 10000 ^ j ≤ N := by
      rcases Nat.lt_or_ge N (10000 ^ j) with h' | h'
      · exact absurd (Nat.div_eq_of_lt h') h
      · exact h'
    have h2 : (65536 : Nat) ≤ 10000 ^ 2 := by decide +kernel
    have h3 : 65536 ^ la ≤ (10000 ^ 2) ^ la := Nat.pow_le_pow_left h2 la
    rw [← Nat.pow_mul] at h3
    rcases Nat.lt_or_ge j (2 * la) with h' | h'
    · omega
    · have := Nat.pow_le_pow_right (show 0 < 10000 by decide) h'; omega

theorem pow4 (k : Nat) : (10000 : Nat) ^ k = 10 ^ (4 * k) := by rw [Nat.pow_mul]

theorem txt_digit (N k t : Nat) (ht : t < 4) : N / 10000 ^ k % 10000 / 10 ^ t % 10 = N / 10 ^ (4 * k + t) % 10 := by
  rw [Nat.pow_add, ← Nat.div_div_eq_div_mul, ← pow4]
  generalize N / 10000 ^ k = M
  rcases (show t = 0 ∨ t = 1 ∨ t = 2 ∨ t = 3 by omega) with rfl | rfl | rfl | rfl
  · show M % 10000 / 1 % 10 = M / 1 % 10; omega
  · show M % 10000 / 10 % 10 = M / 10 % 10; omega
  · show M % 10000 / 100 % 10 = M / 100 % 10; omega
  · show M % 10000 / 1000 % 10 = M / 1000 % 10; omega

def padB (m r : Nat) : List Nat := (padD m r).map UInt8.toNat

theorem padB_succ (m r : Nat) : padB (m + 1) r = padB m (r / 10) ++ [48 + r % 10] := by
  unfold padB
  rw [padD, List.map_append]
  simp
  omega

theorem padB_len : ∀ m r : Nat, (padB m r).length = m
  | 0, _ => rfl
  | m + 1, r => by rw [padB_succ, List.length_append, padB_len m]; rfl

theorem padB_str (N j : Nat) (h1 : N < 10 ^ (j + 1)) (h2 : 10 ^ j ≤ N) : strOfNums ((padB (j + 1) N).map fun (x : Nat) => (x : Int)) = ⟨(Lib.decDigits N).toArray⟩ := by
  have hl : (Lib.decDigits N).length = j + 1 := by rw [Lib.decDigits_length]; exact Lib.nDigits_unique j N h2 h1
  have hp := padD_eq (j + 1) N (by omega) h1
  rw [hl, Nat.sub_self] at hp
  unfold padB
  rw [hp]
  simp only [List.replicate_zero, List.nil_append, List.map_map]
  apply ByteArray.ext
  apply Array.toList_inj.1
  rw [strOfNums_data, List.map_map]
  show _ = Lib.decDigits N
  conv => rhs; rw [← List.map_id (Lib.decDigits N)]
  apply List.map_congr_left
  intro x _
  simp

set_option maxRecDepth 100000 in
set_option maxHeartbeats 2000000 in
theorem rtext_any (ao : Option Addr) (la ca N : Nat) (xs : List Nat) (w : World) (hla : la ≤ 10000000) (hx : xs.length = la) (hax : At .u32 w ao xs) (his : Is 65536 xs N) :
    Calls Tryz.prog 98 #[.slice ao la ca] w fun e w' => e = .returned (.string ⟨(Lib.decDigits N).toArray⟩) ∧ Below w.heap.size w w' := by
  obtain ⟨i0, hi, hz0, hz1, hz2⟩ := info_parts Tryz.infoB
  have HN : Hid (N < 65536 ^ la) := by rw [← his.2.2, ← hx]; exact num_lt his.1
  have HST : Hid (TxtOut w N la 0 (.slice ao la ca) (.slice (some ⟨w.heap.size, 0, none⟩) 0 0) (w.alloc (.cells #[] 5))) := by
    refine ⟨⟨ao, ca, xs, by rw [hx], by omega, hax.alloc _, by simpa using his, ?_⟩, ⟨(Below.refl _ _).alloc (Nat.le_refl _) _, World.ownsRow_lit _ #[] 0 (Nat.le_refl _) (by unfold maxLen; omega) rfl⟩, fun j hj => by omega⟩
    intro b o' hne e h
    rcases hax with h1 | ⟨b', o'', h1, h2, _⟩
    · exact hne h1
    · rw [e] at h1
      simp only [Option.some.injEq, Addr.mk.injEq] at h1
      simp [Value.ownBlock] at h
      omega
  clear hax his
  go_enter Tryz.func98, Tryz.ntmps98
  go_wp2
  go_loopw [0, 3, 4, 5, 6] (fun a low _ _ _ wr => ∃ k : Nat, TxtOut w N la k a low wr) (fun _ low _ _ _ _ => 8 * la + 8 - lenV low)
  case atStart => exact ⟨0, HST.out⟩
  case round =>
    clear HST
    obtain ⟨wq, hwq⟩ : ∃ x, x = wr := ⟨_, rfl⟩
    subst hwq
    obtain ⟨k, ⟨⟨o, c, ys, rfl, hyl, hyat, hyis, hyne⟩, hgr, htop⟩⟩ := hrel
    have hk := txt_few HN.out htop
    obtain ⟨lo, lc, rfl, hlc, hlat⟩ := hgr.at
    rw [lowD_len] at *
    have hbel := hgr.1
    have hsz := hbel.size
    by_cases hy0 : ys.length = 0
    · have hN : N < 10 ^ (4 * k) := by
        have h1 : N / 10000 ^ k = 0 := by
          rw [← hyis.2.2]
          rw [List.length_eq_zero_iff.1 hy0]; rfl
        rw [pow4] at h1
        rcases Nat.lt_or_ge N (10 ^ (4 * k)) with h | h
        · exact h
        · have := Nat.div_pos h (Nat.pow_pos (show 0 < 10 by omega)); omega
      have HN0 := hide hN
      rw [hy0]
      have HLAT := hide hlat
      have HBEL := hide hbel
      clear hyis hyne hyat hgr htop hN hlat hbel hyl hy0
      go_wp2
      go_loop [7] (fun n => ∃ j : Nat, j ≤ 4 * k ∧ n = .int .i64 j ∧ N < 10 ^ j) (fun n => (intOf n).toNat)
      case atStart => exact ⟨4 * k, Nat.le_refl _, by go_num, HN0.out⟩
      case round =>
        clear HN0
        obtain ⟨j, hj, rfl, hNj⟩ := hrel
        have HNJ := hide hNj
        clear hNj
        rcases j with _ | j
        · have hz : N = 0 := by have := HNJ.out; simp at this; exact this
          have hd : (⟨#[48]⟩ : ByteArray) = ⟨(Lib.decDigits N).toArray⟩ := by rw [hz, Lib.decDigits_one (by omega)]; rfl
          have HD := hide hd
          clear hd hz
          go_wp2
          go_ret
          exact ⟨by rw [← HD.out]; rfl, HBEL.out⟩
        · obtain ⟨lb, lf, rfl, hlb, hlcell⟩ : ∃ lb lf, lo = some ⟨lb, lf, none⟩ ∧ lb < wq.heap.size ∧ ∀ i, i < 4 * k → wq.cell? ⟨lb, lf + i, none⟩ = some (.int .u8 ((48 + N / 10 ^ i % 10 : Nat) : Int)) := by
            rcases HLAT.out with h | ⟨b, f, h1, h2, h3⟩
            · have := lowD_len N (4 * k); rw [h] at this; simp at this; omega
            · exact ⟨b, f, h1, h2, fun i hi => by rw [h3 i (by rw [lowD_len]; exact hi), lowD_get N _ i hi]⟩
          have c0 := hlcell j (by omega)
          have HLC := hide hlcell
          have hpos : (0 : Int) < ((j + 1 : Nat) : Int) := by omega
          have hjl : (j : Int) < ((4 * k : Nat) : Int) := by omega
          obtain ⟨x, hx'⟩ : ∃ x, x = N / 10 ^ j % 10 := ⟨_, rfl⟩
          rw [← hx'] at c0
          have hx10 : x < 10 := by rw [hx']; exact Nat.mod_lt _ (by omega)
          have hq : N / 10 ^ j < 10 := by
            have := HNJ.out
            rw [Nat.pow_succ] at this
            exact (Nat.div_lt_iff_lt_mul (Nat.pow_pos (by omega))).2 (by rw [Nat.mul_comm]; exact this)
          clear hlcell
          by_cases hx0 : x = 0
          · have HN1 : Hid (N < 10 ^ j) := by
              have h1 : N / 10 ^ j = 0 := by rw [Nat.mod_eq_of_lt hq] at hx'; rw [← hx']; exact hx0
              rcases Nat.lt_or_ge N (10 ^ j) with h | h
              · exact h
              · have := Nat.div_pos h (Nat.pow_pos (show 0 < 10 by omega)); omega
            rw [hx0] at c0
            clear hx' hq
            go_wp2
            go_round
            case rel => exact ⟨j, by omega, by go_num, HN1.out⟩
            case measure => simp [intOf]
          · have hge : 10 ^ j ≤ N := by
              rcases Nat.lt_or_ge N (10 ^ j) with h | h
              · rw [Nat.div_eq_of_lt h] at hx'; exact absurd (by simpa using hx') hx0
              · exact h
            have hc48 : (((48 + x : Nat) : Int) == 48) = false := by rw [beq_eq_false_iff_ne]; omega
            have HSTR := hide (padB_str N j HNJ.out hge)
            have HS0 : Hid (G8 wq (wq.alloc (.cells #[] 5)) (.slice (some ⟨wq.heap.size, 0, none⟩) 0 0) (padB (j + 1 - (j + 1)) (N / 10 ^ (j + 1)))) := by
              rw [Nat.sub_self]
              exact ⟨(Below.refl _ _).alloc (Nat.le_refl _) _, World.ownsRow_lit _ #[] 0 (Nat.le_refl _) (by unfold maxLen; omega) rfl⟩
            clear hx' hq hge
            go_wp2
            clear c0
            go_loopw [8, 9] (fun v i wr' => ∃ m : Nat, m ≤ j + 1 ∧ i = .int .i64 ((m : Int) - 1) ∧ G8 wq wr' v (padB (j + 1 - m) (N / 10 ^ m))) (fun _ i _ => (intOf i + 1).toNat)
            case atStart => exact ⟨j + 1, Nat.le_refl _, by go_num, HS0.out⟩
            case round =>
              clear HS0
              obtain ⟨m, hm, rfl, hgm⟩ := hrel
              rcases m with _ | m
              · rw [Nat.sub_zero, Nat.pow_zero, Nat.div_one] at hgm
                obtain ⟨po, pc, rfl, hpc, hpat⟩ := hgm.at
                rw [padB_len] at *
                obtain ⟨pb, pf, rfl, hpcell⟩ : ∃ pb pf, po = some ⟨pb, pf, none⟩ ∧ ∀ i, i < j + 1 → wr.cell? ⟨pb, pf + i, none⟩ = some (.int .u8 (((padB (j + 1) N).map fun (x : Nat) => (x : Int)).getD i 0)) := by
                  rcases hpat with h | ⟨b, f, h1, _, h3⟩
                  · have := padB_len (j + 1) N; rw [h] at this; simp at this
                  · refine ⟨b, f, h1, fun i hi => ?_⟩
                    rw [h3 i (by rw [padB_len]; exact hi)]
                    have : i < (padB (j + 1) N).length := by rw [padB_len]; exact hi
                    simp [List.getD, this]
                have kc := run_convert_bytes_arg (P := Tryz.prog) wr 50 5 Tryz.underlying50 Tryz.underlying5 pb pf (j + 1) pc ((padB (j + 1) N).map fun (x : Nat) => (x : Int)) (by rw [List.length_map, padB_len]) hpcell 9 Tryz.underlying9
                rw [HSTR.out] at kc
                have hbw := HBEL.out.trans (hgm.1.mono HBEL.out.size)
                clear hgm hpat hpcell
                go_wp2
                go_ret
                exact ⟨rfl, hbw⟩
              · have c1 : wr.cell? ⟨lb, lf + m, none⟩ = some (.int .u8 ((48 + N / 10 ^ m % 10 : Nat) : Int)) := (hgm.1.cell hlb).trans (HLC.out m (by omega))
                have hml : (m : Int) < ((4 * k : Nat) : Int) := by omega
                obtain ⟨l, hl⟩ : ∃ l, l = j + 1 - (m + 1) := ⟨_, rfl⟩
                have hown := hgm.2
                rw [padB_len, ← hl] at hown
                have hsz1 := hgm.1.size
                have HG := hide hgm
                obtain ⟨d, hd⟩ : ∃ d, d = 48 + N / 10 ^ m % 10 := ⟨_, rfl⟩
                rw [← hd] at c1
                have hd57 : d ≤ 57 := by have := Nat.mod_lt (N / 10 ^ m) (show 0 < 10 by omega); omega
                have HPS : Hid (padB l (N / 10 ^ (m + 1)) ++ [d] = padB (j + 1 - m) (N / 10 ^ m)) := by
                  have e1 : j + 1 - m = l + 1 := by omega
                  rw [e1, padB_succ, ← hd, Nat.div_div_eq_div_mul, ← Nat.pow_succ]; rfl
                have HL := hide hl
                rw [← hl] at HG
                have hll : l ≤ 4 * k := by omega
                clear hgm hd hl
                go_wp2_with (at_builtin; refine wpList_append_own _ rfl _ _ 50 rfl wq.heap.size 5 i0 (.int .u8 0) 1 1 Tryz.underlying50 hi hz0 hz1 hz2 rfl (by decide) _ _ _ rfl (hown.alloc _) ⟨wr.heap.size, 0, none⟩ 1 1 [.int .u8 (d : Int)] rfl rfl ?c1B ?c2B ?c3B ?c4B ?c5B ?_)
                try case c1B => exact new_cell wr _ _
                case c2B => first | exact one_one _ _ | rfl
                case c3B => unfold maxLen; omega
                case c4B => omega
                case c5B => first | (simp; omega) | omega
                intro v' w1 hown' hgrow _
                have hg' := HG.out.step _ (by rw [padB_len]; exact hown') hgrow
                rw [HPS.out] at hg'
                have HI := hide hg'
                clear hown hown' hgrow hg' HG HPS
                go_wp2
                go_roundw
                case rel => exact ⟨m, by omega, by go_num, HI.out⟩
                case measure => simp [intOf]
    · have hpos : (0 : Int) < (ys.length : Int) := by omega
      obtain ⟨b, f, rfl, hb, hcell⟩ : ∃ b f, o = some ⟨b, f, none⟩ ∧ b < wq.heap.size ∧ ∀ i, i < ys.length → wq.cell? ⟨b, f + i, none⟩ = some (.int .u32 ((dg ys i : Nat) : Int)) := by
        rcases hyat with h | h
        · rw [h] at hy0; simp at hy0
        · exact h
      have hM : N / 10000 ^ k ≠ 0 := by
        rw [← hyis.2.2]
        intro h
        have := num_zero (by omega) hyis.2.1 h
        rw [this] at hy0; simp at hy0
      have HTOP : Hid (∀ j, k + 1 = j + 1 → N / 10000 ^ j ≠ 0) := by
        intro j hj
        rw [show j = k by omega]
        exact hM
      have by' := by_at b f ys.length c ys wq (by omega) rfl hb hcell hyis.1
      rw [hyis.2.2] at by'
      have BY := hide by'
      have HGR := hide hgr
      have HGL := hide hgr.2.lt
      clear hyis hyne hyat hgr htop hlat hcell hM by' hb
      go_wp2_with fail
      refine BY.out.mono ?_
      rintro e w4 ⟨g, qs, qc, rfl, hg1, hg2, hqc, hqat, hqis, hql, hb4⟩
      have hbel4 := hbel.trans (hb4.mono hsz)
      have HIN : Hid (TxtIn w N k g qs 0 (.slice lo (4 * k) lc) w4) := by
        refine ⟨HGR.out.below hb4, hqat, hg2, fun h => ?_⟩
        have := (HGL.out g h).2
        omega
      obtain ⟨r0, hr0⟩ : ∃ r0, r0 = N / 10000 ^ k % 10000 := ⟨_, rfl⟩
      rw [← hr0]
      have HR0 := hide hr0
      have HQIS := hide hqis
      clear BY HGR HGL hqat hqis hbel hb4 hbel4 hr0
      go_wp2
      go_loopw [3, 5, 6] (fun low r kk wr => ∃ t : Nat, t ≤ 4 ∧ kk = .int .i64 t ∧ r = .int .u32 ((r0 / 10 ^ t : Nat) : Int) ∧ TxtIn w N k g qs t low wr) (fun _ _ kk _ => 4 - (intOf kk).toNat)
      case atStart => exact ⟨0, by omega, rfl, by simp, HIN.out⟩
      case round =>
        clear HIN
        obtain ⟨t, ht, rfl, rfl, hin⟩ := hrel
        by_cases h4 : t = 4
        · subst h4
          have HO : Hid (TxtOut w N la (k + 1) (.slice (some ⟨g, 0, none⟩) qs.length qc) u3 wr) := by
            refine ⟨⟨_, qc, qs, rfl, by omega, hin.at', ?_, ?_⟩, hin.gr, HTOP.out⟩
            · have := HQIS.out
              rw [Nat.div_div_eq_div_mul, ← Nat.pow_succ] at this
              exact this
            · intro b' o' _ e
              simp only [Option.some.injEq, Addr.mk.injEq] at e
              rw [← e.1]; exact hin.ne
          have hlv : lenV u3 = 4 * k + 4 := by
            obtain ⟨_, _, e, _⟩ := hin.gr.at
            rw [e, lowD_len]; rfl
          have HLV := hide hlv
          clear hin hlv
          go_wp2
          go_roundw
          case rel => exact ⟨k + 1, HO.out⟩
          case measure => rw [HLV.out]; simp [lenV]; omega
        · have hown := hin.gr.2
          rw [lowD_len] at hown
          have hsz1 := hin.gr.1.size
          have ht4 : t < 4 := by omega
          obtain ⟨r, hr⟩ : ∃ r, r = r0 / 10 ^ t := ⟨_, rfl⟩
          have hdig : 48 + r % 10 = 48 + N / 10 ^ (4 * k + t) % 10 := by rw [hr, HR0.out, txt_digit N k t ht4]
          have hnext : r / 10 = r0 / 10 ^ (t + 1) := by rw [hr, Nat.div_div_eq_div_mul, ← Nat.pow_succ]
          have hrl : r < 10000 := by
            have h1 : r ≤ r0 := by rw [hr]; exact Nat.div_le_self _ _
            have h2 : r0 < 10000 := by rw [HR0.out]; exact Nat.mod_lt _ (by omega)
            omega
          rw [← hr]
          obtain ⟨d, hd⟩ : ∃ d, d = 48 + r % 10 := ⟨_, rfl⟩
          obtain ⟨r', hr'⟩ : ∃ r', r' = r / 10 := ⟨_, rfl⟩
          have e1 : 48 + (r : Int) % 10 = (d : Int) := by omega
          have e2 : (r : Int) / 10 = (r' : Int) := by omega
          have hd57 : d ≤ 57 := by omega
          have HD : Hid (d = 48 + N / 10 ^ (4 * k + t) % 10) := hd.trans hdig
          have HR' : Hid (r' = r0 / 10 ^ (t + 1)) := hr'.trans hnext
          have HIN := hide hin
          have HOL := hide hin.gr.2.lt
          clear hin hdig hnext hd hr hr'
          go_wp2_with (at_builtin; refine wpList_append_lies _ rfl _ _ 50 rfl w.heap.size 5 i0 (.int .u8 0) 1 1 Tryz.underlying50 hi hz0 hz1 hz2 rfl (by decide) _ _ _ rfl (hown.alloc _) ⟨wr.heap.size, 0, none⟩ 1 1 [.int .u8 (d : Int)] rfl rfl ?c1A ?c2A (by omega) ?c3A ?c4A ?c5A (wr.heap.size + 1) (by simp) ?_)
          try case c1A => exact new_cell wr _ _
          case c2A => first | exact one_one _ _ | rfl
          case c3A => unfold maxLen; omega
          case c4A => omega
          case c5A => first | (simp; omega) | omega
          intro g' cap w5 hown' hgrow hlies hlt
          have HI : Hid (TxtIn w N k g qs (t + 1) (.slice (some ⟨g', 0, none⟩) (4 * k + t + 1) cap) w5) := by
            have hgs := HIN.out.gr.step _ (by rw [lowD_len]; exact hown') hgrow
            rw [HD.out, ← lowD_succ] at hgs
            have hlt5 := HIN.out.lt
            refine ⟨hgs, At.keep32 _ hgrow HIN.out.at' HIN.out.ne, Nat.lt_of_lt_of_le hlt5 (Nat.le_trans (by simp) hgrow.size), ?_⟩
            show some g' ≠ some g
            intro h
            injection h with h
            subst h
            rcases hlies with h | h
            · exact HIN.out.ne h
            · omega
          clear hown hown' hgrow hlies hlt HIN HOL
          go_wp2
          go_roundw
          case rel => exact ⟨t + 1, by omega, by go_num, by first | rw [← HR'.out, e2] | rw [← HR'.out], HI.out⟩
          case measure => simp [intOf]; omega

end Go.Proofs.YtobloamnaemfnaaGreatDoor

namespace Go.Proofs.YtobloamnaemfnaaGreatDoor
open Go.RowKit

end Go.Proofs.YtobloamnaemfnaaGreatDoor

namespace Go.Proofs.YtobloamnaemfnaaGreatDoor
open Go.RowKit

def strN (N : Nat) : ByteArray := ⟨(Lib.decDigits N).toArray⟩

theorem strN_size (N : Nat) : (strN N).size = sizeN N := by simp [strN, sizeN, ByteArray.size]
theorem strN_bys (N : Nat) : bys (strN N) = Lib.decDigits N := by simp [strN, bys]
theorem strN_cut {N : Nat} (h : N ≠ 0) : (strN (N * 10)).extract 0 (sizeN N) = strN N := by
  unfold strN sizeN
  rw [dd_ten h, Lib.extract_mk]
  simp
theorem sizeN_ten {N : Nat} (h : N ≠ 0) : sizeN (N * 10) = sizeN N + 1 := by
  unfold sizeN; rw [dd_ten h]; simp

end Go.Proofs.YtobloamnaemfnaaGreatDoor

namespace Go.Proofs.YtobloamnaemfnaaGreatDoor
open Go.RowKit

set_option maxRecDepth 100000 in
set_option maxHeartbeats 1000000 in
theorem rmay_1_yes (neg : Bool) (w : World) : Calls Tryz.prog 25 #[dcV 1 neg ⟨#[]⟩ 0] w fun e w' => e = .returned (.bool true) ∧ Below w.heap.size w w' := by
  go_enter Tryz.func25, Tryz.ntmps25
  go_wp2
  go_ret
  exact ⟨rfl, (Below.refl _ _).alloc (Nat.le_refl _) _⟩

set_option maxRecDepth 100000 in
set_option maxHeartbeats 1000000 in
theorem rmay_1_dig (neg : Bool) (t : ByteArray) (ex : Int) (w : World) (h : t.size ≠ 0) : Calls Tryz.prog 25 #[dcV 1 neg t ex] w fun e w' => e = .returned (.bool false) ∧ Below w.heap.size w w' := by
  have e0 : ((t.size : Int) == 0) = false := by
    have : ¬ (t.size : Int) = 0 := by omega
    simpa using this
  go_enter Tryz.func25, Tryz.ntmps25
  go_wp2
  go_ret
  exact ⟨rfl, (Below.refl _ _).alloc (Nat.le_refl _) _⟩

set_option maxRecDepth 100000 in
set_option maxHeartbeats 1000000 in
theorem rmay_1_exp (neg : Bool) (ex : Int) (w : World) (h : ¬ ex = 0) : Calls Tryz.prog 25 #[dcV 1 neg ⟨#[]⟩ ex] w fun e w' => e = .returned (.bool false) ∧ Below w.heap.size w w' := by
  have e1 : (ex == 0) = false := by simpa using h
  go_enter Tryz.func25, Tryz.ntmps25
  go_wp2
  go_ret
  exact ⟨rfl, (Below.refl _ _).alloc (Nat.le_refl _) _⟩

set_option maxRecDepth 100000 in
set_option maxHeartbeats 1000000 in
theorem rmay_2_yes (w : World) : Calls Tryz.prog 25 #[dcV 2 false ⟨#[]⟩ 0] w fun e w' => e = .returned (.bool true) ∧ Below w.heap.size w w' := by
  go_enter Tryz.func25, Tryz.ntmps25
  go_wp2
  go_ret
  exact ⟨rfl, (Below.refl _ _).alloc (Nat.le_refl _) _⟩

set_option maxRecDepth 100000 in
set_option maxHeartbeats 1000000 in
theorem rmay_2_neg (t : ByteArray) (ex : Int) (w : World) : Calls Tryz.prog 25 #[dcV 2 true t ex] w fun e w' => e = .returned (.bool false) ∧ Below w.heap.size w w' := by
  go_enter Tryz.func25, Tryz.ntmps25
  go_wp2
  go_ret
  exact ⟨rfl, (Below.refl _ _).alloc (Nat.le_refl _) _⟩

set_option maxRecDepth 100000 in
set_option maxHeartbeats 1000000 in
theorem rmay_2_dig (t : ByteArray) (ex : Int) (w : World) (h : t.size ≠ 0) : Calls Tryz.prog 25 #[dcV 2 false t ex] w fun e w' => e = .returned (.bool false) ∧ Below w.heap.size w w' := by
  have e0 : ((t.size : Int) == 0) = false := by
    have : ¬ (t.size : Int) = 0 := by omega
    simpa using this
  go_enter Tryz.func25, Tryz.ntmps25
  go_wp2
  go_ret
  exact ⟨rfl, (Below.refl _ _).alloc (Nat.le_refl _) _⟩

set_option maxRecDepth 100000 in
set_option maxHeartbeats 1000000 in
theorem rmay_2_exp (ex : Int) (w : World) (h : ¬ ex = 0) : Calls Tryz.prog 25 #[dcV 2 false ⟨#[]⟩ ex] w fun e w' => e = .returned (.bool false) ∧ Below w.heap.size w w' := by
  have e1 : (ex == 0) = false := by simpa using h
  go_enter Tryz.func25, Tryz.ntmps25
  go_wp2
  go_ret
  exact ⟨rfl, (Below.refl _ _).alloc (Nat.le_refl _) _⟩

set_option maxRecDepth 100000 in
set_option maxHeartbeats 1000000 in
theorem rmay_9 (c : Int) (neg : Bool) (t : ByteArray) (ex : Int) (w : World) (h0 : ¬ c = 0) (h1 : ¬ c = 1) (h2 : ¬ c = 2) : Calls Tryz.prog 25 #[dcV c neg t ex] w fun e w' => e = .returned (.bool false) ∧ Below w.heap.size w w' := by
  have c0 : (c != 0) = true := by simpa using h0
  have c1 : (c == 1) = false := by simpa using h1
  have c2 : (c == 2) = false := by simpa using h2
  go_enter Tryz.func25, Tryz.ntmps25
  go_wp2
  go_ret
  exact ⟨rfl, (Below.refl _ _).alloc (Nat.le_refl _) _⟩

set_option maxRecDepth 100000 in
set_option maxHeartbeats 1000000 in
theorem rmay_0_nil (neg : Bool) (w : World) : Calls Tryz.prog 25 #[dcV 0 neg ⟨#[]⟩ 0] w fun e w' => e = .returned (.bool true) ∧ Below w.heap.size w w' := by
  go_enter Tryz.func25, Tryz.ntmps25
  go_wp2
  go_ret
  exact ⟨rfl, (Below.refl _ _).alloc (Nat.le_refl _) _⟩

set_option maxRecDepth 100000 in
set_option maxHeartbeats 1000000 in
theorem rmay_0_nilexp (neg : Bool) (ex : Int) (w : World) (h : ¬ ex = 0) : Calls Tryz.prog 25 #[dcV 0 neg ⟨#[]⟩ ex] w fun e w' => e = .returned (.bool false) ∧ Below w.heap.size w w' := by
  have e1 : (ex == 0) = false := by simpa using h
  go_enter Tryz.func25, Tryz.ntmps25
  go_wp2
  go_ret
  exact ⟨rfl, (Below.refl _ _).alloc (Nat.le_refl _) _⟩

set_option maxRecDepth 100000 in
set_option maxHeartbeats 1000000 in
theorem rmay_0_long (neg : Bool) (t : ByteArray) (ex : Int) (w : World) (h : 1000 < t.size) : Calls Tryz.prog 25 #[dcV 0 neg t ex] w fun e w' => e = .returned (.bool false) ∧ Below w.heap.size w w' := by
  have e0 : ((t.size : Int) == 0) = false := by
    have : ¬ (t.size : Int) = 0 := by omega
    simpa using this
  have e1 : decide ((1000 : Int) < (t.size : Int)) = true := decide_eq_true (by omega)
  go_enter Tryz.func25, Tryz.ntmps25
  go_wp2
  go_ret
  exact ⟨rfl, (Below.refl _ _).alloc (Nat.le_refl _) _⟩

set_option maxRecDepth 100000 in
set_option maxHeartbeats 1000000 in
theorem rmay_0_elow (neg : Bool) (t : ByteArray) (ex : Int) (w : World) (j : Nat) (hj : t.size = j + 1) (h : j + 1 ≤ 1000) (he : ex < -4000) : Calls Tryz.prog 25 #[dcV 0 neg t ex] w fun e w' => e = .returned (.bool false) ∧ Below w.heap.size w w' := by
  have e0 : ((j : Int) + 1 == 0) = false := by
    have : ¬ (j : Int) + 1 = 0 := by omega
    simpa using this
  have e1 : decide ((1000 : Int) < (j : Int) + 1) = false := decide_eq_false (by omega)
  have e2 : decide (ex < -4000) = true := decide_eq_true (by omega)
  go_enter Tryz.func25, Tryz.ntmps25
  go_wp2
  go_ret
  exact ⟨rfl, (Below.refl _ _).alloc (Nat.le_refl _) _⟩

set_option maxRecDepth 100000 in
set_option maxHeartbeats 1000000 in
theorem rmay_0_ehigh (neg : Bool) (t : ByteArray) (ex : Int) (w : World) (j : Nat) (hj : t.size = j + 1) (h : j + 1 ≤ 1000) (he : 4000 < ex) : Calls Tryz.prog 25 #[dcV 0 neg t ex] w fun e w' => e = .returned (.bool false) ∧ Below w.heap.size w w' := by
  have e0 : ((j : Int) + 1 == 0) = false := by
    have : ¬ (j : Int) + 1 = 0 := by omega
    simpa using this
  have e1 : decide ((1000 : Int) < (j : Int) + 1) = false := decide_eq_false (by omega)
  have e2 : decide (ex < -4000) = false := decide_eq_false (by omega)
  have e3 : decide ((4000 : Int) < ex) = true := decide_eq_true (by omega)
  go_enter Tryz.func25, Tryz.ntmps25
  go_wp2
  go_ret
  exact ⟨rfl, (Below.refl _ _).alloc (Nat.le_refl _) _⟩

set_option maxRecDepth 100000 in
set_option maxHeartbeats 1000000 in
theorem rmay_0_low (neg : Bool) (t : ByteArray) (ex : Int) (w : World) (j : Nat) (hj : t.size = j + 1) (h : j + 1 ≤ 1000) (h2 : -4000 ≤ ex) (h3 : ex ≤ 4000) (he : (j : Int) + 1 + ex < -2000) : Calls Tryz.prog 25 #[dcV 0 neg t ex] w fun e w' => e = .returned (.bool false) ∧ Below w.heap.size w w' := by
  have e0 : ((j : Int) + 1 == 0) = false := by
    have : ¬ (j : Int) + 1 = 0 := by omega
    simpa using this
  have e1 : decide ((1000 : Int) < (j : Int) + 1) = false := decide_eq_false (by omega)
  have e2 : decide (ex < -4000) = false := decide_eq_false (by omega)
  have e3 : decide ((4000 : Int) < ex) = false := decide_eq_false (by omega)
  have e4 : decide ((j : Int) + 1 + ex < -2000) = true := decide_eq_true (by omega)
  go_enter Tryz.func25, Tryz.ntmps25
  go_wp2
  go_ret
  exact ⟨rfl, (Below.refl _ _).alloc (Nat.le_refl _) _⟩

set_option maxRecDepth 100000 in
set_option maxHeartbeats 1000000 in
theorem rmay_0_high (neg : Bool) (t : ByteArray) (ex : Int) (w : World) (j : Nat) (hj : t.size = j + 1) (h : j + 1 ≤ 1000) (h2 : -4000 ≤ ex) (h3 : ex ≤ 4000) (he : 2000 < (j : Int) + 1 + ex) : Calls Tryz.prog 25 #[dcV 0 neg t ex] w fun e w' => e = .returned (.bool false) ∧ Below w.heap.size w w' := by
  have e0 : ((j : Int) + 1 == 0) = false := by
    have : ¬ (j : Int) + 1 = 0 := by omega
    simpa using this
  have e1 : decide ((1000 : Int) < (j : Int) + 1) = false := decide_eq_false (by omega)
  have e2 : decide (ex < -4000) = false := decide_eq_false (by omega)
  have e3 : decide ((4000 : Int) < ex) = false := decide_eq_false (by omega)
  have e4 : decide ((j : Int) + 1 + ex < -2000) = false := decide_eq_false (by omega)
  have e5 : decide ((2000 : Int) < (j : Int) + 1 + ex) = true := decide_eq_true (by omega)
  go_enter Tryz.func25, Tryz.ntmps25
  go_wp2
  go_ret
  exact ⟨rfl, (Below.refl _ _).alloc (Nat.le_refl _) _⟩

set_option maxRecDepth 100000 in
set_option maxHeartbeats 1000000 in
theorem rmay_0_bad (neg : Bool) (t : ByteArray) (ex : Int) (w : World) (j : Nat) (hj : t.size = j + 1) (h : j + 1 ≤ 1000) (h2 : -4000 ≤ ex) (h3 : ex ≤ 4000) (h4 : -2000 ≤ (j : Int) + 1 + ex) (h5 : (j : Int) + 1 + ex ≤ 2000) (b : Nat) (hb : b < j + 1) (hd : ¬ (48 ≤ byt (bys t) b ∧ byt (bys t) b ≤ 57)) : Calls Tryz.prog 25 #[dcV 0 neg t ex] w fun e w' => e = .returned (.bool false) ∧ Below w.heap.size w w' := by
  have e0 : ((j : Int) + 1 == 0) = false := by
    have : ¬ (j : Int) + 1 = 0 := by omega
    simpa using this
  have e1 : decide ((1000 : Int) < (j : Int) + 1) = false := decide_eq_false (by omega)
  have e2 : decide (ex < -4000) = false := decide_eq_false (by omega)
  have e3 : decide ((4000 : Int) < ex) = false := decide_eq_false (by omega)
  have e4 : decide ((j : Int) + 1 + ex < -2000) = false := decide_eq_false (by omega)
  have e5 : decide ((2000 : Int) < (j : Int) + 1 + ex) = false := decide_eq_false (by omega)
  have HD := hide hd
  clear hd
  have HB : Hid (Below w.heap.size w (w.alloc (.cells #[.int .i64 0, .bool neg, .string t, .int .i64 ex] 23))) := (Below.refl _ _).alloc (Nat.le_refl _) _
  have blk := Blk.new w #[.int .i64 0, .bool neg, .string t, .int .i64 ex] 23
  obtain ⟨W, hW⟩ : ∃ W, W = w.alloc (.cells #[.int .i64 0, .bool neg, .string t, .int .i64 ex] 23) := ⟨_, rfl⟩
  rw [← hW] at blk HB
  have k2 : W.cell? ⟨w.heap.size, 2, none⟩ = some (.string t) := blk.cell 2
  have k3 : W.cell? ⟨w.heap.size, 3, none⟩ = some (.int .i64 ex) := blk.cell 3
  have HW := hide hW
  clear blk hW
  go_enter Tryz.func25, Tryz.ntmps25
  go_wp2
  simp only [← HW.out]
  go_loopw [4] (fun i wr => ∃ k : Nat, k ≤ b ∧ i = .int .i64 (k : Int) ∧ wr = W) (fun i _ => j + 1 - (intOf i).toNat)
  case atStart => exact ⟨0, Nat.zero_le _, rfl, rfl⟩
  case round =>
    obtain ⟨k, hk, rfl, rfl⟩ := hrel
    have hlt' : (k : Int) < (j : Int) + 1 := by omega
    have hks : k < t.size := by omega
    have hks' : (k : Int) < (t.size : Int) := by omega
    have hg : ∀ h : k < t.size, t[k].toNat = byt (bys t) k := fun h => byt_get t k h
    obtain ⟨v, hv⟩ : ∃ v, v = byt (bys t) k := ⟨_, rfl⟩
    rw [← hv] at hg
    have HV := hide hv
    clear hv
    by_cases g1 : v < 48
    · have g1' : (v : Int) < 48 := by omega
      go_wp2
      go_ret
      exact ⟨rfl, HB.out⟩
    · have g1' : ¬ (v : Int) < 48 := by omega
      by_cases g2 : 57 < v
      · have g2' : (57 : Int) < (v : Int) := by omega
        go_wp2
        go_ret
        exact ⟨rfl, HB.out⟩
      · have g2' : ¬ (57 : Int) < (v : Int) := by omega
        have hne : k ≠ b := fun e => HD.out (by rw [← e, ← HV.out]; omega)
        go_wp2
        exact ⟨⟨k + 1, by omega, by go_num, trivial⟩, by simp [intOf]; omega⟩

set_option maxRecDepth 100000 in
set_option maxHeartbeats 1000000 in
theorem rmay_0_yes (neg : Bool) (t : ByteArray) (ex : Int) (w : World) (j : Nat) (hj : t.size = j + 1) (h : j + 1 ≤ 1000) (h2 : -4000 ≤ ex) (h3 : ex ≤ 4000) (h4 : -2000 ≤ (j : Int) + 1 + ex) (h5 : (j : Int) + 1 + ex ≤ 2000) (hf : byt (bys t) 0 ≠ 48) (hla : byt (bys t) j ≠ 48) (hd : DigB (bys t)) : Calls Tryz.prog 25 #[dcV 0 neg t ex] w fun e w' => e = .returned (.bool true) ∧ Below w.heap.size w w' := by
  have e0 : ((j : Int) + 1 == 0) = false := by
    have : ¬ (j : Int) + 1 = 0 := by omega
    simpa using this
  have e1 : decide ((1000 : Int) < (j : Int) + 1) = false := decide_eq_false (by omega)
  have e2 : decide (ex < -4000) = false := decide_eq_false (by omega)
  have e3 : decide ((4000 : Int) < ex) = false := decide_eq_false (by omega)
  have e4 : decide ((j : Int) + 1 + ex < -2000) = false := decide_eq_false (by omega)
  have e5 : decide ((2000 : Int) < (j : Int) + 1 + ex) = false := decide_eq_false (by omega)
  have HD := hide hd
  have hg0 : ∀ h : 0 < t.size, t[0].toNat = byt (bys t) 0 := fun h => byt_get t 0 h
  have hgz : ∀ h : j < t.size, t[j].toNat = byt (bys t) j := fun h => byt_get t j h
  have hp0 : 0 < t.size := by omega
  have hp1 : j < t.size := by omega
  have hp1' : (j : Int) < (t.size : Int) := by omega
  obtain ⟨a, ha⟩ : ∃ b, b = byt (bys t) 0 := ⟨_, rfl⟩
  obtain ⟨z, hz⟩ : ∃ b, b = byt (bys t) j := ⟨_, rfl⟩
  rw [← ha] at hg0 hf
  rw [← hz] at hgz hla
  have ca : ((a : Int) != 48) = true := by
    have : ¬ (a : Int) = 48 := by omega
    simpa using this
  have cz : ((z : Int) != 48) = true := by
    have : ¬ (z : Int) = 48 := by omega
    simpa using this
  clear hd ha hz hf hla
  have HB : Hid (Below w.heap.size w (w.alloc (.cells #[.int .i64 0, .bool neg, .string t, .int .i64 ex] 23))) := (Below.refl _ _).alloc (Nat.le_refl _) _
  have blk := Blk.new w #[.int .i64 0, .bool neg, .string t, .int .i64 ex] 23
  obtain ⟨W, hW⟩ : ∃ W, W = w.alloc (.cells #[.int .i64 0, .bool neg, .string t, .int .i64 ex] 23) := ⟨_, rfl⟩
  rw [← hW] at blk HB
  have k2 : W.cell? ⟨w.heap.size, 2, none⟩ = some (.string t) := blk.cell 2
  have k3 : W.cell? ⟨w.heap.size, 3, none⟩ = some (.int .i64 ex) := blk.cell 3
  have HW := hide hW
  clear blk hW
  go_enter Tryz.func25, Tryz.ntmps25
  go_wp2
  simp only [← HW.out]
  go_loopw [4] (fun i wr => ∃ k : Nat, k ≤ j + 1 ∧ i = .int .i64 (k : Int) ∧ wr = W) (fun i _ => j + 1 - (intOf i).toNat)
  case atStart => exact ⟨0, Nat.zero_le _, rfl, rfl⟩
  case round =>
    obtain ⟨k, hk, rfl, rfl⟩ := hrel
    by_cases hlt : k < j + 1
    · have hlt' : (k : Int) < (j : Int) + 1 := by omega
      have hks : k < t.size := by omega
      have hks' : (k : Int) < (t.size : Int) := by omega
      have hg : ∀ h : k < t.size, t[k].toNat = byt (bys t) k := fun h => byt_get t k h
      have hb := HD.out k (by rw [bys_len, hj]; exact hlt)
      obtain ⟨v, hv⟩ : ∃ v, v = byt (bys t) k := ⟨_, rfl⟩
      rw [← hv] at hg hb
      have g1' : ¬ (v : Int) < 48 := by omega
      have g2' : ¬ (57 : Int) < (v : Int) := by omega
      clear hv hg0 hgz ca cz
      go_wp2
      exact ⟨⟨k + 1, by omega, by go_num, trivial⟩, by simp [intOf]; omega⟩
    · have hlt' : ¬ (k : Int) < (j : Int) + 1 := by omega
      go_wp2
      go_ret
      exact ⟨rfl, HB.out⟩

set_option maxRecDepth 100000 in
set_option maxHeartbeats 1000000 in
theorem rmay_0_last (neg : Bool) (t : ByteArray) (ex : Int) (w : World) (j : Nat) (hj : t.size = j + 1) (h : j + 1 ≤ 1000) (h2 : -4000 ≤ ex) (h3 : ex ≤ 4000) (h4 : -2000 ≤ (j : Int) + 1 + ex) (h5 : (j : Int) + 1 + ex ≤ 2000) (hf : byt (bys t) 0 ≠ 48) (hla : byt (bys t) j = 48) (hd : DigB (bys t)) : Calls Tryz.prog 25 #[dcV 0 neg t ex] w fun e w' => e = .returned (.bool false) ∧ Below w.heap.size w w' := by
  have e0 : ((j : Int) + 1 == 0) = false := by
    have : ¬ (j : Int) + 1 = 0 := by omega
    simpa using this
  have e1 : decide ((1000 : Int) < (j : Int) + 1) = false := decide_eq_false (by omega)
  have e2 : decide (ex < -4000) = false := decide_eq_false (by omega)
  have e3 : decide ((4000 : Int) < ex) = false := decide_eq_false (by omega)
  have e4 : decide ((j : Int) + 1 + ex < -2000) = false := decide_eq_false (by omega)
  have e5 : decide ((2000 : Int) < (j : Int) + 1 + ex) = false := decide_eq_false (by omega)
  have HD := hide hd
  have hg0 : ∀ h : 0 < t.size, t[0].toNat = byt (bys t) 0 := fun h => byt_get t 0 h
  have hgz : ∀ h : j < t.size, t[j].toNat = byt (bys t) j := fun h => byt_get t j h
  have hp0 : 0 < t.size := by omega
  have hp1 : j < t.size := by omega
  have hp1' : (j : Int) < (t.size : Int) := by omega
  obtain ⟨a, ha⟩ : ∃ b, b = byt (bys t) 0 := ⟨_, rfl⟩
  obtain ⟨z, hz⟩ : ∃ b, b = byt (bys t) j := ⟨_, rfl⟩
  rw [← ha] at hg0 hf
  rw [← hz] at hgz hla
  have ca : ((a : Int) != 48) = true := by
    have : ¬ (a : Int) = 48 := by omega
    simpa using this
  have cz : ((z : Int) != 48) = false := by
    have : (z : Int) = 48 := by omega
    rw [this]; rfl
  clear hd ha hz hf hla
  have HB : Hid (Below w.heap.size w (w.alloc (.cells #[.int .i64 0, .bool neg, .string t, .int .i64 ex] 23))) := (Below.refl _ _).alloc (Nat.le_refl _) _
  have blk := Blk.new w #[.int .i64 0, .bool neg, .string t, .int .i64 ex] 23
  obtain ⟨W, hW⟩ : ∃ W, W = w.alloc (.cells #[.int .i64 0, .bool neg, .string t, .int .i64 ex] 23) := ⟨_, rfl⟩
  rw [← hW] at blk HB
  have k2 : W.cell? ⟨w.heap.size, 2, none⟩ = some (.string t) := blk.cell 2
  have k3 : W.cell? ⟨w.heap.size, 3, none⟩ = some (.int .i64 ex) := blk.cell 3
  have HW := hide hW
  clear blk hW
  go_enter Tryz.func25, Tryz.ntmps25
  go_wp2
  simp only [← HW.out]
  go_loopw [4] (fun i wr => ∃ k : Nat, k ≤ j + 1 ∧ i = .int .i64 (k : Int) ∧ wr = W) (fun i _ => j + 1 - (intOf i).toNat)
  case atStart => exact ⟨0, Nat.zero_le _, rfl, rfl⟩
  case round =>
    obtain ⟨k, hk, rfl, rfl⟩ := hrel
    by_cases hlt : k < j + 1
    · have hlt' : (k : Int) < (j : Int) + 1 := by omega
      have hks : k < t.size := by omega
      have hks' : (k : Int) < (t.size : Int) := by omega
      have hg : ∀ h : k < t.size, t[k].toNat = byt (bys t) k := fun h => byt_get t k h
      have hb := HD.out k (by rw [bys_len, hj]; exact hlt)
      obtain ⟨v, hv⟩ : ∃ v, v = byt (bys t) k := ⟨_, rfl⟩
      rw [← hv] at hg hb
      have g1' : ¬ (v : Int) < 48 := by omega
      have g2' : ¬ (57 : Int) < (v : Int) := by omega
      clear hv hg0 hgz ca cz
      go_wp2
      exact ⟨⟨k + 1, by omega, by go_num, trivial⟩, by simp [intOf]; omega⟩
    · have hlt' : ¬ (k : Int) < (j : Int) + 1 := by omega
      go_wp2
      go_ret
      exact ⟨rfl, HB.out⟩

set_option maxRecDepth 100000 in
set_option maxHeartbeats 1000000 in
theorem rmay_0_first (neg : Bool) (t : ByteArray) (ex : Int) (w : World) (j : Nat) (hj : t.size = j + 1) (h : j + 1 ≤ 1000) (h2 : -4000 ≤ ex) (h3 : ex ≤ 4000) (h4 : -2000 ≤ (j : Int) + 1 + ex) (h5 : (j : Int) + 1 + ex ≤ 2000) (hf : byt (bys t) 0 = 48) (hd : DigB (bys t)) : Calls Tryz.prog 25 #[dcV 0 neg t ex] w fun e w' => e = .returned (.bool false) ∧ Below w.heap.size w w' := by
  have e0 : ((j : Int) + 1 == 0) = false := by
    have : ¬ (j : Int) + 1 = 0 := by omega
    simpa using this
  have e1 : decide ((1000 : Int) < (j : Int) + 1) = false := decide_eq_false (by omega)
  have e2 : decide (ex < -4000) = false := decide_eq_false (by omega)
  have e3 : decide ((4000 : Int) < ex) = false := decide_eq_false (by omega)
  have e4 : decide ((j : Int) + 1 + ex < -2000) = false := decide_eq_false (by omega)
  have e5 : decide ((2000 : Int) < (j : Int) + 1 + ex) = false := decide_eq_false (by omega)
  have HD := hide hd
  have hg0 : ∀ h : 0 < t.size, t[0].toNat = byt (bys t) 0 := fun h => byt_get t 0 h
  have hgz : ∀ h : j < t.size, t[j].toNat = byt (bys t) j := fun h => byt_get t j h
  have hp0 : 0 < t.size := by omega
  have hp1 : j < t.size := by omega
  have hp1' : (j : Int) < (t.size : Int) := by omega
  obtain ⟨a, ha⟩ : ∃ b, b = byt (bys t) 0 := ⟨_, rfl⟩
  obtain ⟨z, hz⟩ : ∃ b, b = byt (bys t) j := ⟨_, rfl⟩
  rw [← ha] at hg0 hf
  rw [← hz] at hgz
  have ca : ((a : Int) != 48) = false := by
    have : (a : Int) = 48 := by omega
    rw [this]; rfl
  have cz : True := trivial
  clear hd ha hz hf
  have HB : Hid (Below w.heap.size w (w.alloc (.cells #[.int .i64 0, .bool neg, .string t, .int .i64 ex] 23))) := (Below.refl _ _).alloc (Nat.le_refl _) _
  have blk := Blk.new w #[.int .i64 0, .bool neg, .string t, .int .i64 ex] 23
  obtain ⟨W, hW⟩ : ∃ W, W = w.alloc (.cells #[.int .i64 0, .bool neg, .string t, .int .i64 ex] 23) := ⟨_, rfl⟩
  rw [← hW] at blk HB
  have k2 : W.cell? ⟨w.heap.size, 2, none⟩ = some (.string t) := blk.cell 2
  have k3 : W.cell? ⟨w.heap.size, 3, none⟩ = some (.int .i64 ex) := blk.cell 3
  have HW := hide hW
  clear blk hW
  go_enter Tryz.func25, Tryz.ntmps25
  go_wp2
  simp only [← HW.out]
  go_loopw [4] (fun i wr => ∃ k : Nat, k ≤ j + 1 ∧ i = .int .i64 (k : Int) ∧ wr = W) (fun i _ => j + 1 - (intOf i).toNat)
  case atStart => exact ⟨0, Nat.zero_le _, rfl, rfl⟩
  case round =>
    obtain ⟨k, hk, rfl, rfl⟩ := hrel
    by_cases hlt : k < j + 1
    · have hlt' : (k : Int) < (j : Int) + 1 := by omega
      have hks : k < t.size := by omega
      have hks' : (k : Int) < (t.size : Int) := by omega
      have hg : ∀ h : k < t.size, t[k].toNat = byt (bys t) k := fun h => byt_get t k h
      have hb := HD.out k (by rw [bys_len, hj]; exact hlt)
      obtain ⟨v, hv⟩ : ∃ v, v = byt (bys t) k := ⟨_, rfl⟩
      rw [← hv] at hg hb
      have g1' : ¬ (v : Int) < 48 := by omega
      have g2' : ¬ (57 : Int) < (v : Int) := by omega
      clear hv hg0 hgz ca cz
      go_wp2
      exact ⟨⟨k + 1, by omega, by go_num, trivial⟩, by simp [intOf]; omega⟩
    · have hlt' : ¬ (k : Int) < (j : Int) + 1 := by omega
      go_wp2
      go_ret
      exact ⟨rfl, HB.out⟩

theorem rmay_yes (c : Int) (neg : Bool) (t : ByteArray) (ex : Int) (w : World) (h : MayD c neg (bys t) ex) : Calls Tryz.prog 25 #[dcV c neg t ex] w fun e w' => e = .returned (.bool true) ∧ Below w.heap.size w w' := by
  have h' := h
  rcases h with ⟨rfl, _⟩ | ⟨rfl, h1, rfl⟩ | ⟨rfl, rfl, h1, rfl⟩
  · rcases (mayD_0 neg t ex).1 h' with h1 | h1
    · obtain ⟨h1, rfl⟩ := h1
      rw [size_nil h1]; exact rmay_0_nil neg w
    · obtain ⟨h0, h1, h2, h3, h4, h5, h6⟩ := h1
      rw [bys_len] at h1 h2 h3 h5
      have hn0 : t.size ≠ 0 := fun e => h0 (bys_nil.2 e)
      obtain ⟨j, hj⟩ : ∃ j, t.size = j + 1 := ⟨t.size - 1, by omega⟩
      rw [show t.size - 1 = j by omega] at h5
      exact rmay_0_yes neg t ex w j hj (by omega) (by omega) (by omega) (by omega) (by omega) h4 h5 h6
  · rw [size_nil (bys_nil.1 h1)]; exact rmay_1_yes neg w
  · rw [size_nil (bys_nil.1 h1)]; exact rmay_2_yes w

theorem rmay_no (c : Int) (neg : Bool) (t : ByteArray) (ex : Int) (w : World) (h : ¬ MayD c neg (bys t) ex) : Calls Tryz.prog 25 #[dcV c neg t ex] w fun e w' => e = .returned (.bool false) ∧ Below w.heap.size w w' := by
  by_cases h0 : c = 0
  · subst h0
    rw [mayD_0] at h
    by_cases hz : t.size = 0
    · rw [size_nil hz]; exact rmay_0_nilexp neg ex w (fun e => h (.inl ⟨hz, e⟩))
    · obtain ⟨j, hj⟩ : ∃ j, t.size = j + 1 := ⟨t.size - 1, by omega⟩
      rcases Nat.lt_or_ge 1000 t.size with h1 | h1
      · exact rmay_0_long neg t ex w h1
      · by_cases h2 : ex < -4000
        · exact rmay_0_elow neg t ex w j hj (by omega) h2
        · by_cases h3 : 4000 < ex
          · exact rmay_0_ehigh neg t ex w j hj (by omega) h3
          · by_cases h4 : (j : Int) + 1 + ex < -2000
            · exact rmay_0_low neg t ex w j hj (by omega) (by omega) (by omega) h4
            · by_cases h5 : 2000 < (j : Int) + 1 + ex
              · exact rmay_0_high neg t ex w j hj (by omega) (by omega) (by omega) h5
              · by_cases hd : DigB (bys t)
                · by_cases h6 : byt (bys t) 0 = 48
                  · exact rmay_0_first neg t ex w j hj (by omega) (by omega) (by omega) (by omega) (by omega) h6 hd
                  · by_cases h7 : byt (bys t) j = 48
                    · exact rmay_0_last neg t ex w j hj (by omega) (by omega) (by omega) (by omega) (by omega) h6 h7 hd
                    · exfalso
                      apply h
                      refine .inr ?_
                      unfold DigD
                      rw [bys_len, hj]
                      exact ⟨fun e => hz (bys_nil.1 e), by omega, by omega, by omega, h6, by rw [Nat.add_sub_cancel]; exact h7, hd⟩
                · obtain ⟨k, hk⟩ := Classical.not_forall.1 hd
                  obtain ⟨hk1, hk2⟩ := Classical.not_imp.1 hk
                  rw [bys_len, hj] at hk1
                  exact rmay_0_bad neg t ex w j hj (by omega) (by omega) (by omega) (by omega) (by omega) k hk1 hk2
  · by_cases h1 : c = 1
    · subst h1
      by_cases hz : t.size = 0
      · rw [size_nil hz]
        exact rmay_1_exp neg ex w (fun e => h (.inr (.inl ⟨rfl, bys_nil.2 hz, e⟩)))
      · exact rmay_1_dig neg t ex w hz
    · by_cases h2 : c = 2
      · subst h2
        cases neg with
        | true => exact rmay_2_neg t ex w
        | false =>
          by_cases hz : t.size = 0
          · rw [size_nil hz]
            exact rmay_2_exp ex w (fun e => h (.inr (.inr ⟨rfl, rfl, bys_nil.2 hz, e⟩)))
          · exact rmay_2_dig t ex w hz
      · exact rmay_9 c neg t ex w h0 h1 h2

end Go.Proofs.YtobloamnaemfnaaGreatDoor

namespace Go.Proofs.YtobloamnaemfnaaGreatDoor
open Go.RowKit

end Go.Proofs.YtobloamnaemfnaaGreatDoor
