/-
  What the reference's by does: the quotient by 10000, and the rest.
-/
import Derived.Test.YtfcdjhjdiadbfaaDoorZRMul
import Derived.Test.YtfcdjhjdiadbfaaDoorZLong
import Derived.Test.YtfcdjhjdiadbfaaDoorZRAdd
namespace Go.Proofs.YtfcdjhjdiadbfaaDoor
open Go.RowKit

/-- What by answers: the quotient's digits, without noughts on top, and the rest. -/
def ByPost (w : World) (m n : Nat) (e : Ending) (w' : World) : Prop :=
  ∃ g ys cap, e = .returned (.tuple #[.slice (some ⟨g, 0, none⟩) (List.length ys) cap, .int .u32 ((n % 10000 : Nat) : Int)]) ∧ w.heap.size ≤ g ∧ g < w'.heap.size ∧ ys.length ≤ cap ∧ At .u32 w' (some ⟨g, 0, none⟩) ys ∧ Is 65536 ys (n / 10000) ∧ ys.length ≤ m ∧ Below w.heap.size w w'

/-- Ahead of the digit k: the digits from k on are divided. -/
structure ByIn (w : World) (xs : List Nat) (la k r : Nat) (wr : World) : Prop where
  bel : Below w.heap.size w wr
  small : r < 10000
  row : ∃ q, Row .u32 73 wr w.heap.size q ∧ q.length = la ∧ Ok 65536 q ∧ (∀ j, j < k → dg q j = 0) ∧ num 65536 q * 10000 + r * 65536 ^ k + V 65536 (dg xs) k = num 65536 xs

set_option maxRecDepth 20000 in
theorem by_step {B q r a k v N : Nat} (h : q * 10000 + r * B ^ (k + 1) + (v + a * B ^ k) = N) :
    (q + (r * B + a) / 10000 * B ^ k) * 10000 + (r * B + a) % 10000 * B ^ k + v = N := by
  have h1 := Nat.div_add_mod (r * B + a) 10000
  rw [Nat.pow_succ] at h
  generalize B ^ k = P at h ⊢
  generalize hx : r * B + a = x at h1 ⊢
  generalize x / 10000 = u at h1 ⊢
  generalize x % 10000 = t at h1 ⊢
  have h2 : (10000 * u + t) * P = (r * B + a) * P := by rw [h1, hx]
  rw [Nat.add_mul, Nat.add_mul, Nat.mul_assoc r, Nat.mul_comm B P, Nat.mul_assoc 10000] at h2
  rw [Nat.add_mul, Nat.mul_comm (u * P)]
  generalize u * P = U at h2 ⊢
  generalize t * P = T at h2 ⊢
  generalize a * P = A at h h2
  generalize r * (P * B) = R at h h2
  clear h1 hx
  rw [Nat.mul_comm q] at h ⊢
  omega

theorem ByIn.step {w wr wr' : World} {xs : List Nat} {la k r : Nat} (hb : Below w.heap.size w wr) (hr : r < 10000) (hk : k < la) {q : List Nat} (hq : Row .u32 73 wr w.heap.size q) (hl : q.length = la) (ho : Ok 65536 q) (hz : ∀ j, j < k + 1 → dg q j = 0)
    (hn : num 65536 q * 10000 + r * 65536 ^ (k + 1) + V 65536 (dg xs) (k + 1) = num 65536 xs) (hx : dg xs k < 65536)
    (hw : Like wr' (wr.setCell ⟨w.heap.size, k, none⟩ (.int .u32 (((r * 65536 + dg xs k) / 10000 : Nat) : Int)))) :
    ByIn w xs la k ((r * 65536 + dg xs k) % 10000) wr' := by
  refine ⟨hw.below (hb.setCell (Nat.le_refl _) _), Nat.mod_lt _ (by omega), _, (hq.set k _).alike hw, by simp [hl], ho.set (by omega) (by omega), ?_, ?_⟩
  · intro j hj
    rw [dg_set _ _ _ _ (by omega), if_neg (by omega)]
    exact hz j (by omega)
  · have e := num_set 65536 q k ((r * 65536 + dg xs k) / 10000) (by omega)
    rw [hz k (by omega), Nat.zero_mul, Nat.add_zero] at e
    rw [e]
    exact by_step hn

theorem by_or {r a : Nat} (hr : r < 10000) (ha : a < 65536) : bits .or .u32 ((r : Int) * 65536) (a : Int) = ((r * 65536 + a : Nat) : Int) := by
  rw [show (r : Int) * 65536 = ((r * 65536 : Nat) : Int) by omega, u32_or_nat _ _ (by omega) (by omega), Nat.or_comm]
  have h := or_low (y := a) (a := r) (s := 16) (by simpa using ha)
  rw [show (2 : Nat) ^ 16 = 65536 by decide +kernel] at h
  rw [h, Nat.add_comm]

set_option maxRecDepth 100000 in
set_option maxHeartbeats 1000000 in
theorem by_at (b o la ca : Nat) (xs : List Nat) (w : World) (hla : la ≤ 100000000) (hx : xs.length = la) (hb : b < w.heap.size)
    (hcell : ∀ i, i < la → w.cell? ⟨b, o + i, none⟩ = some (.int .u32 ((dg xs i : Nat) : Int))) (ox : Ok 65536 xs) :
    Calls Tryd.prog 57 #[.slice (some ⟨b, o, none⟩) la ca, .int .u32 10000] w (ByPost w la (num 65536 xs)) := by
  obtain ⟨i0, hi, hz0, hz1, hz2⟩ := info_parts Tryd.infoD
  go_enter Tryd.func57, Tryd.ntmps57
  go_wp2_with (at_make; refine wpList_make_full _ rfl _ _ 26 rfl w.heap.size 73 i0 (.int .u32 0) 1 Tryd.underlying26 hi hz0 hz1 _ _ _ _ la rfl rfl (by omega) (by omega) (by rw [hz2]; omega) (by unfold maxLen; omega) (Nat.le_refl _) ?_)
  intro w1 hown hgrow
  have hr1 : Row .u32 73 w1 w.heap.size (List.replicate la 0) := Row.made hown
  have hbl1 : Below w.heap.size w w1 := (Below.refl _ _).grown hgrow (Nat.le_refl _) (fun k hk => by cases hk)
  have HST : Hid (ByIn w xs la la 0 w1) := ⟨hbl1, by omega, _, hr1, by simp, Ok.replicate (by omega) la, fun j _ => dg_replicate la j, by rw [num_replicate, ← hx]; simp [num]⟩
  clear hown hgrow hr1 hbl1
  go_wp2
  go_loopw [7, 8, 9] (fun rv i _ wr => ∃ k r : Nat, k ≤ la ∧ rv = .int .u32 (r : Int) ∧ i = .int .i64 ((k : Int) - 1) ∧ ByIn w xs la k r wr) (fun _ i _ _ => (intOf i + 1).toNat)
  case atStart => exact ⟨la, 0, Nat.le_refl _, rfl, rfl, HST.out⟩
  case round =>
    clear HST
    obtain ⟨k, r, hk, rfl, rfl, hin⟩ := hrel
    obtain ⟨q, hq, hql, hqo, hqz, hqn⟩ := hin.row
    have hbr := hin.bel
    have hrs := hin.small
    rcases k with _ | k
    · obtain ⟨n, hn⟩ : ∃ n, n = num 65536 xs := ⟨_, rfl⟩
      rw [Nat.pow_zero, Nat.mul_one, show V 65536 (dg xs) 0 = 0 from rfl, Nat.add_zero, ← hn] at hqn
      have e1 : num 65536 q = n / 10000 := by omega
      have e2 : r = n % 10000 := by omega
      rw [hn] at e1 e2
      have hat := hq.at
      have HIS : Hid (Is 65536 (trimmed q) (num 65536 xs / 10000)) := by rw [← e1]; exact Is.trimmed hqo
      have HE2 : Hid (r = num 65536 xs % 10000) := e2
      have hg := hq.lt
      have HLE : Hid ((trimmed q).length ≤ la) := by rw [← hql]; exact length_trimmed_le q
      have HTL : Hid ((trimmed q).length = tops q la) := by rw [← hql]; exact length_trimmed q
      have HAT := hide hat.trimmed
      have hcq : ∀ i, i < la → wr.cell? ⟨w.heap.size, i, none⟩ = some (.int .u32 ((q[i]?.getD 0 : Nat) : Int)) := fun i hi => by have := hq.cell i (by omega); exact this
      have HCQ := hide hcq
      clear hin hq hqo hqz hqn hat e1 e2 hn hcq hcell
      go_wp2
      go_loop [10] (fun n => ∃ k : Nat, k ≤ la ∧ n = .int .i64 k ∧ tops q la = tops q k) (fun n => (intOf n).toNat)
      case atStart => exact ⟨la, Nat.le_refl _, rfl, rfl⟩
      case round =>
        obtain ⟨k, hk, rfl, ht⟩ := hrel
        have HT : Hid (tops q la = tops q k) := ht
        clear ht
        have htl := tops_le q k
        rcases k with _ | k
        · have et : tops q la = 0 := by rw [HT.out]; rfl
          have HET := hide et
          clear et
          go_wp2
          go_ret2
          exact ⟨w.heap.size, trimmed q, la, by rw [HTL.out, HET.out, HE2.out]; rfl, Nat.le_refl _, hg, HLE.out, HAT.out, HIS.out, HLE.out, hbr⟩
        · have hck := HCQ.out k (by omega)
          have hpos : (0 : Int) < ((k + 1 : Nat) : Int) := by omega
          by_cases hz : q[k]?.getD 0 = 0
          · rw [hz] at hck
            have HT2 : Hid (tops q la = tops q k) := by rw [HT.out]; simp [tops, hz, Hid]
            go_wp2
            go_round
            case rel => exact ⟨k, by omega, by go_num, HT2.out⟩
            case measure => simp [intOf]
          · have HET : Hid (tops q la = k + 1) := by rw [HT.out]; simp [tops, hz, Hid]
            go_wp2
            go_ret2
            exact ⟨w.heap.size, trimmed q, la, by rw [HTL.out, HET.out, HE2.out]; rfl, Nat.le_refl _, hg, HLE.out, HAT.out, HIS.out, HLE.out, hbr⟩
    · have c0 : wr.cell? ⟨b, o + k, none⟩ = some (.int .u32 ((dg xs k : Nat) : Int)) := (hbr.cell hb).trans (hcell k (by omega))
      have c3 := hq.cell k (by omega)
      have f3 := hq.free k
      rw [hqz k (by omega)] at c3
      have hst := fun wr' hw => ByIn.step (wr' := wr') hbr hrs (by omega) hq hql hqo hqz hqn (ox k) hw
      obtain ⟨a, ha⟩ : ∃ a, a = dg xs k := ⟨_, rfl⟩
      have hal : a < 65536 := by rw [ha]; exact ox k
      rw [← ha] at c0 hst
      have e1 := by_or hrs hal
      obtain ⟨x, hxx⟩ : ∃ x, x = r * 65536 + a := ⟨_, rfl⟩
      rw [← hxx] at e1 hst
      have hxl : x < 655360000 := by omega
      obtain ⟨d, hd⟩ : ∃ d, d = x / 10000 := ⟨_, rfl⟩
      obtain ⟨m, hm⟩ : ∃ m, m = x % 10000 := ⟨_, rfl⟩
      rw [← hd, ← hm] at hst
      have e2 : (x : Int) / 10000 = (d : Int) := by omega
      have e3 : (x : Int) % 10000 = (m : Int) := by omega
      have HS : Hid (∀ wr', Like wr' (wr.setCell ⟨w.heap.size, k, none⟩ (.int .u32 (d : Int))) → ByIn w xs la k m wr') := hst
      have hkl : (k : Int) < (la : Int) := by omega
      clear hst hin hq hqo hqz hqn ha hxx hd hm hcell ox
      go_wp2
      go_roundw
      case rel => exact ⟨k, m, by omega, by rw [e3], by go_num, HS.out _ ⟨rfl, rfl, rfl, rfl⟩⟩
      case measure => simp [intOf]

end Go.Proofs.YtfcdjhjdiadbfaaDoor
