/-
  What the reference's DivMod does.
  What the reference's DivMod does: the walk.
  What the reference's DivMod does, of any number.
-/
import Derived.Test.YtpiloigpncbccacGreatDoorZRAdd
import Derived.Test.YtpiloigpncbccacGreatDoorZRSub
import Derived.Test.YtpiloigpncbccacGreatDoorZShort
namespace Go.Proofs.YtpiloigpncbccacGreatDoor
open Go.RowKit

/- (hide is in Long, which this doesn't import) -/
theorem hide32 {p : Prop} (h : p) : Hid p := h

/-- At the head of the reference's loop, k bits being left: the bits so far, divided by B. -/
structure RDivInv (w : World) (m A B k : Nat) (v : Value) (wr : World) : Prop where
  bel : Below w.heap.size w wr
  quo : ∃ q, Row .u32 50 wr w.heap.size q ∧ q.length = m ∧ Ok 65536 q ∧ num 65536 q = A / 2 ^ k / B * 2 ^ k
  rst : ∃ ro rc rs, v = .slice ro rs.length rc ∧ rs.length ≤ rc ∧ At .u32 wr ro rs ∧ Is 65536 rs (A / 2 ^ k % B)

theorem RDivInv.stay {w wr w1 wr' : World} {m A B k : Nat} {q : List Nat} {ro : Option Addr} {rc : Nat} {rs : List Nat} (hB : 0 < B) (hb : Below w.heap.size w wr) (hq : Row .u32 50 wr w.heap.size q) (hl : q.length = m) (ho : Ok 65536 q) (hn : num 65536 q = A / 2 ^ (k + 1) / B * 2 ^ (k + 1))
    (hlt : ¬ B ≤ 2 * (A / 2 ^ (k + 1) % B) + A / 2 ^ k % 2) (hb1 : Below wr.heap.size wr w1) (hlr : rs.length ≤ rc) (hat : At .u32 w1 ro rs) (his : Is 65536 rs (2 * (A / 2 ^ (k + 1) % B) + A / 2 ^ k % 2)) (hw : Like wr' w1) :
    RDivInv w m A B k (.slice ro rs.length rc) wr' := by
  obtain ⟨e1, e2⟩ := (rdiv_next A B k hB).2 hlt
  refine ⟨hw.below (hb.trans (hb1.mono hb.size)), ⟨q, (hq.below hb1 hq.lt).alike hw, hl, ho, ?_⟩, ro, rc, rs, rfl, hlr, hat.same hw.1, ?_⟩
  · rw [hn, e1]
    generalize A / 2 ^ (k + 1) / B = Q
    rw [Nat.pow_succ, Nat.mul_comm (2 ^ k) 2, ← Nat.mul_assoc, Nat.mul_comm Q 2]
  · rw [e2]; exact his

theorem RDivInv.put {w wr w1 wr' : World} {m A B k j s : Nat} {q : List Nat} {ro : Option Addr} {rc : Nat} {rs : List Nat} (hB : 0 < B) (hb : Below w.heap.size w wr) (hq : Row .u32 50 wr w.heap.size q) (hl : q.length = m) (ho : Ok 65536 q) (hn : num 65536 q = A / 2 ^ (k + 1) / B * 2 ^ (k + 1))
    (hk : k = 16 * j + s) (hs : s ≤ 15) (hj : j < m) (hge : B ≤ 2 * (A / 2 ^ (k + 1) % B) + A / 2 ^ k % 2) (hb1 : Below wr.heap.size wr w1) (hlr : rs.length ≤ rc) (hat : At .u32 w1 ro rs) (his : Is 65536 rs (2 * (A / 2 ^ (k + 1) % B) + A / 2 ^ k % 2 - B))
    (hnw : ∀ b o, ro = some ⟨b, o, none⟩ → w.heap.size < b) (hw : Like wr' (w1.setCell ⟨w.heap.size, j, none⟩ (.int .u32 ((dg q j ||| 2 ^ s : Nat) : Int)))) :
    RDivInv w m A B k (.slice ro rs.length rc) wr' := by
  obtain ⟨e1, e2⟩ := (rdiv_next A B k hB).1 hge
  obtain ⟨b1, b2⟩ := set_bit (ho j) hs (low_zero ho hs (by rw [hn, hk]))
  have hbw := hb.trans (hb1.mono hb.size)
  have hat' : ∀ u, At .u32 (w1.setCell ⟨w.heap.size, j, none⟩ u) ro rs := by
    intro u
    rcases hat with h | ⟨b, o, h1, h2, h3⟩
    · exact .inl h
    · have hne := hnw b o h1
      refine .inr ⟨b, o, h1, by simpa [World.setCell] using h2, fun i hi => ?_⟩
      rw [World.cell?_of_block (w := w1) (Below.heap_setCell _ _ _ _ (by show b ≠ w.heap.size; omega))]
      exact h3 i hi
  refine ⟨hw.below (hbw.setCell (Nat.le_refl _) _), ⟨q.set j (dg q j ||| 2 ^ s), ((hq.below hb1 hq.lt).set j _).alike hw, by simp [hl], ho.set (by omega) (by rw [b1]; exact b2), ?_⟩, ro, rc, rs, rfl, hlr, (hat' _).same hw.1, ?_⟩
  · have h := num_set 65536 q j (dg q j ||| 2 ^ s) (by omega)
    rw [b1, Nat.add_mul] at h
    have e3 : 2 ^ s * 65536 ^ j = 2 ^ k := by rw [pow16j, ← Nat.pow_add, hk, Nat.add_comm]
    rw [b1, e1, Nat.add_mul, Nat.one_mul]
    have e4 : 2 * (A / 2 ^ (k + 1) / B) * 2 ^ k = A / 2 ^ (k + 1) / B * 2 ^ (k + 1) := by
      generalize A / 2 ^ (k + 1) / B = Q
      rw [Nat.pow_succ, Nat.mul_comm (2 ^ k) 2, ← Nat.mul_assoc, Nat.mul_comm Q 2]
    rw [e4, ← hn]
    omega
  · rw [e2]; exact his

/-- What the reference's DivMod answers. -/
def RDivPost (w : World) (m p q r : Nat) (e : Ending) (w' : World) : Prop :=
  ∃ ao ca ys bo cb zs, e = .returned (.tuple #[.slice ao ys.length ca, .slice bo zs.length cb]) ∧ ys.length ≤ ca ∧ zs.length ≤ cb ∧ At .u32 w' ao ys ∧ At .u32 w' bo zs ∧ Is 65536 ys q ∧ Is 65536 zs r ∧ ys.length ≤ m ∧ zs.length ≤ p ∧ Below w.heap.size w w'

theorem lit32 (w : World) : At .u32 (w.alloc (.cells #[.int .u32 1] 50)) (some ⟨w.heap.size, 0, none⟩) [1] :=
  Row.at (k := .u32) (e := 50) (heap_alloc_new w _)

theorem ok1 : Ok 65536 [1] := by
  intro i
  rcases i with _ | i
  · simp [dg]
  · rw [dg_out (by simp)]; omega

end Go.Proofs.YtpiloigpncbccacGreatDoor

namespace Go.Proofs.YtpiloigpncbccacGreatDoor
open Go.RowKit

theorem wrap2s {s : Nat} (hs : s ≤ 15) : IntKind.u32.wrap ((2 : Int) ^ s) = ((2 ^ s : Nat) : Int) := by
  have := pow_lt16 hs
  rw [IntKind.wrap_u32', show (2 : Int) ^ s = ((2 ^ s : Nat) : Int) by push_cast; rfl]
  generalize 2 ^ s = p at *
  omega

theorem and1u (a : Nat) (ha : a < 4294967296) : bits .and .u32 (a : Int) 1 = ((a % 2 : Nat) : Int) := by
  have h := u32_and_nat a 1 ha (by omega)
  rw [Nat.and_one_is_mod] at h
  exact h

set_option maxRecDepth 100000 in
set_option maxHeartbeats 1000000 in
theorem rdivmod_at (b o m ca lb cb : Nat) (bo : Option Addr) (xs ys : List Nat) (w : World) (hm : m ≤ 10000000) (hlb : lb ≤ 10000000) (hlbc : lb ≤ cb) (hx : xs.length = m) (hy : ys.length = lb) (hb : b < w.heap.size)
    (hcell : ∀ i, i < m → w.cell? ⟨b, o + i, none⟩ = some (.int .u32 ((dg xs i : Nat) : Int))) (ox : Ok 65536 xs) (hay : At .u32 w bo ys) (oy : Ok 65536 ys) (ty : Top ys) (hB : 0 < num 65536 ys) :
    Calls Tryz.prog 16 #[.slice (some ⟨b, o, none⟩) m ca, .slice bo lb cb] w (RDivPost w m lb (num 65536 xs / num 65536 ys) (num 65536 xs % num 65536 ys)) := by
  obtain ⟨i0, hi, hz0, hz1, hz2⟩ := info_parts Tryz.infoD
  obtain ⟨A, hA⟩ : ∃ A, A = num 65536 xs := ⟨_, rfl⟩
  obtain ⟨B, hBB⟩ : ∃ B, B = num 65536 ys := ⟨_, rfl⟩
  rw [← hA, ← hBB]
  rw [← hBB] at hB
  have HB : Hid (B = num 65536 ys) := hBB
  have HA : Hid (A = num 65536 xs) := hA
  have HAL : Hid (A < 2 ^ (16 * m)) := by rw [hA, ← pow16j, ← hx]; exact num_lt ox
  have HTY : Hid (Top ys) := ty
  have HC : Hid (∀ i, i < m → w.cell? ⟨b, o + i, none⟩ = some (.int .u32 ((dg xs i : Nat) : Int))) := hcell
  clear hA hBB ty hcell
  go_enter Tryz.func16, Tryz.ntmps16
  go_wp2_with (at_make; refine wpList_make_full _ rfl _ _ 35 rfl w.heap.size 50 i0 (.int .u32 0) 1 Tryz.underlying35 hi hz0 hz1 _ _ _ _ m rfl rfl (by omega) (by omega) (by rw [hz2]; omega) (by unfold maxLen; omega) (Nat.le_refl _) ?_)
  intro w1 hown hgrow
  have hr1 : Row .u32 50 w1 w.heap.size (List.replicate m 0) := Row.made hown
  have hb1 : Below w.heap.size w w1 := (Below.refl _ _).grown hgrow (Nat.le_refl _) (fun k hk => by cases hk)
  clear hown hgrow
  go_wp2
  go_loopw [7, 8] (fun v i wr => ∃ k : Nat, k ≤ 16 * m ∧ i = .int .i64 ((k : Int) - 1) ∧ RDivInv w m A B k v wr) (fun _ i _ => (intOf i + 1).toNat)
  case atStart =>
    have e0 : A / 2 ^ (16 * m) = 0 := Nat.div_eq_of_lt HAL.out
    refine ⟨16 * m, Nat.le_refl _, congrArg (Value.int IntKind.i64) (by omega), hb1.alloc hb1.size _, ⟨_, hr1.alloc _, by simp, Ok.replicate (by omega) _, ?_⟩, _, 0, [], rfl, Nat.le_refl _, At.nil _ _ _, ?_⟩
    · rw [num_replicate, e0, Nat.zero_div, Nat.zero_mul]
    · rw [e0, Nat.zero_mod]; exact Is.none (by omega)
  case round =>
    clear hb1 hr1
    obtain ⟨k, hk, rfl, hinv⟩ := hrel
    obtain ⟨q, hq, hql, hqo, hqn⟩ := hinv.quo
    obtain ⟨ro, rc, rs, rfl, hrc, hrat, hris⟩ := hinv.rst
    have hbr := hinv.bel
    have hrl : rs.length ≤ lb := by
      rw [← hy]
      refine len_le (b := 65536) (by omega) oy hris.2.1 ?_
      rw [hris.2.2, ← HB.out]; exact Nat.le_of_lt (Nat.mod_lt _ hB)
    rcases k with _ | k
    · rw [Nat.pow_zero, Nat.div_one, Nat.mul_one] at hqn
      rw [Nat.pow_zero, Nat.div_one] at hris
      obtain ⟨t1, ht1⟩ : ∃ q', q' = (trimmed q).length := ⟨_, rfl⟩
      have T1 : Hid ((trimmed q).length = t1) := ht1.symm
      have HL : Hid (q.length = m) := hql
      have htl : t1 ≤ m := by rw [ht1, ← hql]; exact length_trimmed_le q
      have HQN : Hid (num 65536 q = A / B) := hqn
      have RL : Hid (rs.length ≤ lb) := hrl
      clear ht1 hql hqn hinv hrl HC
      go_wp2_with fail
      refine (rtrim_to _ m m t1 q _ (Nat.le_refl _) (by omega) HL.out hq.at T1.out).mono ?_
      rintro e w' ⟨rfl, rfl⟩
      go_wp2
      go_ret2
      refine ⟨some ⟨w.heap.size, 0, none⟩, m, trimmed q, ro, rc, rs, by rw [T1.out]; rfl, by rw [T1.out]; exact htl, hrc, hq.at.trimmed, hrat, ?_, hris, by rw [T1.out]; exact htl, RL.out, hbr⟩
      rw [← HQN.out]; exact Is.trimmed hqo
    · obtain ⟨j, hj⟩ : ∃ j, j = k / 16 := ⟨_, rfl⟩
      obtain ⟨s, hs⟩ : ∃ s, s = k % 16 := ⟨_, rfl⟩
      have hks : k = 16 * j + s := by omega
      have hs15 : s ≤ 15 := by omega
      have hjm : j < m := by omega
      have q1 : (k : Int) / 16 = (j : Int) := by omega
      have q2 : (k : Int) % 16 = (s : Int) := by omega
      have t1 : (j : Int) < (m : Int) := by omega
      have hbit : A / 2 ^ k % 2 = dg xs j / 2 ^ s % 2 := by rw [HA.out, hks]; exact bit_at ox hs15
      have c0 : wr.cell? ⟨b, o + j, none⟩ = some (.int .u32 ((dg xs j : Nat) : Int)) := (hbr.cell hb).trans (HC.out j hjm)
      obtain ⟨x, hxj⟩ : ∃ x, x = dg xs j := ⟨_, rfl⟩
      have hxl : x < 65536 := by rw [hxj]; exact ox j
      rw [← hxj] at hbit c0
      obtain ⟨u, hu⟩ : ∃ u, u = x / 2 ^ s := ⟨_, rfl⟩
      have hul : u < 65536 := by rw [hu]; exact Nat.lt_of_le_of_lt (Nat.div_le_self _ _) hxl
      have m0 : (x : Int) / 2 ^ s = (u : Int) := by rw [hu]; push_cast; rfl
      have m1 := and1u u (by omega)
      rw [← hu] at hbit
      rw [← hbit] at m1
      have td : Int.tdiv (k : Int) 16 = (j : Int) := by rw [Int.tdiv_eq_ediv_of_nonneg (by omega)]; exact q1
      have tm : Int.tmod (k : Int) 16 = (s : Int) := by rw [Int.tmod_eq_emod_of_nonneg (by omega)]; exact q2
      have wj : IntKind.i64.wrap (j : Int) = (j : Int) := by simp [IntKind.wrap, IntKind.bits, IntKind.signed]; omega
      have ws : IntKind.i64.wrap (s : Int) = (s : Int) := by simp [IntKind.wrap, IntKind.bits, IntKind.signed]; omega
      have hb2 := Nat.mod_lt (A / 2 ^ k) (show 0 < 2 by omega)
      have stay := fun w1 wr' ro rc rs h0 h1 h2 h3 h4 h5 => RDivInv.stay (w := w) (wr := wr) (w1 := w1) (wr' := wr') (m := m) (A := A) (B := B) (k := k) (q := q) (ro := ro) (rc := rc) (rs := rs) hB hbr hq hql hqo hqn h0 h1 h2 h3 h4 h5
      have put := fun w1 wr' ro rc rs h0 h1 h2 h3 h4 h5 h6 => RDivInv.put (w := w) (wr := wr) (w1 := w1) (wr' := wr') (m := m) (A := A) (B := B) (k := k) (j := j) (s := s) (q := q) (ro := ro) (rc := rc) (rs := rs) hB hbr hq hql hqo hqn hks hs15 hjm h0 h1 h2 h3 h4 h5 h6
      have hzb := low_zero (xs := q) (j := j) (s := s) (t := A / 2 ^ (k + 1) / B) hqo hs15 (by rw [hqn, hks])
      have hsb := set_bit (hqo j) hs15 hzb
      have hor : bits .or .u32 ((dg q j : Nat) : Int) ((2 ^ s : Nat) : Int) = ((dg q j ||| 2 ^ s : Nat) : Int) := u32_or_nat _ _ (by have := hqo j; omega) (by have := pow_lt16 hs15; omega)
      have hw2 := wrap2s hs15
      obtain ⟨p, hp⟩ : ∃ p, p = 2 ^ s := ⟨_, rfl⟩
      obtain ⟨d, hd⟩ : ∃ d, d = dg q j := ⟨_, rfl⟩
      have c5 := hq.cell j (by omega)
      have f5 := hq.free j
      have hqlt := hq.lt
      have hsz := hbr.size
      rw [← hp] at hor hw2
      rw [← hd] at hor c5
      obtain ⟨v, hv⟩ : ∃ v, v = d ||| p := ⟨_, rfl⟩
      rw [← hv] at hor
      rw [← hd, ← hp, ← hv] at put
      obtain ⟨R, hR⟩ : ∃ R, R = A / 2 ^ (k + 1) % B := ⟨_, rfl⟩
      rw [← hR] at stay put hris
      obtain ⟨bt, hbt⟩ : ∃ bt, bt = A / 2 ^ k % 2 := ⟨_, rfl⟩
      rw [← hbt] at stay put m1 hb2
      have HS := hide32 stay
      have HP := hide32 put
      have HCQ := hide32 c5
      have HFQ := hide32 f5
      have nofz : ∀ w1, Below wr.heap.size wr w1 → Hid (w1.cell? ⟨w.heap.size, j, none⟩ = some (.int .u32 (d : Int)) ∧ w1.frozen? ⟨w.heap.size, j, none⟩ = false) := fun w1 h1 =>
        ⟨(World.cell?_of_block (h1.block _ hqlt)).trans HCQ.out, (World.frozen?_of_block (h1.block _ hqlt)).trans HFQ.out⟩
      have NF := hide32 nofz
      have hayr := hay.below hbr
      have hbwr : b < wr.heap.size := by omega
      have sh := rshl_any ro rs.length rc 1 rs wr (by omega) hrc (by omega) rfl hrat hris.1
      have SH : Hid (Calls Tryz.prog 32 #[.slice ro rs.length rc, .int .i64 1] wr (RPost wr (rs.length + 4097) (R * 2 ^ 1))) := by rw [hris.2.2] at sh; exact sh
      have HK1 : Hid (k + 1 ≤ 16 * m) := hk
      have HRL : Hid (rs.length ≤ lb) := hrl
      clear hj hs hks hbit hxj hu stay put hzb hsb hp hd hv hR hbt c5 f5 nofz sh hinv hq hql hqo hqn hris hrat hk hrl
      go_wp2_with fail
      refine SH.out.mono ?_
      rintro e w2 ⟨o1, c1, y1, rfl, hl1, at1, is1, hm1, hbel⟩
      have hbw := hbel
      have c0' := (hbel.cell hbwr).trans c0
      have hay2 := hayr.below hbel
      have hy1 : y1.length ≤ 20000000 := by have := HRL.out; omega
      clear hbel c0 hayr SH hm1
      have hbt01 : bt = 0 ∨ bt = 1 := by omega
      rcases hbt01 with rfl | rfl
      · rw [show R * 2 ^ 1 = 2 * R + 0 by omega] at is1
        have is2 := is1; have at2 := at1; have hl2 := hl1
        have hy2 : y1.length ≤ 30000000 := by omega
        clear is1 at1 hl1 hy1
        by_cases hge : B ≤ 2 * R + 0
        · obtain ⟨z, hz⟩ : ∃ z, z = cmpN (num 65536 y1) (num 65536 ys) := ⟨_, rfl⟩
          have hz0 : 0 ≤ z := by rw [hz, is2.2.2, ← HB.out]; unfold cmpN; rw [if_neg (by omega)]; split <;> omega
          have CZ : Hid (cmpN (num 65536 y1) (num 65536 ys) = z) := hz.symm
          have hll : lb ≤ y1.length := by rw [← hy]; exact len_le (b := 65536) (by omega) is2.1 HTY.out (by rw [is2.2.2, ← HB.out]; exact hge)
          clear hz
          go_wp2_with fail
          refine (rcmp_any o1 bo y1.length c1 lb cb y1 ys _ hl2 (by omega) hlbc (by omega) rfl hy at2 hay2 is2.1 oy z CZ.out).mono ?_
          rintro e w4 ⟨rfl, hbel⟩
          have hbw4 := hbw.trans (hbel.mono hbw.size)
          have at4 := at2.below hbel; have hay4 := hay2.below hbel
          clear hbel hbw at2 hay2
          go_wp2_with fail
          refine (rsub_new o1 bo y1.length c1 lb cb y1 ys _ (by omega) hll rfl hy at4 hay4 is2.1 oy (by rw [is2.2.2, ← HB.out]; exact hge)).mono ?_
          rintro e w5 ⟨o6, c6, y6, rfl, hl6, at6, is6, hm6, hbel, hnw⟩
          have hbw5 := hbw4.trans (hbel.mono hbw4.size)
          obtain ⟨c7, f7⟩ := (NF.out _ hbw5).out
          have hnw' : Hid (∀ b o, o6 = some ⟨b, o, none⟩ → w.heap.size < b) := fun b o h => by have := hnw b o h; have := hbw4.size; omega
          rw [is2.2.2, ← HB.out] at is6
          have hnx := fun wr' hw => HP.out _ wr' _ _ _ hge hbw5 hl6 at6 is6 hnw'.out hw
          have NX := hide32 hnx
          clear hbel hbw4 hbw5 at4 hay4 at6 is6 is2 hnx hnw hm6 hge
          go_wp2
          go_region
          go_wp2
          go_roundw
          case rel => exact ⟨k, by have := HK1.out; omega, by go_num, NX.out _ ⟨rfl, rfl, rfl, rfl⟩⟩
          case measure => simp [intOf]
        · have CZ : Hid (cmpN (num 65536 y1) (num 65536 ys) = -1) := by rw [is2.2.2, ← HB.out]; show cmpN _ _ = _; unfold cmpN; rw [if_pos (by omega)]
          go_wp2_with fail
          refine (rcmp_any o1 bo y1.length c1 lb cb y1 ys _ hl2 (by omega) hlbc (by omega) rfl hy at2 hay2 is2.1 oy (-1) CZ.out).mono ?_
          rintro e w4 ⟨rfl, hbel⟩
          have hbw4 := hbw.trans (hbel.mono hbw.size)
          have at4 := at2.below hbel
          have hnx := fun wr' hw => HS.out _ wr' _ _ _ hge hbw4 hl2 at4 is2 hw
          have NX := hide32 hnx
          clear hbel hbw hbw4 at2 hay2 at4 is2 hnx hge
          go_wp2
          go_roundw
          case rel => exact ⟨k, by have := HK1.out; omega, by go_num, NX.out _ ⟨rfl, rfl, rfl, rfl⟩⟩
          case measure => simp [intOf]
      · go_wp2_with fail
        have at1' := at1.alloc (Obj.cells #[Value.int IntKind.u32 1] 50)
        have hay3 := hay2.alloc (Obj.cells #[Value.int IntKind.u32 1] 50)
        have hbw1 := hbw.alloc (Nat.le_of_lt (Nat.lt_of_lt_of_le hqlt hbw.size) |> fun _ => hbw.size) (Obj.cells #[Value.int IntKind.u32 1] 50)
        clear at1 hay2 hbw
        refine (radd_any o1 (some ⟨w2.heap.size, 0, none⟩) y1.length c1 1 1 y1 [1] _ (by omega) (by omega) rfl rfl at1' (lit32 w2) is1.1 ok1).mono ?_
        rintro e w3 ⟨o2, c2, y2, rfl, hl2, at2, is2, hm2, hbel⟩
        have hbw := hbw1.trans (hbel.mono hbw1.size)
        have hay2 := hay3.below hbel
        rw [is1.2.2, show num 65536 [1] = 1 from rfl, show R * 2 ^ 1 + 1 = 2 * R + 1 by omega] at is2
        have hy2 : y2.length ≤ 30000000 := by omega
        clear hbel hbw1 hay3 at1' is1 hl1 hm2 hy1
        by_cases hge : B ≤ 2 * R + 1
        · obtain ⟨z, hz⟩ : ∃ z, z = cmpN (num 65536 y2) (num 65536 ys) := ⟨_, rfl⟩
          have hz0 : 0 ≤ z := by rw [hz, is2.2.2, ← HB.out]; unfold cmpN; rw [if_neg (by omega)]; split <;> omega
          have CZ : Hid (cmpN (num 65536 y2) (num 65536 ys) = z) := hz.symm
          have hll : lb ≤ y2.length := by rw [← hy]; exact len_le (b := 65536) (by omega) is2.1 HTY.out (by rw [is2.2.2, ← HB.out]; exact hge)
          clear hz
          go_wp2_with fail
          refine (rcmp_any o2 bo y2.length c2 lb cb y2 ys _ hl2 (by omega) hlbc (by omega) rfl hy at2 hay2 is2.1 oy z CZ.out).mono ?_
          rintro e w4 ⟨rfl, hbel⟩
          have hbw4 := hbw.trans (hbel.mono hbw.size)
          have at4 := at2.below hbel; have hay4 := hay2.below hbel
          clear hbel hbw at2 hay2
          go_wp2_with fail
          refine (rsub_new o2 bo y2.length c2 lb cb y2 ys _ (by omega) hll rfl hy at4 hay4 is2.1 oy (by rw [is2.2.2, ← HB.out]; exact hge)).mono ?_
          rintro e w5 ⟨o6, c6, y6, rfl, hl6, at6, is6, hm6, hbel, hnw⟩
          have hbw5 := hbw4.trans (hbel.mono hbw4.size)
          obtain ⟨c7, f7⟩ := (NF.out _ hbw5).out
          have hnw' : Hid (∀ b o, o6 = some ⟨b, o, none⟩ → w.heap.size < b) := fun b o h => by have := hnw b o h; have := hbw4.size; omega
          rw [is2.2.2, ← HB.out] at is6
          have hnx := fun wr' hw => HP.out _ wr' _ _ _ hge hbw5 hl6 at6 is6 hnw'.out hw
          have NX := hide32 hnx
          clear hbel hbw4 hbw5 at4 hay4 at6 is6 is2 hnx hnw hm6 hge
          go_wp2
          go_region
          go_wp2
          go_roundw
          case rel => exact ⟨k, by have := HK1.out; omega, by go_num, NX.out _ ⟨rfl, rfl, rfl, rfl⟩⟩
          case measure => simp [intOf]
        · have CZ : Hid (cmpN (num 65536 y2) (num 65536 ys) = -1) := by rw [is2.2.2, ← HB.out]; show cmpN _ _ = _; unfold cmpN; rw [if_pos (by omega)]
          go_wp2_with fail
          refine (rcmp_any o2 bo y2.length c2 lb cb y2 ys _ hl2 (by omega) hlbc (by omega) rfl hy at2 hay2 is2.1 oy (-1) CZ.out).mono ?_
          rintro e w4 ⟨rfl, hbel⟩
          have hbw4 := hbw.trans (hbel.mono hbw.size)
          have at4 := at2.below hbel
          have hnx := fun wr' hw => HS.out _ wr' _ _ _ hge hbw4 hl2 at4 is2 hw
          have NX := hide32 hnx
          clear hbel hbw hbw4 at2 hay2 at4 is2 hnx hge
          go_wp2
          go_roundw
          case rel => exact ⟨k, by have := HK1.out; omega, by go_num, NX.out _ ⟨rfl, rfl, rfl, rfl⟩⟩
          case measure => simp [intOf]

end Go.Proofs.YtpiloigpncbccacGreatDoor

namespace Go.Proofs.YtpiloigpncbccacGreatDoor
open Go.RowKit

set_option maxHeartbeats 1000000 in
theorem rdivmod_nil (ao bo : Option Addr) (ca lb cb B : Nat) (w : World) :
    Calls Tryz.prog 16 #[.slice ao 0 ca, .slice bo lb cb] w (RDivPost w 0 lb (0 / B) (0 % B)) := by
  obtain ⟨i0, hi, hz0, hz1, hz2⟩ := info_parts Tryz.infoD
  go_enter Tryz.func16, Tryz.ntmps16
  go_wp2_with (at_make; refine wpList_make_full _ rfl _ _ 35 rfl w.heap.size 50 i0 (.int .u32 0) 1 Tryz.underlying35 hi hz0 hz1 _ _ _ _ 0 rfl rfl (by omega) (by omega) (by rw [hz2]; omega) (by unfold maxLen; omega) (Nat.le_refl _) ?_)
  intro w1 hown hgrow
  have hb1 : Below w.heap.size w w1 := (Below.refl _ _).grown hgrow (Nat.le_refl _) (fun k hk => by cases hk)
  clear hown hgrow
  go_wp2
  refine wp_loop_rounds 1 ?_
  rw [rounds_succ]
  go_wp2_with fail
  refine (rtrim_nil _ _ _).mono ?_
  rintro e w' ⟨rfl, rfl⟩
  go_wp2
  go_ret2
  refine ⟨_, _, [], _, _, [], rfl, Nat.zero_le _, Nat.zero_le _, At.nil _ _ _, At.nil _ _ _, ?_, ?_, Nat.zero_le _, Nat.zero_le _, hb1.alloc hb1.size _⟩
  · rw [Nat.zero_div]; exact Is.none (by omega)
  · rw [Nat.zero_mod]; exact Is.none (by omega)

theorem rdivmod_any (ao bo : Option Addr) (la ca lb cb : Nat) (xs ys : List Nat) (w : World) (hla : la ≤ 10000000) (hlb : lb ≤ 10000000) (hlbc : lb ≤ cb) (hx : xs.length = la) (hy : ys.length = lb)
    (hax : At .u32 w ao xs) (hay : At .u32 w bo ys) (ox : Ok 65536 xs) (oy : Ok 65536 ys) (ty : Top ys) (hB : 0 < num 65536 ys) :
    Calls Tryz.prog 16 #[.slice ao la ca, .slice bo lb cb] w (RDivPost w la lb (num 65536 xs / num 65536 ys) (num 65536 xs % num 65536 ys)) := by
  rcases hax with rfl | ⟨b, o, rfl, hb, hc⟩
  · obtain rfl : la = 0 := hx.symm
    exact rdivmod_nil ao bo ca lb cb (num 65536 ys) w
  · exact rdivmod_at b o la ca lb cb bo xs ys w hla hlb hlbc hx hy hb (fun i hi => hc i (by omega)) ox hay oy ty hB

end Go.Proofs.YtpiloigpncbccacGreatDoor
