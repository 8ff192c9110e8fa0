/-
  What whole.cut does: the number's digits to the base 10^19.
-/
import Derived.Test.YtpiloigpncbccaaGreatDoorZShort
import Derived.Test.YtpiloigpncbccaaGreatDoorUintF
import Derived.Test.YtpiloigpncbccaaGreatDoorZRAdd
import Derived.Test.YtpiloigpncbccaaGreatDoorWGrow
import Derived.Deep.AppendLies
namespace Go.Proofs.YtpiloigpncbccaaGreatDoor
open Go.RowKit

/-- The chunks' base. -/
def U19 : Nat := 10000000000000000000

def chunkD (N j : Nat) : Nat := N / U19 ^ j % U19
def chunksOf (N k : Nat) : List Nat := (List.range k).map (chunkD N)

theorem chunks_len (N k : Nat) : (chunksOf N k).length = k := by simp [chunksOf]
theorem chunks_succ (N k : Nat) : chunksOf N (k + 1) = chunksOf N k ++ [chunkD N k] := by simp [chunksOf, List.range_succ]
theorem dg_chunks (N k j : Nat) (h : j < k) : dg (chunksOf N k) j = chunkD N j := by simp [dg, chunksOf, h]

theorem chunks_ok (N k : Nat) : Ok U19 (chunksOf N k) := by
  intro j
  by_cases h : j < k
  · rw [dg_chunks N k j h]; exact Nat.mod_lt _ (by decide)
  · rw [dg_out (by rw [chunks_len]; omega)]; decide

theorem chunks_val (N : Nat) : ∀ k, V U19 (chunkD N) k + N / U19 ^ k * U19 ^ k = N
  | 0 => by simp [V]
  | k + 1 => by
    have h := chunks_val N k
    simp only [V]
    have e1 : N / U19 ^ (k + 1) = N / U19 ^ k / U19 := by rw [Nat.pow_succ, Nat.div_div_eq_div_mul]
    have e2 := Nat.div_add_mod (N / U19 ^ k) U19
    rw [e1, Nat.pow_succ]
    rw [show chunkD N k = N / U19 ^ k % U19 from rfl]
    generalize N / U19 ^ k = M at *
    have e3 : M / U19 * (U19 ^ k * U19) = U19 * (M / U19) * U19 ^ k := by
      rw [Nat.mul_comm (U19 ^ k), ← Nat.mul_assoc, Nat.mul_comm (M / U19) U19]
    rw [e3]
    have e4 : (U19 * (M / U19) + M % U19) * U19 ^ k = M * U19 ^ k := by rw [e2]
    rw [Nat.add_mul] at e4
    omega

theorem chunks_is {N k : Nat} (h0 : N / U19 ^ k = 0) (ht : ∀ j, k = j + 1 → N / U19 ^ j ≠ 0) : Is U19 (chunksOf N k) N := by
  refine ⟨chunks_ok N k, ?_, ?_⟩
  · intro j hj
    rw [chunks_len] at hj
    rw [dg_chunks N k j (by omega)]
    unfold chunkD
    have h1 := ht j hj
    rw [hj, Nat.pow_succ, ← Nat.div_div_eq_div_mul] at h0
    have h2 : N / U19 ^ j < U19 := by
      rcases Nat.lt_or_ge (N / U19 ^ j) U19 with h | h
      · exact h
      · have := Nat.div_pos h (by decide : 0 < U19); omega
    rw [Nat.mod_eq_of_lt h2]; exact h1
  · unfold num
    rw [chunks_len, V_congr k (fun j hj => dg_chunks N k j hj)]
    have := chunks_val N k
    rw [h0] at this; omega

theorem chunks_few {N k la : Nat} (hN : N < B64 ^ la) (ht : ∀ j, k = j + 1 → N / U19 ^ j ≠ 0) : k ≤ 2 * la + 1 := by
  rcases k with _ | j
  · omega
  · have h := ht j rfl
    have h1 : U19 ^ j ≤ N := by
      rcases Nat.lt_or_ge N (U19 ^ j) with h' | h'
      · exact absurd (Nat.div_eq_of_lt h') h
      · exact h'
    have h2 : B64 ≤ U19 ^ 2 := by decide +kernel
    have h3 : B64 ^ la ≤ (U19 ^ 2) ^ la := Nat.pow_le_pow_left h2 la
    rw [← Nat.pow_mul] at h3
    rcases Nat.lt_or_ge j (2 * la) with h' | h'
    · omega
    · have := Nat.pow_le_pow_right (show 0 < U19 by decide) h'; omega

/-- At the head of cut's loop, behind k rounds. -/
structure CutInv (w : World) (N la : Nat) (uo : Option Addr) (us : List Nat) (k : Nat) (av cv : Value) (wr : World) : Prop where
  gr : Grw w wr cv (chunksOf N k)
  rst : ∃ ao cap xs, av = .slice ao xs.length cap ∧ xs.length ≤ cap ∧ cap ≤ 10 * la + 100 ∧ At .u64 wr ao xs ∧ Ok B64 xs ∧ num B64 xs = N / U19 ^ k ∧ ∀ b o, xs ≠ [] → ao = some ⟨b, o, none⟩ → cv.ownBlock ≠ some b
  unit : At .u64 wr uo us ∧ ∀ b o, us ≠ [] → uo = some ⟨b, o, none⟩ → cv.ownBlock ≠ some b
  top : ∀ j, k = j + 1 → N / U19 ^ j ≠ 0

/-- What cut answers: the number's digits to the base 10^19, none of them a nought on top. -/
def CutPost (w : World) (m N : Nat) (e : Ending) (w' : World) : Prop :=
  ∃ ao cap cs, e = .returned (.slice ao (List.length cs) cap) ∧ cs.length ≤ cap ∧ At .u64 w' ao cs ∧ Is U19 cs N ∧ cs.length ≤ m ∧ Below w.heap.size w w'

theorem At.ne {w : World} {ao : Option Addr} {xs : List Nat} (h : At .u64 w ao xs) {g : Nat} (hg : w.heap.size ≤ g) : ∀ b o, xs ≠ [] → ao = some ⟨b, o, none⟩ → b ≠ g := by
  intro b o hx e
  rcases h with h | ⟨b', o', h1, h2, _⟩
  · exact absurd h hx
  · rw [e] at h1; simp only [Option.some.injEq, Addr.mk.injEq] at h1; omega

/-- A slice's length. -/
def lenV : Value → Nat
  | .slice _ n _ => n
  | _ => 0

theorem u19_lt : U19 < B64 := by decide

set_option maxRecDepth 100000 in
set_option maxHeartbeats 2000000 in
theorem cut_any (ao : Option Addr) (la ca : Nat) (xs : List Nat) (w : World) (hla : la ≤ ca) (hca : ca ≤ 5000000) (hx : xs.length = la) (hax : At .u64 w ao xs) (ox : Ok B64 xs) :
    Calls Tryz.prog 63 #[.slice ao la ca] w (CutPost w (2 * la + 1) (num B64 xs)) := by
  obtain ⟨i0, hi, hz0, hz1, hz2⟩ := info_parts Tryz.infoU
  obtain ⟨N, hN⟩ : ∃ N, N = num B64 xs := ⟨_, rfl⟩
  have HN : Hid (N < B64 ^ la) := by rw [hN, ← hx]; exact num_lt ox
  have HNN : Hid (num B64 xs = N) := hN.symm
  rw [← hN]
  clear hN
  go_enter Tryz.func63, Tryz.ntmps63
  go_wp2_with fail
  refine (of_any U19 _ u19_lt).mono ?_
  rintro e w1 ⟨v, us, rfl, hou, isu, hb1⟩
  obtain ⟨uo, uc, rfl, hlu, hmu, atu⟩ := hou.shape
  have hst : CutInv w N ca uo us 0 (.slice ao la ca) (.slice none 0 0) w1 := by
    refine ⟨⟨hb1, World.ownsRow_nil _ _ _ _⟩, ⟨ao, ca, xs, by rw [hx], by omega, by omega, hax.below hb1, ox, by rw [HNN.out]; simp, fun b o _ _ => by simp [Value.ownBlock]⟩, ⟨atu, fun b o _ _ => by simp [Value.ownBlock]⟩, fun j hj => by omega⟩
  have HST : Hid (CutInv w N ca uo us 0 (.slice ao la ca) (.slice none 0 0) w1) := hst
  have HU : Hid (Is B64 us U19) := isu
  have lu : us.length ≤ 1 := by omega
  clear hst hou isu atu hax ox
  go_wp2
  go_loopw [0, 3, 5, 6, 7, 8, 9] (fun a c _ _ _ _ _ wr => ∃ k : Nat, CutInv w N ca uo us k a c wr) (fun _ c _ _ _ _ _ _ => 2 * la + 10 - lenV c)
  case atStart => exact ⟨0, HST.out⟩
  case round =>
    clear HST hb1
    obtain ⟨k, hinv⟩ := hrel
    obtain ⟨hgr, ⟨ro, rc, rs, rfl, hrc, hrca, hrat, hrok, hrn, hrne⟩, ⟨hut, hune⟩, htop⟩ := hinv
    have hkl := chunks_few HN.out htop
    obtain ⟨co, cc, rfl, hcl, hcat⟩ := hgr.at
    rw [chunks_len] at *
    by_cases h0 : num B64 rs = 0
    · have his := chunks_is (N := N) (k := k) (by rw [← hrn]; exact h0) htop
      have HIS := hide his
      have HK : Hid (k ≤ 2 * la + 1) := hkl
      have hbel := hgr.1
      have hb0 : bitsN (num B64 rs) = 0 := by rw [h0]; rfl
      clear his hkl htop hut hune hgr hrne
      go_wp2_with fail
      refine (bits_any ro rs.length rc rs _ hrc (by omega) rfl hrat hrok).mono ?_
      rintro e w' ⟨rfl, rfl⟩
      rw [hb0]
      clear hrat
      go_wp2
      go_ret
      exact ⟨co, cc, chunksOf N k, by rw [chunks_len]; rfl, by rw [chunks_len]; exact hcl, hcat, HIS.out, by rw [chunks_len]; exact HK.out, hbel⟩
    · obtain ⟨p, hp, _⟩ := bitsN_spec h0
      have hn0 : N / U19 ^ k ≠ 0 := by rw [← hrn]; exact h0
      have HTOP : Hid (∀ j, k + 1 = j + 1 → N / U19 ^ j ≠ 0) := by
        intro j hj
        rw [show j = k by omega]
        exact hn0
      have HGR := hide hgr
      have HRN := hide hrn
      have HUNE := hide hune
      have hsz := hgr.1.size
      have hgl := hgr.2.lt
      have HGL := hide hgl
      have huu : num B64 us ≠ 0 := by rw [HU.out.2.2]; decide
      have HCAT := hide hcat
      clear htop hune hgr hrne h0 hgl hcat hn0
      go_wp2_with fail
      refine (bits_any ro rs.length rc rs _ hrc (by omega) rfl hrat hrok).mono ?_
      rintro e w' ⟨rfl, rfl⟩
      rw [hp]
      go_wp2_with fail
      refine (divmod_any ro uo rs.length rc us.length uc rs us _ hrc (by omega) hlu (by omega) rfl rfl hrat hut hrok HU.out.1 huu).mono ?_
      rintro e w4 ⟨v1, rq, v2, rr, rfl, hq, hr, iq, ir, hb4, _⟩
      rw [HU.out.2.2, HRN.out, Nat.div_div_eq_div_mul, ← Nat.pow_succ] at iq
      rw [HU.out.2.2, HRN.out] at ir
      obtain ⟨qo, qc, rfl, hlq, hmq, atq⟩ := hq.shape
      obtain ⟨eo, ec, rfl, hle, hme, ate⟩ := hr.shape
      have hu4 := hut.below hb4
      have hel : (trimmed rr).length ≤ 1 := by
        refine trimmed_small (t := 1) ?_
        rw [ir.2.2, Nat.pow_one]
        exact Nat.lt_trans (Nat.mod_lt _ (by decide)) u19_lt
      have HQB : Hid (∀ b o, rq ≠ [] → qo = some ⟨b, o, none⟩ → wr.heap.size ≤ b ∧ b < w4.heap.size) := by
        intro b o hx' e
        rcases hq with ⟨h1, h2⟩ | ⟨g, full, h1, h2, h3, _⟩
        · exact absurd h2 hx'
        · simp only [Value.slice.injEq] at h1
          rw [e] at h1
          simp only [Option.some.injEq, Addr.mk.injEq] at h1
          have := h3.lt
          omega
      clear hq hr hrat hut
      go_wp2_with fail
      refine (uint_any eo rr.length ec rr _ hle (by omega) rfl ate).mono ?_
      rintro e w' ⟨rfl, rfl⟩
      rw [if_pos hel, ir.2.2, show N / U19 ^ k % U19 = chunkD N k from rfl, decide_eq_true hel]
      obtain ⟨d, hd⟩ : ∃ d, d = chunkD N k := ⟨_, rfl⟩
      rw [← hd]
      have hg4 := HGR.out.below hb4
      have hown := hg4.2
      rw [chunks_len] at hown
      have HG4 := hide hg4
      have HD : Hid (d = chunkD N k) := hd
      have hs4 := hb4.size
      have HIQ := hide iq
      clear hd ir hel ate hle hme HGR hg4 iq
      go_wp2_with (at_builtin; refine wpList_append_lies _ rfl _ _ 68 rfl w.heap.size 22 i0 (.int .u64 0) 1 8 Tryz.underlying68 hi hz0 hz1 hz2 rfl (by decide) _ _ _ rfl (hown.alloc _) ⟨w4.heap.size, 0, none⟩ 1 1 [.int .u64 (d : Int)] rfl rfl ?c1A ?c2A (by omega) ?c3A ?c4A ?c5A (w4.heap.size + 1) (by simp) ?_)
      try case c1A => exact new_cell w4 _ _
      case c2A => first | exact one_one _ _ | rfl
      case c3A => unfold maxLen; omega
      case c4A => omega
      case c5A => first | (simp; omega) | omega
      intro g cap w5 hown' hgrow hlies hlt
      have hne4 : ∀ b, (b < wr.heap.size → (Value.slice co k cc).ownBlock ≠ some b) → b < w4.heap.size → g ≠ b := by
        intro b hb1 hb2 e
        subst e
        rcases hlies with h | h
        · have := (HGL.out g h).2
          exact hb1 this h
        · omega
      have hst : CutInv w N ca uo us (k + 1) (.slice qo rq.length qc) (.slice (some ⟨g, 0, none⟩) (k + 1) cap) w5 := by
        have hgs := HG4.out.step _ (by rw [chunks_len]; exact hown') hgrow
        rw [HD.out, ← chunks_succ] at hgs
        refine ⟨hgs, ⟨qo, qc, rq, rfl, hlq, by omega, ?_, HIQ.out.1, HIQ.out.2.2, ?_⟩, ⟨?_, ?_⟩, HTOP.out⟩
        · refine At.keep _ hgrow atq (fun b o hx' e h => ?_)
          have h1 := HQB.out b o hx' e
          have := (HGL.out b h).2
          omega
        · intro b o hx' e
          have h1 := HQB.out b o hx' e
          show some g ≠ some b
          intro h2
          injection h2 with h2
          exact hne4 b (fun h => absurd h1.1 (by omega)) h1.2 h2
        · exact At.keep _ hgrow hu4 (fun b o hx' e => HUNE.out b o hx' e)
        · intro b o hx' e
          show some g ≠ some b
          intro h2
          injection h2 with h2
          have h3 : b < w4.heap.size := by
            rcases hu4 with h | ⟨b', o', h1, h4, _⟩
            · exact absurd h hx'
            · rw [e] at h1; simp only [Option.some.injEq, Addr.mk.injEq] at h1; omega
          exact hne4 b (fun _ => HUNE.out b o hx' e) h3 h2
      have HST := hide hst
      clear hst hown hown' hgrow hlies hlt hne4 atq hu4
      go_wp2
      go_roundw
      case rel => exact ⟨k + 1, HST.out⟩
      case measure => simp [lenV]; omega

end Go.Proofs.YtpiloigpncbccaaGreatDoor
