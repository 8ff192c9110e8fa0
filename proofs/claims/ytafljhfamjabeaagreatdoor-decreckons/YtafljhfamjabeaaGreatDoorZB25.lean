/-
  What the reference's Text does: the number's decimal digits.
  What the reference's Shl does.
  The reference's calls over numbers, wherever their digits lie: quipuref01's and quipuref02's, and quipuref03's limb, Amount, Wide, Narrow, Bias.
  What quipuref03's Dec does: a number times a power of 10, as a Dec.
  Plain mathematics: the texts of numbers, their parts, and what they say.
  What dec's cutDigits and unsigned do.
  What dec's takeApart does: the parts of a text of a number.
-/
import Derived.Test.YtafljhfamjabeaaGreatDoorZB24
import Derived.Test.YtafljhfamjabeaaGreatDoorZB5
import Derived.Laws.BytesArg
import Derived.Test.YtafljhfamjabeaaGreatDoorZB12
import Derived.Test.YtafljhfamjabeaaGreatDoorZB4
import Derived.Test.YtafljhfamjabeaaGreatDoorZB11
import Derived.Lib.Strings
import Derived.Lib.Atoi
import Derived.WalkMore
import Derived.Lib.SmallJoins
namespace Go.Proofs.YtafljhfamjabeaaGreatDoor
open Go.RowKit

/-- A list of bytes that is being built by append. -/
def G8 (w wr : World) (v : Value) (ys : List Nat) : Prop := Below w.heap.size w wr ∧ wr.ownsRow w.heap.size 5 1 v ys.length (vals .u8 ys)

theorem G8.at {w wr : World} {v : Value} {ys : List Nat} (h : G8 w wr v ys) : ∃ ao cap, v = .slice ao ys.length cap ∧ ys.length ≤ cap ∧ At .u8 wr ao ys := by
  obtain ⟨hb, hl, ho⟩ := h
  rcases ho with ⟨rfl, h0⟩ | ⟨g, cap, cur, rfl, hg, hh, hn, _, hs, ht⟩
  · obtain rfl : ys = [] := List.length_eq_zero_iff.1 h0
    exact ⟨none, 0, rfl, Nat.le_refl _, At.nil _ _ _⟩
  · refine ⟨_, cap, rfl, hn, .inr ⟨g, 0, rfl, lt_of_block hh, fun i hi => ?_⟩⟩
    simp only [World.cell?, hh]
    have hc : cur[i]? = (vals .u8 ys)[i]? := by
      rw [← ht, List.getElem?_take_of_lt (by omega), Array.getElem?_toList]
    simp only [Option.isSome_none, Bool.false_eq_true, if_false, Nat.zero_add, hc]
    simp [vals, hi]

theorem G8.step {w wr w1 : World} {v v' : Value} {ys : List Nat} {d : Nat} (o : Obj) (h : G8 w wr v ys) (ho : w1.ownsRow w.heap.size 5 1 v' (ys.length + 1) (vals .u8 ys ++ [.int .u8 (d : Int)])) (hg : (wr.alloc o).grownBy w1 v.ownBlock) :
    G8 w w1 v' (ys ++ [d]) := by
  have hb := h.1.alloc (h.1.size) o
  refine ⟨hb.grown hg hb.size ?_, ?_⟩
  · intro k hk
    rcases h.2.2 with ⟨rfl, _⟩ | ⟨g, cap, cur, rfl, hgb, _⟩
    · simp [Value.ownBlock] at hk
    · simp [Value.ownBlock] at hk; omega
  · rw [List.length_append]
    have : vals .u8 (ys ++ [d]) = vals .u8 ys ++ [.int .u8 (d : Int)] := by simp [vals]
    rw [this]; exact ho

theorem G8.below {w wr w' : World} {v : Value} {ys : List Nat} (h : G8 w wr v ys) (hb : Below wr.heap.size wr w') : G8 w w' v ys := by
  refine ⟨h.1.trans (hb.mono h.1.size), h.2.kept (row := none) ⟨hb.os, hb.tape, hb.output, hb.size, fun k hk _ => hb.block k hk⟩ ?_⟩
  cases hv : v.ownBlock with
  | none => exact .inl rfl
  | some g => exact .inr (by simp)

theorem Tryz.infoB : (Tryz.prog.info? 5).map (fun i => (i.zero, i.size, i.bytes)) = some (some (.int .u8 0), 1, 1) := by kernel_rfl

theorem At.keep32 {wr w1 : World} {v : Value} {xs : List Nat} {g : Nat} (o : Obj) (hg : (wr.alloc o).grownBy w1 v.ownBlock) (hat : At .u32 wr (some ⟨g, 0, none⟩) xs) (hne : v.ownBlock ≠ some g) : At .u32 w1 (some ⟨g, 0, none⟩) xs := by
  rcases hat with h' | ⟨b, o', h1, h2, h3⟩
  · exact .inl h'
  · refine .inr ⟨b, o', h1, Nat.lt_of_lt_of_le h2 (Nat.le_trans (by simp) hg.size), fun i hi => ?_⟩
    have hb : b = g := by simp only [Option.some.injEq, Addr.mk.injEq] at h1; omega
    rw [World.cell?_of_block (w := wr) ((hg.block b (by simp; omega) (fun e => hne (by rw [← hb]; exact e.symm))).trans (Below.heap_alloc _ _ _ h2))]
    exact h3 i hi

/-- The n lowest decimal digits of N as bytes, the lowest first. -/
def lowD (N n : Nat) : List Nat := mk (fun j => 48 + N / 10 ^ j % 10) n

theorem lowD_len (N n : Nat) : (lowD N n).length = n := mk_len _ _
theorem lowD_succ (N n : Nat) : lowD N (n + 1) = lowD N n ++ [48 + N / 10 ^ n % 10] := mk_succ _ _
theorem lowD_get (N n j : Nat) (h : j < n) : (lowD N n)[j]?.getD 0 = 48 + N / 10 ^ j % 10 := dg_mk _ n j h

/-- In the inner loop: t digits of the rest are laid. -/
structure TxtIn (w : World) (N k g : Nat) (ys : List Nat) (t : Nat) (low : Value) (wr : World) : Prop where
  gr : G8 w wr low (lowD N (4 * k + t))
  at' : At .u32 wr (some ⟨g, 0, none⟩) ys
  lt : g < wr.heap.size
  ne : low.ownBlock ≠ some g

/-- At the head of the outer loop: k times four digits are laid. -/
structure TxtOut (w : World) (N la k : Nat) (a low : Value) (wr : World) : Prop where
  rst : ∃ o c ys, a = .slice o (List.length ys) c ∧ ys.length ≤ la ∧ At .u32 wr o ys ∧ Is 65536 ys (N / 10000 ^ k) ∧ ∀ b o', ys ≠ [] → o = some ⟨b, o', none⟩ → low.ownBlock ≠ some b
  gr : G8 w wr low (lowD N (4 * k))
  top : ∀ j, k = j + 1 → N / 10000 ^ j ≠ 0

theorem txt_few {N k la : Nat} (hN : N < 65536 ^ la) (ht : ∀ j, k = j + 1 → N / 10000 ^ j ≠ 0) : k ≤ 2 * la + 1 := by
  rcases k with _ | j
  · omega
  · have h := ht j rfl
    have h1 : 10000 ^ j ≤ N := by
      rcases Nat.lt_or_ge N (10000 ^ j) with h' | h'
      · exact absurd (Nat.div_eq_of_lt h') h
      · exact h'
    have h2 : (65536 : Nat) ≤ 10000 ^ 2 := by decide +kernel
    have h3 : 65536 ^ la ≤ (10000 ^ 2) ^ la := Nat.pow_le_pow_left h2 la
    rw [← Nat.pow_mul] at h3
    rcases Nat.lt_or_ge j (2 * la) with h' | h'
    · omega
    · have := Nat.pow_le_pow_right (show 0 < 10000 by decide) h'; omega

theorem pow4 (k : Nat) : (10000 : Nat) ^ k = 10 ^ (4 * k) := by rw [Nat.pow_mul]

theorem txt_digit (N k t : Nat) (ht : t < 4) : N / 10000 ^ k % 10000 / 10 ^ t % 10 = N / 10 ^ (4 * k + t) % 10 := by
  rw [Nat.pow_add, ← Nat.div_div_eq_div_mul, ← pow4]
  generalize N / 10000 ^ k = M
  rcases (show t = 0 ∨ t = 1 ∨ t = 2 ∨ t = 3 by omega) with rfl | rfl | rfl | rfl
  · show M % 10000 / 1 % 10 = M / 1 % 10; omega
  · show M % 10000 / 10 % 10 = M / 10 % 10; omega
  · show M % 10000 / 100 % 10 = M / 100 % 10; omega
  · show M % 10000 / 1000 % 10 = M / 1000 % 10; omega

/-- The bytes of the m lowest digits of r, the highest first. -/
def padB (m r : Nat) : List Nat := (padD m r).map UInt8.toNat

theorem padB_succ (m r : Nat) : padB (m + 1) r = padB m (r / 10) ++ [48 + r % 10] := by
  unfold padB
  rw [padD, List.map_append]
  simp
  omega

theorem padB_len : ∀ m r : Nat, (padB m r).length = m
  | 0, _ => rfl
  | m + 1, r => by rw [padB_succ, List.length_append, padB_len m]; rfl

theorem padB_str (N j : Nat) (h1 : N < 10 ^ (j + 1)) (h2 : 10 ^ j ≤ N) : strOfNums ((padB (j + 1) N).map fun (x : Nat) => (x : Int)) = ⟨(Lib.decDigits N).toArray⟩ := by
  have hl : (Lib.decDigits N).length = j + 1 := by rw [Lib.decDigits_length]; exact Lib.nDigits_unique j N h2 h1
  have hp := padD_eq (j + 1) N (by omega) h1
  rw [hl, Nat.sub_self] at hp
  unfold padB
  rw [hp]
  simp only [List.replicate_zero, List.nil_append, List.map_map]
  apply ByteArray.ext
  apply Array.toList_inj.1
  rw [strOfNums_data, List.map_map]
  show _ = Lib.decDigits N
  conv => rhs; rw [← List.map_id (Lib.decDigits N)]
  apply List.map_congr_left
  intro x _
  simp

set_option maxRecDepth 100000 in
set_option maxHeartbeats 2000000 in
theorem rtext_any (ao : Option Addr) (la ca N : Nat) (xs : List Nat) (w : World) (hla : la ≤ 10000000) (hx : xs.length = la) (hax : At .u32 w ao xs) (his : Is 65536 xs N) :
    Calls Tryz.prog 61 #[.slice ao la ca] w fun e w' => e = .returned (.string ⟨(Lib.decDigits N).toArray⟩) ∧ Below w.heap.size w w' := by
  obtain ⟨i0, hi, hz0, hz1, hz2⟩ := info_parts Tryz.infoB
  have HN : Hid (N < 65536 ^ la) := by rw [← his.2.2, ← hx]; exact num_lt his.1
  have HST : Hid (TxtOut w N la 0 (.slice ao la ca) (.slice (some ⟨w.heap.size, 0, none⟩) 0 0) (w.alloc (.cells #[] 5))) := by
    refine ⟨⟨ao, ca, xs, by rw [hx], by omega, hax.alloc _, by simpa using his, ?_⟩, ⟨(Below.refl _ _).alloc (Nat.le_refl _) _, World.ownsRow_lit _ #[] 0 (Nat.le_refl _) (by unfold maxLen; omega) rfl⟩, fun j hj => by omega⟩
    intro b o' hne e h
    rcases hax with h1 | ⟨b', o'', h1, h2, _⟩
    · exact hne h1
    · rw [e] at h1
      simp only [Option.some.injEq, Addr.mk.injEq] at h1
      simp [Value.ownBlock] at h
      omega
  clear hax his
  go_enter Tryz.func61, Tryz.ntmps61
  go_wp2
  go_loopw [0, 3, 4, 5, 6] (fun a low _ _ _ wr => ∃ k : Nat, TxtOut w N la k a low wr) (fun _ low _ _ _ _ => 8 * la + 8 - lenV low)
  case atStart => exact ⟨0, HST.out⟩
  case round =>
    clear HST
    obtain ⟨wq, hwq⟩ : ∃ x, x = wr := ⟨_, rfl⟩
    subst hwq
    obtain ⟨k, ⟨⟨o, c, ys, rfl, hyl, hyat, hyis, hyne⟩, hgr, htop⟩⟩ := hrel
    have hk := txt_few HN.out htop
    obtain ⟨lo, lc, rfl, hlc, hlat⟩ := hgr.at
    rw [lowD_len] at *
    have hbel := hgr.1
    have hsz := hbel.size
    by_cases hy0 : ys.length = 0
    · have hN : N < 10 ^ (4 * k) := by
        have h1 : N / 10000 ^ k = 0 := by
          rw [← hyis.2.2]
          rw [List.length_eq_zero_iff.1 hy0]; rfl
        rw [pow4] at h1
        rcases Nat.lt_or_ge N (10 ^ (4 * k)) with h | h
        · exact h
        · have := Nat.div_pos h (Nat.pow_pos (show 0 < 10 by omega)); omega
      have HN0 := hide hN
      rw [hy0]
      have HLAT := hide hlat
      have HBEL := hide hbel
      clear hyis hyne hyat hgr htop hN hlat hbel hyl hy0
      go_wp2
      go_loop [7] (fun n => ∃ j : Nat, j ≤ 4 * k ∧ n = .int .i64 j ∧ N < 10 ^ j) (fun n => (intOf n).toNat)
      case atStart => exact ⟨4 * k, Nat.le_refl _, by go_num, HN0.out⟩
      case round =>
        clear HN0
        obtain ⟨j, hj, rfl, hNj⟩ := hrel
        have HNJ := hide hNj
        clear hNj
        rcases j with _ | j
        · have hz : N = 0 := by have := HNJ.out; simp at this; exact this
          have hd : (⟨#[48]⟩ : ByteArray) = ⟨(Lib.decDigits N).toArray⟩ := by rw [hz, Lib.decDigits_one (by omega)]; rfl
          have HD := hide hd
          clear hd hz
          go_wp2
          go_ret
          exact ⟨by rw [← HD.out]; rfl, HBEL.out⟩
        · obtain ⟨lb, lf, rfl, hlb, hlcell⟩ : ∃ lb lf, lo = some ⟨lb, lf, none⟩ ∧ lb < wq.heap.size ∧ ∀ i, i < 4 * k → wq.cell? ⟨lb, lf + i, none⟩ = some (.int .u8 ((48 + N / 10 ^ i % 10 : Nat) : Int)) := by
            rcases HLAT.out with h | ⟨b, f, h1, h2, h3⟩
            · have := lowD_len N (4 * k); rw [h] at this; simp at this; omega
            · exact ⟨b, f, h1, h2, fun i hi => by rw [h3 i (by rw [lowD_len]; exact hi), lowD_get N _ i hi]⟩
          have c0 := hlcell j (by omega)
          have HLC := hide hlcell
          have hpos : (0 : Int) < ((j + 1 : Nat) : Int) := by omega
          have hjl : (j : Int) < ((4 * k : Nat) : Int) := by omega
          obtain ⟨x, hx'⟩ : ∃ x, x = N / 10 ^ j % 10 := ⟨_, rfl⟩
          rw [← hx'] at c0
          have hx10 : x < 10 := by rw [hx']; exact Nat.mod_lt _ (by omega)
          have hq : N / 10 ^ j < 10 := by
            have := HNJ.out
            rw [Nat.pow_succ] at this
            exact (Nat.div_lt_iff_lt_mul (Nat.pow_pos (by omega))).2 (by rw [Nat.mul_comm]; exact this)
          clear hlcell
          by_cases hx0 : x = 0
          · have HN1 : Hid (N < 10 ^ j) := by
              have h1 : N / 10 ^ j = 0 := by rw [Nat.mod_eq_of_lt hq] at hx'; rw [← hx']; exact hx0
              rcases Nat.lt_or_ge N (10 ^ j) with h | h
              · exact h
              · have := Nat.div_pos h (Nat.pow_pos (show 0 < 10 by omega)); omega
            rw [hx0] at c0
            clear hx' hq
            go_wp2
            go_round
            case rel => exact ⟨j, by omega, by go_num, HN1.out⟩
            case measure => simp [intOf]
          · have hge : 10 ^ j ≤ N := by
              rcases Nat.lt_or_ge N (10 ^ j) with h | h
              · rw [Nat.div_eq_of_lt h] at hx'; exact absurd (by simpa using hx') hx0
              · exact h
            have hc48 : (((48 + x : Nat) : Int) == 48) = false := by rw [beq_eq_false_iff_ne]; omega
            have HSTR := hide (padB_str N j HNJ.out hge)
            have HS0 : Hid (G8 wq (wq.alloc (.cells #[] 5)) (.slice (some ⟨wq.heap.size, 0, none⟩) 0 0) (padB (j + 1 - (j + 1)) (N / 10 ^ (j + 1)))) := by
              rw [Nat.sub_self]
              exact ⟨(Below.refl _ _).alloc (Nat.le_refl _) _, World.ownsRow_lit _ #[] 0 (Nat.le_refl _) (by unfold maxLen; omega) rfl⟩
            clear hx' hq hge
            go_wp2
            clear c0
            go_loopw [8, 9] (fun v i wr' => ∃ m : Nat, m ≤ j + 1 ∧ i = .int .i64 ((m : Int) - 1) ∧ G8 wq wr' v (padB (j + 1 - m) (N / 10 ^ m))) (fun _ i _ => (intOf i + 1).toNat)
            case atStart => exact ⟨j + 1, Nat.le_refl _, by go_num, HS0.out⟩
            case round =>
              clear HS0
              obtain ⟨m, hm, rfl, hgm⟩ := hrel
              rcases m with _ | m
              · rw [Nat.sub_zero, Nat.pow_zero, Nat.div_one] at hgm
                obtain ⟨po, pc, rfl, hpc, hpat⟩ := hgm.at
                rw [padB_len] at *
                obtain ⟨pb, pf, rfl, hpcell⟩ : ∃ pb pf, po = some ⟨pb, pf, none⟩ ∧ ∀ i, i < j + 1 → wr.cell? ⟨pb, pf + i, none⟩ = some (.int .u8 (((padB (j + 1) N).map fun (x : Nat) => (x : Int)).getD i 0)) := by
                  rcases hpat with h | ⟨b, f, h1, _, h3⟩
                  · have := padB_len (j + 1) N; rw [h] at this; simp at this
                  · refine ⟨b, f, h1, fun i hi => ?_⟩
                    rw [h3 i (by rw [padB_len]; exact hi)]
                    have : i < (padB (j + 1) N).length := by rw [padB_len]; exact hi
                    simp [List.getD, this]
                have kc := run_convert_bytes_arg (P := Tryz.prog) wr 48 5 Tryz.underlying48 Tryz.underlying5 pb pf (j + 1) pc ((padB (j + 1) N).map fun (x : Nat) => (x : Int)) (by rw [List.length_map, padB_len]) hpcell 9 Tryz.underlying9
                rw [HSTR.out] at kc
                have hbw := HBEL.out.trans (hgm.1.mono HBEL.out.size)
                clear hgm hpat hpcell
                go_wp2
                go_ret
                exact ⟨rfl, hbw⟩
              · have c1 : wr.cell? ⟨lb, lf + m, none⟩ = some (.int .u8 ((48 + N / 10 ^ m % 10 : Nat) : Int)) := (hgm.1.cell hlb).trans (HLC.out m (by omega))
                have hml : (m : Int) < ((4 * k : Nat) : Int) := by omega
                obtain ⟨l, hl⟩ : ∃ l, l = j + 1 - (m + 1) := ⟨_, rfl⟩
                have hown := hgm.2
                rw [padB_len, ← hl] at hown
                have hsz1 := hgm.1.size
                have HG := hide hgm
                obtain ⟨d, hd⟩ : ∃ d, d = 48 + N / 10 ^ m % 10 := ⟨_, rfl⟩
                rw [← hd] at c1
                have hd57 : d ≤ 57 := by have := Nat.mod_lt (N / 10 ^ m) (show 0 < 10 by omega); omega
                have HPS : Hid (padB l (N / 10 ^ (m + 1)) ++ [d] = padB (j + 1 - m) (N / 10 ^ m)) := by
                  have e1 : j + 1 - m = l + 1 := by omega
                  rw [e1, padB_succ, ← hd, Nat.div_div_eq_div_mul, ← Nat.pow_succ]; rfl
                have HL := hide hl
                rw [← hl] at HG
                have hll : l ≤ 4 * k := by omega
                clear hgm hd hl
                go_wp2_with (at_builtin; refine wpList_append_own _ rfl _ _ 48 rfl wq.heap.size 5 i0 (.int .u8 0) 1 1 Tryz.underlying48 hi hz0 hz1 hz2 rfl (by decide) _ _ _ rfl (hown.alloc _) ⟨wr.heap.size, 0, none⟩ 1 1 [.int .u8 (d : Int)] rfl rfl ?c1B ?c2B ?c3B ?c4B ?c5B ?_)
                try case c1B => exact new_cell wr _ _
                case c2B => first | exact one_one _ _ | rfl
                case c3B => unfold maxLen; omega
                case c4B => omega
                case c5B => first | (simp; omega) | omega
                intro v' w1 hown' hgrow _
                have hg' := HG.out.step _ (by rw [padB_len]; exact hown') hgrow
                rw [HPS.out] at hg'
                have HI := hide hg'
                clear hown hown' hgrow hg' HG HPS
                go_wp2
                go_roundw
                case rel => exact ⟨m, by omega, by go_num, HI.out⟩
                case measure => simp [intOf]
    · have hpos : (0 : Int) < (ys.length : Int) := by omega
      obtain ⟨b, f, rfl, hb, hcell⟩ : ∃ b f, o = some ⟨b, f, none⟩ ∧ b < wq.heap.size ∧ ∀ i, i < ys.length → wq.cell? ⟨b, f + i, none⟩ = some (.int .u32 ((dg ys i : Nat) : Int)) := by
        rcases hyat with h | h
        · rw [h] at hy0; simp at hy0
        · exact h
      have hM : N / 10000 ^ k ≠ 0 := by
        rw [← hyis.2.2]
        intro h
        have := num_zero (by omega) hyis.2.1 h
        rw [this] at hy0; simp at hy0
      have HTOP : Hid (∀ j, k + 1 = j + 1 → N / 10000 ^ j ≠ 0) := by
        intro j hj
        rw [show j = k by omega]
        exact hM
      have by' := by_at b f ys.length c ys wq (by omega) rfl hb hcell hyis.1
      rw [hyis.2.2] at by'
      have BY := hide by'
      have HGR := hide hgr
      have HGL := hide hgr.2.lt
      clear hyis hyne hyat hgr htop hlat hcell hM by' hb
      go_wp2_with fail
      refine BY.out.mono ?_
      rintro e w4 ⟨g, qs, qc, rfl, hg1, hg2, hqc, hqat, hqis, hql, hb4⟩
      have hbel4 := hbel.trans (hb4.mono hsz)
      have HIN : Hid (TxtIn w N k g qs 0 (.slice lo (4 * k) lc) w4) := by
        refine ⟨HGR.out.below hb4, hqat, hg2, fun h => ?_⟩
        have := (HGL.out g h).2
        omega
      obtain ⟨r0, hr0⟩ : ∃ r0, r0 = N / 10000 ^ k % 10000 := ⟨_, rfl⟩
      rw [← hr0]
      have HR0 := hide hr0
      have HQIS := hide hqis
      clear BY HGR HGL hqat hqis hbel hb4 hbel4 hr0
      go_wp2
      go_loopw [3, 5, 6] (fun low r kk wr => ∃ t : Nat, t ≤ 4 ∧ kk = .int .i64 t ∧ r = .int .u32 ((r0 / 10 ^ t : Nat) : Int) ∧ TxtIn w N k g qs t low wr) (fun _ _ kk _ => 4 - (intOf kk).toNat)
      case atStart => exact ⟨0, by omega, rfl, by simp, HIN.out⟩
      case round =>
        clear HIN
        obtain ⟨t, ht, rfl, rfl, hin⟩ := hrel
        by_cases h4 : t = 4
        · subst h4
          have HO : Hid (TxtOut w N la (k + 1) (.slice (some ⟨g, 0, none⟩) qs.length qc) u3 wr) := by
            refine ⟨⟨_, qc, qs, rfl, by omega, hin.at', ?_, ?_⟩, hin.gr, HTOP.out⟩
            · have := HQIS.out
              rw [Nat.div_div_eq_div_mul, ← Nat.pow_succ] at this
              exact this
            · intro b' o' _ e
              simp only [Option.some.injEq, Addr.mk.injEq] at e
              rw [← e.1]; exact hin.ne
          have hlv : lenV u3 = 4 * k + 4 := by
            obtain ⟨_, _, e, _⟩ := hin.gr.at
            rw [e, lowD_len]; rfl
          have HLV := hide hlv
          clear hin hlv
          go_wp2
          go_roundw
          case rel => exact ⟨k + 1, HO.out⟩
          case measure => rw [HLV.out]; simp [lenV]; omega
        · have hown := hin.gr.2
          rw [lowD_len] at hown
          have hsz1 := hin.gr.1.size
          have ht4 : t < 4 := by omega
          obtain ⟨r, hr⟩ : ∃ r, r = r0 / 10 ^ t := ⟨_, rfl⟩
          have hdig : 48 + r % 10 = 48 + N / 10 ^ (4 * k + t) % 10 := by rw [hr, HR0.out, txt_digit N k t ht4]
          have hnext : r / 10 = r0 / 10 ^ (t + 1) := by rw [hr, Nat.div_div_eq_div_mul, ← Nat.pow_succ]
          have hrl : r < 10000 := by
            have h1 : r ≤ r0 := by rw [hr]; exact Nat.div_le_self _ _
            have h2 : r0 < 10000 := by rw [HR0.out]; exact Nat.mod_lt _ (by omega)
            omega
          rw [← hr]
          obtain ⟨d, hd⟩ : ∃ d, d = 48 + r % 10 := ⟨_, rfl⟩
          obtain ⟨r', hr'⟩ : ∃ r', r' = r / 10 := ⟨_, rfl⟩
          have e1 : 48 + (r : Int) % 10 = (d : Int) := by omega
          have e2 : (r : Int) / 10 = (r' : Int) := by omega
          have hd57 : d ≤ 57 := by omega
          have HD : Hid (d = 48 + N / 10 ^ (4 * k + t) % 10) := hd.trans hdig
          have HR' : Hid (r' = r0 / 10 ^ (t + 1)) := hr'.trans hnext
          have HIN := hide hin
          have HOL := hide hin.gr.2.lt
          clear hin hdig hnext hd hr hr'
          go_wp2_with (at_builtin; refine wpList_append_lies _ rfl _ _ 48 rfl w.heap.size 5 i0 (.int .u8 0) 1 1 Tryz.underlying48 hi hz0 hz1 hz2 rfl (by decide) _ _ _ rfl (hown.alloc _) ⟨wr.heap.size, 0, none⟩ 1 1 [.int .u8 (d : Int)] rfl rfl ?c1A ?c2A (by omega) ?c3A ?c4A ?c5A (wr.heap.size + 1) (by simp) ?_)
          try case c1A => exact new_cell wr _ _
          case c2A => first | exact one_one _ _ | rfl
          case c3A => unfold maxLen; omega
          case c4A => omega
          case c5A => first | (simp; omega) | omega
          intro g' cap w5 hown' hgrow hlies hlt
          have HI : Hid (TxtIn w N k g qs (t + 1) (.slice (some ⟨g', 0, none⟩) (4 * k + t + 1) cap) w5) := by
            have hgs := HIN.out.gr.step _ (by rw [lowD_len]; exact hown') hgrow
            rw [HD.out, ← lowD_succ] at hgs
            have hlt5 := HIN.out.lt
            refine ⟨hgs, At.keep32 _ hgrow HIN.out.at' HIN.out.ne, Nat.lt_of_lt_of_le hlt5 (Nat.le_trans (by simp) hgrow.size), ?_⟩
            show some g' ≠ some g
            intro h
            injection h with h
            subst h
            rcases hlies with h | h
            · exact HIN.out.ne h
            · omega
          clear hown hown' hgrow hlies hlt HIN HOL
          go_wp2
          go_roundw
          case rel => exact ⟨t + 1, by omega, by go_num, by first | rw [← HR'.out, e2] | rw [← HR'.out], HI.out⟩
          case measure => simp [intOf]; omega

end Go.Proofs.YtafljhfamjabeaaGreatDoor

namespace Go.Proofs.YtafljhfamjabeaaGreatDoor
open Go.RowKit

theorem Grows.made {w w1 : World} {n : Nat} (hb : Below w.heap.size w w1) (h : w1.ownsRow w.heap.size 101 1 (.slice (some ⟨w.heap.size, 0, none⟩) n n) n (madeCells #[Value.int .u32 0] n).toList) :
    Grows w w1 (.slice (some ⟨w.heap.size, 0, none⟩) n n) (List.replicate n 0) := by
  refine ⟨hb, ?_⟩
  rw [vals_replicate, List.length_replicate]
  rw [toList_madeCells_one] at h
  exact h

end Go.Proofs.YtafljhfamjabeaaGreatDoor

namespace Go.Proofs.YtafljhfamjabeaaGreatDoor
open Go.RowKit

/-- v is a list of digits to the base 65536 without noughts on top, the number n. -/
def Nr (w : World) (v : Value) (n : Nat) : Prop := ∃ o c xs, v = .slice o (List.length xs) c ∧ xs.length ≤ c ∧ At .u32 w o xs ∧ Is 65536 xs n

theorem Nr.below {w w' : World} {v : Value} {n : Nat} (h : Nr w v n) (hb : Below w.heap.size w w') : Nr w' v n := by
  obtain ⟨o, c, xs, h1, h2, h4, h5⟩ := h
  exact ⟨o, c, xs, h1, h2, h4.below hb, h5⟩

def NrPost (w : World) (n : Nat) (e : Ending) (w' : World) : Prop := ∃ o c l, e = .returned (.slice o l c) ∧ Nr w' (.slice o l c) n ∧ Below w.heap.size w w'

theorem NrPost.of {w w' : World} {m n : Nat} {e : Ending} (h : RPost w m n e w') : NrPost w n e w' := by
  obtain ⟨o, c, ys, rfl, h1, h2, h3, _, h5⟩ := h
  exact ⟨o, c, ys.length, rfl, ⟨o, c, ys, rfl, h1, h2, h3⟩, h5⟩

end Go.Proofs.YtafljhfamjabeaaGreatDoor

namespace Go.Proofs.YtafljhfamjabeaaGreatDoor
open Go.RowKit

/-- The text of a number. -/
def strN (N : Nat) : ByteArray := ⟨(Lib.decDigits N).toArray⟩

theorem strN_size (N : Nat) : (strN N).size = sizeN N := by simp [strN, sizeN, ByteArray.size]
theorem strN_bys (N : Nat) : bys (strN N) = Lib.decDigits N := by simp [strN, bys]
theorem strN_cut {N : Nat} (h : N ≠ 0) : (strN (N * 10)).extract 0 (sizeN N) = strN N := by
  unfold strN sizeN
  rw [dd_ten h, Lib.extract_mk]
  simp
theorem sizeN_ten {N : Nat} (h : N ≠ 0) : sizeN (N * 10) = sizeN N + 1 := by
  unfold sizeN; rw [dd_ten h]; simp

end Go.Proofs.YtafljhfamjabeaaGreatDoor

namespace Go.Proofs.YtafljhfamjabeaaGreatDoor

def isDg (b : UInt8) : Bool := decide (48 ≤ b.toNat ∧ b.toNat ≤ 57)

/-- The digits that a text begins with, and what comes behind them. -/
def dgs (l : List UInt8) : List UInt8 := l.takeWhile isDg
def aft (l : List UInt8) : List UInt8 := l.dropWhile isDg

theorem dgs_aft (l : List UInt8) : dgs l ++ aft l = l := List.takeWhile_append_dropWhile
theorem dgs_len (l : List UInt8) : (dgs l).length ≤ l.length := by
  have := congrArg List.length (dgs_aft l)
  rw [List.length_append] at this; omega
theorem dgs_take (l : List UInt8) : l.take (dgs l).length = dgs l := by
  have h := congrArg (List.take (dgs l).length) (dgs_aft l)
  rw [List.take_left' rfl] at h; exact h.symm
theorem dgs_drop (l : List UInt8) : l.drop (dgs l).length = aft l := by
  have h := congrArg (List.drop (dgs l).length) (dgs_aft l)
  rw [List.drop_left' rfl] at h; exact h.symm

theorem dgs_digB : ∀ l : List UInt8, DigB (dgs l)
  | [] => fun k hk => by simp [dgs] at hk
  | b :: t => by
    unfold dgs
    by_cases h : isDg b = true
    · rw [List.takeWhile_cons_of_pos h]
      intro k hk
      rcases k with _ | k
      · rw [byt_cons0]; exact of_decide_eq_true h
      · rw [byt_consS]
        exact dgs_digB t k (by unfold dgs; simpa using hk)
    · rw [List.takeWhile_cons_of_neg h]
      intro k hk; simp at hk

/-- The byte behind the digits is none. -/
theorem dgs_stop : ∀ l : List UInt8, (dgs l).length < l.length → ¬ (48 ≤ byt l (dgs l).length ∧ byt l (dgs l).length ≤ 57)
  | [], h => by simp at h
  | b :: t, h => by
    unfold dgs at *
    by_cases hb : isDg b = true
    · rw [List.takeWhile_cons_of_pos hb] at *
      simp only [List.length_cons] at *
      rw [byt_consS]
      exact dgs_stop t (by unfold dgs; omega)
    · rw [List.takeWhile_cons_of_neg hb]
      simp only [List.length_nil]
      rw [byt_cons0]
      exact fun e => hb (decide_eq_true e)

theorem dgs_at (l : List UInt8) {k : Nat} (h : k < (dgs l).length) : 48 ≤ byt l k ∧ byt l k ≤ 57 := by
  have h1 := dgs_digB l k h
  have h2 := byt_append_left (dgs l) (aft l) h
  rw [dgs_aft] at h2
  rwa [h2]

/-- A text without a sign ahead. -/
def unsg : List UInt8 → List UInt8
  | [] => []
  | b :: t => if b = 45 ∨ b = 43 then t else b :: t

/-- What digits with a sign ahead say. -/
def powV (l : List UInt8) : Int := if l.head? = some 45 then -(decV (unsg l) : Int) else (decV (unsg l) : Int)

theorem decFrom_val : ∀ (l : List UInt8) (a : Nat), DigB l → Lib.decFrom a l = some (a * 10 ^ l.length + decV l)
  | [], a, _ => by simp [Lib.decFrom, decV]
  | b :: t, a, h => by
    have hb := h.head
    rw [Lib.decFrom, show Lib.digitVal b = some (b.toNat - 48) by unfold Lib.digitVal; rw [if_pos hb]]
    simp only
    rw [decFrom_val t _ h.tail, decV_cons, List.length_cons]
    congr 1
    rw [Nat.add_mul, Nat.mul_assoc, Nat.pow_succ]
    have : 10 * 10 ^ t.length = 10 ^ t.length * 10 := Nat.mul_comm _ _
    rw [this]; omega

theorem decNat_val {l : List UInt8} (h0 : l ≠ []) (h : DigB l) : Lib.decNat l = some (decV l) := by
  unfold Lib.decNat
  have : l.isEmpty = false := by simpa using h0
  rw [this, decFrom_val l 0 h]
  simp

theorem atoi_val {l : List UInt8} (h0 : dgs (unsg l) ≠ []) (h1 : aft (unsg l) = []) : Lib.atoi l = some (powV l) := by
  have h2 : dgs (unsg l) = unsg l := by have := dgs_aft (unsg l); rwa [h1, List.append_nil] at this
  have hd : DigB (unsg l) := by rw [← h2]; exact dgs_digB _
  rw [h2] at h0
  cases l with
  | nil => exact absurd rfl h0
  | cons b t =>
    by_cases e1 : b = 45
    · subst e1
      have e : unsg (45 :: t) = t := rfl
      rw [e] at h0 hd
      unfold powV Lib.atoi
      rw [e]
      simp [decNat_val h0 hd]
    · by_cases e2 : b = 43
      · subst e2
        have e : unsg (43 :: t) = t := rfl
        rw [e] at h0 hd
        unfold powV Lib.atoi
        rw [e]
        simp [decNat_val h0 hd]
      · have e : unsg (b :: t) = b :: t := by simp [unsg, e1, e2]
        rw [e] at h0 hd
        unfold powV Lib.atoi
        rw [e]
        simp [e1, e2, decNat_val h0 hd]

/-- What the parts of a text of a number say: the sign, the digits ahead of the point and behind it, the exponent; none: it is no text of a number. -/
structure Parts where
  neg : Bool
  ahead : List UInt8
  behind : List UInt8
  pow : Int

def p1 (s : List UInt8) : List UInt8 := Lib.trimPrefix s [45]
def p2 (s : List UInt8) : List UInt8 := aft (p1 s)
def pDot (s : List UInt8) : Bool := Lib.hasPrefix (p2 s) [46]
def pAhead (s : List UInt8) : List UInt8 := dgs (p1 s)
def pBehind (s : List UInt8) : List UInt8 := if pDot s then dgs (Lib.trimPrefix (p2 s) [46]) else []
def p3 (s : List UInt8) : List UInt8 := if pDot s then aft (Lib.trimPrefix (p2 s) [46]) else p2 s
def p4 (s : List UInt8) : List UInt8 := (p3 s).drop 1

def parseT (s : List UInt8) : Option Parts :=
  if pAhead s = [] ∧ pBehind s = [] then none
  else if p3 s = [] then some ⟨Lib.hasPrefix s [45], pAhead s, pBehind s, 0⟩
  else if ¬ (byt (p3 s) 0 = 101 ∨ byt (p3 s) 0 = 69) then none
  else if dgs (unsg (p4 s)) = [] ∨ 5 < (dgs (unsg (p4 s))).length ∨ aft (unsg (p4 s)) ≠ [] then none
  else some ⟨Lib.hasPrefix s [45], pAhead s, pBehind s, powV (p4 s)⟩

end Go.Proofs.YtafljhfamjabeaaGreatDoor

namespace Go.Proofs.YtafljhfamjabeaaGreatDoor
open Go.RowKit

theorem hp_one (l : List UInt8) (c : UInt8) : Lib.hasPrefix l [c] = decide (l.head? = some c) := by
  unfold Lib.hasPrefix
  cases l with
  | nil => rfl
  | cons b t =>
    by_cases h : b = c
    · subst h; simp
    · have h' : ¬ c = b := fun e => h e.symm
      show (c == b && List.isPrefixOf [] t) = _
      simp [h, h']

theorem head_pos {l : List UInt8} {c : UInt8} (h : l.head? = some c) : 0 < l.length := by
  cases l with
  | nil => simp at h
  | cons b t => simp

theorem unsg_drop {l : List UInt8} (h : l.head? = some 45 ∨ l.head? = some 43) : unsg l = l.drop 1 := by
  cases l with
  | nil => rfl
  | cons b t => simp at h; simp [unsg, h]

theorem unsg_same {l : List UInt8} (h1 : ¬ l.head? = some 45) (h2 : ¬ l.head? = some 43) : unsg l = l := by
  cases l with
  | nil => rfl
  | cons b t => simp at h1 h2; simp [unsg, h1, h2]

set_option maxHeartbeats 1000000 in
theorem dcut_any (s : ByteArray) (w : World) (hs : s.size ≤ 281474976710656) :
    Calls Tryz.prog 55 #[.string s] w fun e w' => e = .returned (.tuple #[.string ⟨(dgs (bys s)).toArray⟩, .string ⟨(aft (bys s)).toArray⟩]) ∧ Below w.heap.size w w' := by
  have H1 := hide (fun (k : Nat) (h : k < (dgs (bys s)).length) => dgs_at (bys s) h)
  have H2 := hide (dgs_stop (bys s))
  have H3 := hide (dgs_take (bys s))
  have H4 := hide (dgs_drop (bys s))
  have hle := dgs_len (bys s)
  rw [bys_len] at hle H2
  obtain ⟨n, hn⟩ : ∃ n, n = (dgs (bys s)).length := ⟨_, rfl⟩
  rw [← hn] at hle H1 H2 H3 H4
  obtain ⟨A, hA⟩ : ∃ A : ByteArray, A = ⟨(dgs (bys s)).toArray⟩ := ⟨_, rfl⟩
  obtain ⟨B, hB⟩ : ∃ B : ByteArray, B = ⟨(aft (bys s)).toArray⟩ := ⟨_, rfl⟩
  have HA : Hid (s.extract 0 n = A) := by rw [hA, ← H3.out, Lib.extract_upto]; rfl
  have HB : Hid (s.extract n s.size = B) := by rw [hB, ← H4.out, Lib.extract_from]; rfl
  rw [← hA, ← hB]
  clear hn hA hB H3 H4
  go_enter Tryz.func55, Tryz.ntmps55
  go_wp2
  go_loopw [4] (fun i wr => ∃ k : Nat, k ≤ n ∧ i = .int .i64 (k : Int) ∧ wr = w) (fun i _ => n - (intOf i).toNat)
  case atStart => exact ⟨0, Nat.zero_le _, rfl, rfl⟩
  case round =>
    obtain ⟨k, hk, rfl, rfl⟩ := hrel
    by_cases hlt : k < n
    · have hlt' : (k : Int) < (s.size : Int) := by omega
      have hks : k < s.size := by omega
      have hg : ∀ h : k < s.size, s[k].toNat = byt (bys s) k := fun h => byt_get s k h
      have hb := H1.out k hlt
      obtain ⟨b, hbb⟩ : ∃ b, b = byt (bys s) k := ⟨_, rfl⟩
      rw [← hbb] at hg hb
      have h1' : decide ((48 : Int) ≤ (b : Int)) = true := decide_eq_true (by omega)
      have h2' : decide ((b : Int) ≤ 57) = true := decide_eq_true (by omega)
      have h1'' : (48 : Int) ≤ (b : Int) := by omega
      have h2'' : (b : Int) ≤ 57 := by omega
      clear hbb
      go_wp2
      exact ⟨⟨k + 1, by omega, by go_num, trivial⟩, by simp [intOf]; omega⟩
    · have hkn : k = n := by omega
      by_cases hend : k < s.size
      · have hlt' : (k : Int) < (s.size : Int) := by omega
        have hg : ∀ h : k < s.size, s[k].toNat = byt (bys s) k := fun h => byt_get s k h
        have hb := H2.out (by omega)
        rw [← hkn] at hb
        obtain ⟨b, hbb⟩ : ∃ b, b = byt (bys s) k := ⟨_, rfl⟩
        rw [← hbb] at hg hb
        rw [← hkn] at HA HB
        clear hbb hkn hlt
        by_cases h1 : 48 ≤ b
        · have h1'' : (48 : Int) ≤ (b : Int) := by omega
          have h2'' : ¬ (b : Int) ≤ 57 := by omega
          go_wp2
          go_region
          go_wp2
          go_ret2
          rw [HA.out, HB.out]
          exact ⟨rfl, (Below.refl _ _).drew⟩
        · have h1'' : ¬ (48 : Int) ≤ (b : Int) := by omega
          go_wp2
          go_region
          go_wp2
          go_ret2
          rw [HA.out, HB.out]
          exact ⟨rfl, (Below.refl _ _).drew⟩
      · have hlt' : ¬ (k : Int) < (s.size : Int) := by omega
        rw [← hkn] at HA HB
        clear hkn hlt
        go_wp2
        go_region
        go_wp2
        go_ret2
        rw [HA.out, HB.out]
        exact ⟨rfl, (Below.refl _ _).drew⟩

set_option maxHeartbeats 1000000 in
theorem unsigned_any (s : ByteArray) (w : World) :
    Calls Tryz.prog 56 #[.string s] w fun e w' => e = .returned (.string ⟨(unsg (bys s)).toArray⟩) ∧ w = w' := by
  have P1 := hide (fun W => Tryz.strings_HasPrefix s ⟨#[45]⟩ W)
  have P2 := hide (fun W => Tryz.strings_HasPrefix s ⟨#[43]⟩ W)
  have hp1 : Lib.hasPrefix s.data.toList [45] = decide ((bys s).head? = some 45) := hp_one (bys s) 45
  have hp2 : Lib.hasPrefix s.data.toList [43] = decide ((bys s).head? = some 43) := hp_one (bys s) 43
  have e1 : (⟨#[45]⟩ : ByteArray).data.toList = [45] := rfl
  have e2 : (⟨#[43]⟩ : ByteArray).data.toList = [43] := rfl
  rw [e1, hp1] at P1
  rw [e2, hp2] at P2
  clear hp1 hp2 e1 e2
  by_cases h1 : (bys s).head? = some 45
  · rw [decide_eq_true h1] at P1
    have HU : Hid (s.extract 1 s.size = ⟨(unsg (bys s)).toArray⟩) := by rw [Lib.extract_from]; rw [unsg_drop (.inl h1)]; rfl
    have hs : (1 : Int) ≤ (s.size : Int) := by have := head_pos h1; rw [bys_len] at this; omega
    clear h1 P2
    go_enter Tryz.func56, Tryz.ntmps56
    go_wp2_with fail
    refine (P1.out _).mono ?_
    rintro e w' ⟨rfl, rfl⟩
    go_wp2
    go_ret
    rw [HU.out]
    exact ⟨rfl, rfl⟩
  · rw [decide_eq_false h1] at P1
    by_cases h2 : (bys s).head? = some 43
    · rw [decide_eq_true h2] at P2
      have HU : Hid (s.extract 1 s.size = ⟨(unsg (bys s)).toArray⟩) := by rw [Lib.extract_from]; rw [unsg_drop (.inr h2)]; rfl
      have hs : (1 : Int) ≤ (s.size : Int) := by have := head_pos h2; rw [bys_len] at this; omega
      clear h1 h2
      go_enter Tryz.func56, Tryz.ntmps56
      go_wp2_with fail
      refine (P1.out _).mono ?_
      rintro e w' ⟨rfl, rfl⟩
      go_wp2_with fail
      refine (P2.out _).mono ?_
      rintro e w' ⟨rfl, rfl⟩
      go_wp2
      go_ret
      rw [HU.out]
      exact ⟨rfl, rfl⟩
    · rw [decide_eq_false h2] at P2
      have HU : Hid (s = ⟨(unsg (bys s)).toArray⟩) := by rw [unsg_same h1 h2]; exact (mk_bys s).symm
      clear h1 h2
      go_enter Tryz.func56, Tryz.ntmps56
      go_wp2_with fail
      refine (P1.out _).mono ?_
      rintro e w' ⟨rfl, rfl⟩
      go_wp2_with fail
      refine (P2.out _).mono ?_
      rintro e w' ⟨rfl, rfl⟩
      go_wp2
      go_ret
      rw [← HU.out]
      exact ⟨rfl, rfl⟩

end Go.Proofs.YtafljhfamjabeaaGreatDoor

namespace Go.Proofs.YtafljhfamjabeaaGreatDoor
open Go.RowKit

section
variable {w : World} {b : Nat} {t : TypeId} {x0 x1 x2 x3 : Value}
theorem Blk.set0 (h : Blk w b #[x0, x1, x2, x3] t) (y : Value) : Blk (w.setCell ⟨b, 0, none⟩ y) b #[y, x1, x2, x3] t := by
  unfold Blk at *
  simp only [World.setCell, Array.getElem?_modify, if_true, h, Option.map_some]
  rfl
theorem Blk.set1 (h : Blk w b #[x0, x1, x2, x3] t) (y : Value) : Blk (w.setCell ⟨b, 1, none⟩ y) b #[x0, y, x2, x3] t := by
  unfold Blk at *
  simp only [World.setCell, Array.getElem?_modify, if_true, h, Option.map_some]
  rfl
theorem Blk.set2 (h : Blk w b #[x0, x1, x2, x3] t) (y : Value) : Blk (w.setCell ⟨b, 2, none⟩ y) b #[x0, x1, y, x3] t := by
  unfold Blk at *
  simp only [World.setCell, Array.getElem?_modify, if_true, h, Option.map_some]
  rfl
end

/-- What takeApart answers. -/
abbrev numV (neg : Bool) (a b : List UInt8) (p : Int) : Value := .agg #[.bool neg, .string ⟨a.toArray⟩, .string ⟨b.toArray⟩, .int .i64 p]
def partsV : Option Parts → Value
  | none => .tuple #[numV false [] [] 0, .bool false]
  | some p => .tuple #[numV p.neg p.ahead p.behind p.pow, .bool true]

theorem results_num2 {fn : Func} {a c : Tmp} (h : fn.results = #[.cell a 43, .tmp c]) (tmps : Array Value) (H : Nat) (x0 x1 x2 x3 : Value) (w : World) (ht : tmps.getD a undef = .pointer (some ⟨H, 0, none⟩)) (hp : Blk w H #[x0, x1, x2, x3] 43) :
    (results fn tmps).run Tryz.prog w = .ok (.tuple #[.agg #[x0, x1, x2, x3], tmps.getD c undef]) w := by
  have c0 := hp.cell 0
  have c1 := hp.cell 1
  have c2 := hp.cell 2
  have c3 := hp.cell 3
  simp at c0 c1 c2 c3
  rw [Array.getD_eq_getD_getElem?] at ht
  simp [results, h, ht, go_sem, c0, c1, c2, c3]

/-- How far a text has been taken apart: what is left, and what its parts say so far. -/
def restK (s : List UInt8) : Nat → List UInt8
  | 0 => s
  | 1 => p1 s
  | 2 => p2 s
  | 3 => p3 s
  | _ => p4 s
def negK (s : List UInt8) (k : Nat) : Bool := if k = 0 then false else Lib.hasPrefix s [45]
def aheadK (s : List UInt8) (k : Nat) : List UInt8 := if k ≤ 1 then [] else pAhead s
def behindK (s : List UInt8) (k : Nat) : List UInt8 := if k ≤ 2 then [] else pBehind s

structure TakeInv (s : List UInt8) (w : World) (k : Nat) (r : Value) (wr : World) : Prop where
  hk : k ≤ 4
  hr : r = .string ⟨(restK s k).toArray⟩
  low : Below w.heap.size w wr
  res : Blk wr w.heap.size #[.bool false, .string ⟨#[]⟩, .string ⟨#[]⟩, .int .i64 0] 43
  num : Blk wr (w.heap.size + 1) #[.bool (negK s k), .string ⟨(aheadK s k).toArray⟩, .string ⟨(behindK s k).toArray⟩, .int .i64 0] 43
  some : 3 ≤ k → ¬ (pAhead s = [] ∧ pBehind s = [])
  mark : 4 ≤ k → p3 s ≠ [] ∧ (byt (p3 s) 0 = 101 ∨ byt (p3 s) 0 = 69)

theorem mk_data0 (l : List UInt8) : (⟨l.toArray⟩ : ByteArray).data.toList = l := by simp

theorem cutp (L : List UInt8) (c : UInt8) (W : World) : Calls Tryz.prog 54 #[.string ⟨L.toArray⟩, .string ⟨#[c]⟩] W fun e w' => e = .returned (.tuple #[.string ⟨(Lib.trimPrefix L [c]).toArray⟩, .bool (Lib.hasPrefix L [c])]) ∧ w' = W := by
  have h := Tryz.strings_CutPrefix ⟨L.toArray⟩ ⟨#[c]⟩ W
  rw [mk_data0] at h
  exact h

theorem cutd (L : List UInt8) (W : World) (h : L.length ≤ 281474976710656) : Calls Tryz.prog 55 #[.string ⟨L.toArray⟩] W fun e w' => e = .returned (.tuple #[.string ⟨(dgs L).toArray⟩, .string ⟨(aft L).toArray⟩]) ∧ Below W.heap.size W w' := by
  have h := dcut_any ⟨L.toArray⟩ W (by rw [size_mk0]; exact h)
  rw [bys_mk] at h
  exact h

theorem unsd (L : List UInt8) (W : World) : Calls Tryz.prog 56 #[.string ⟨L.toArray⟩] W fun e w' => e = .returned (.string ⟨(unsg L).toArray⟩) ∧ W = w' := by
  have h := unsigned_any ⟨L.toArray⟩ W
  rw [bys_mk] at h
  exact h

theorem atoi_len {l : List UInt8} (h2 : ¬ 5 < (dgs (unsg l)).length) (h3 : aft (unsg l) = []) : l.length ≤ 18 := by
  have h4 := congrArg List.length (dgs_aft (unsg l))
  rw [List.length_append, h3, List.length_nil] at h4
  have h5 : l.length ≤ (unsg l).length + 1 := by
    cases l with
    | nil => simp
    | cons b t => by_cases h : b = 45 ∨ b = 43 <;> simp [unsg, h]
  omega

theorem bytes_below (w : World) (T : TypeId) (t : ByteArray) : Below w.heap.size w (Lib.bytesWorld w T t) := Joins.below_bytesWorld _ w T t (Nat.le_refl _)

theorem tp_len (l p : List UInt8) : (Lib.trimPrefix l p).length ≤ l.length := Lib.trimPrefix_le l p
theorem aft_len (l : List UInt8) : (aft l).length ≤ l.length := by
  have := congrArg List.length (dgs_aft l)
  rw [List.length_append] at this; omega
theorem p1_len (s : List UInt8) : (p1 s).length ≤ s.length := tp_len _ _
theorem p2_len (s : List UInt8) : (p2 s).length ≤ s.length := Nat.le_trans (aft_len _) (p1_len s)
theorem p3_len (s : List UInt8) : (p3 s).length ≤ s.length := by
  unfold p3; split
  · exact Nat.le_trans (aft_len _) (Nat.le_trans (tp_len _ _) (p2_len s))
  · exact p2_len s
theorem unsg_len (l : List UInt8) : (unsg l).length ≤ l.length := by
  cases l with
  | nil => simp [unsg]
  | cons b t => unfold unsg; simp only; split <;> simp
theorem p4_len (s : List UInt8) : (p4 s).length ≤ s.length := by
  unfold p4; rw [List.length_drop]; have := p3_len s; omega

set_option maxRecDepth 100000 in
set_option maxHeartbeats 2000000 in
theorem take_any (s : ByteArray) (w : World) (hs : s.size ≤ 281474976710656) :
    Calls Tryz.prog 34 #[.string s] w fun e w' => e = .returned (partsV (parseT (bys s))) ∧ Below w.heap.size w w' := by
  have START : Hid (TakeInv (bys s) w 0 (.string s) ((w.alloc (.cells #[.bool false, .string ⟨#[]⟩, .string ⟨#[]⟩, .int .i64 0] 43)).alloc (.cells #[.bool false, .string ⟨#[]⟩, .string ⟨#[]⟩, .int .i64 0] 43))) :=
    ⟨by omega, by rw [show restK (bys s) 0 = bys s from rfl, mk_bys], ((Below.refl _ _).alloc (Nat.le_refl _) _).alloc (by simp) _, (Blk.new _ _ _).alloc _, Blk.newAt _ _ (by simp) _ _, by omega, by omega⟩
  obtain ⟨L, hL⟩ : ∃ L, L = bys s := ⟨_, rfl⟩
  have HLEN : Hid (L.length ≤ 281474976710656) := by rw [hL, bys_len]; exact hs
  rw [← hL] at START ⊢
  clear hL hs
  go_enter Tryz.func34, Tryz.ntmps34
  go_wp2
  go_step3
  go_wp2
  go_step3
  go_wp2
  go_loopw [0, 10] (fun r i wr => ∃ (k : Nat) (z : Int), i = .int .i64 z ∧ z = (k : Int) ∧ Hid (TakeInv L w k r wr)) (fun _ i _ => 5 - (intOf i).toNat)
  case atStart => exact ⟨0, 0, rfl, rfl, START.out⟩
  case round =>
    clear START
    obtain ⟨k, z, rfl, hz, INV⟩ := hrel
    obtain rfl := INV.out.hr
    have hk := INV.out.hk
    obtain ⟨wq, hq⟩ : ∃ x, x = wr := ⟨_, rfl⟩
    subst hq
    rcases k with _ | _ | _ | _ | _ | k
    · obtain rfl : z = 0 := by omega
      have y0 : wq.cell? ⟨w.heap.size + 1, 0, none⟩ = some (.bool false) := INV.out.num.cell 0
      have f0 := INV.out.num.free 0
      have y1 : wq.cell? ⟨w.heap.size + 1, 1, none⟩ = some (.string ⟨#[]⟩) := INV.out.num.cell 1
      have f1 := INV.out.num.free 1
      have y2 : wq.cell? ⟨w.heap.size + 1, 2, none⟩ = some (.string ⟨#[]⟩) := INV.out.num.cell 2
      have f2 := INV.out.num.free 2
      have y3 : wq.cell? ⟨w.heap.size + 1, 3, none⟩ = some (.int .i64 0) := INV.out.num.cell 3
      have f3 := INV.out.num.free 3
      rw [show restK L 0 = L from rfl]
      clear hz hk
      go_wp2_with fail
      refine (cutp L 45 _).mono ?_
      rintro e w1 ⟨rfl, rfl⟩
      go_wp2
      exact ⟨⟨1, 1, rfl, rfl, by omega, rfl, INV.out.low.setCell (Nat.le_succ _) _, INV.out.res.other (by simp) _, INV.out.num.set0 _, by omega, by omega⟩, by simp [intOf]⟩
    · obtain rfl : z = 1 := by omega
      rw [show restK L 1 = p1 L from rfl]
      have CD := hide (fun W => cutd (p1 L) W (Nat.le_trans (p1_len L) HLEN.out))
      obtain ⟨R, hR⟩ : ∃ R : ByteArray, R = ⟨(p1 L).toArray⟩ := ⟨_, rfl⟩
      rw [← hR] at CD ⊢
      clear hz hk hR
      go_wp2_with fail
      refine (CD.out _).mono ?_
      rintro e w1 ⟨rfl, hb⟩
      have BN := hide (INV.out.num.below hb INV.out.num.lt)
      have BR := hide (INV.out.res.below hb INV.out.res.lt)
      have HB := hide (INV.out.low.trans (hb.mono INV.out.low.size))
      clear hb INV
      have y0 : w1.cell? ⟨w.heap.size + 1, 0, none⟩ = some (.bool (Lib.hasPrefix L [45])) := BN.out.cell 0
      have f0 := BN.out.free 0
      have y1 : w1.cell? ⟨w.heap.size + 1, 1, none⟩ = some (.string ⟨#[]⟩) := BN.out.cell 1
      have f1 := BN.out.free 1
      have y2 : w1.cell? ⟨w.heap.size + 1, 2, none⟩ = some (.string ⟨#[]⟩) := BN.out.cell 2
      have f2 := BN.out.free 2
      have y3 : w1.cell? ⟨w.heap.size + 1, 3, none⟩ = some (.int .i64 0) := BN.out.cell 3
      have f3 := BN.out.free 3
      go_wp2
      exact ⟨⟨2, 2, rfl, rfl, by omega, rfl, HB.out.setCell (Nat.le_succ _) _, BR.out.other (by simp) _, BN.out.set1 _, by omega, by omega⟩, by simp [intOf]⟩
    · obtain rfl : z = 2 := by omega
      rw [show restK L 2 = p2 L from rfl]
      have CP := hide (fun W => cutp (p2 L) 46 W)
      rw [show Lib.hasPrefix (p2 L) [46] = pDot L from rfl] at CP
      have HT := hide (Nat.le_trans (tp_len (p2 L) [46]) (Nat.le_trans (p2_len L) HLEN.out))
      have CD := hide (fun W => cutd (Lib.trimPrefix (p2 L) [46]) W HT.out)
      obtain ⟨R, hR⟩ : ∃ R : ByteArray, R = ⟨(p2 L).toArray⟩ := ⟨_, rfl⟩
      obtain ⟨T, hT⟩ : ∃ T : ByteArray, T = ⟨(Lib.trimPrefix (p2 L) [46]).toArray⟩ := ⟨_, rfl⟩
      rw [← hT] at CD
      rw [← hR] at CP ⊢
      rw [← hT] at CP
      have HR := hide hR
      clear hz hk hR hT HT
      by_cases hd : ¬ pDot L = true
      · rw [show pDot L = false by simpa using hd] at CP
        have EB : Hid (pBehind L = []) := by unfold pBehind; rw [if_neg hd]; rfl
        have E3 : Hid (p3 L = p2 L) := by unfold p3; rw [if_neg hd]; rfl
        clear CD hd
        by_cases ha : pAhead L = []
        · have PN : Hid (parseT L = none) := by unfold parseT; rw [if_pos ⟨ha, EB.out⟩]; rfl
          have y0 : wq.cell? ⟨w.heap.size + 1, 0, none⟩ = some (.bool (Lib.hasPrefix L [45])) := INV.out.num.cell 0
          have f0 := INV.out.num.free 0
          have y1 : wq.cell? ⟨w.heap.size + 1, 1, none⟩ = some (.string ⟨#[]⟩) := by have := INV.out.num.cell 1; rw [this]; show some (Value.string ⟨(pAhead L).toArray⟩) = _; rw [ha]
          have f1 := INV.out.num.free 1
          have y2 : wq.cell? ⟨w.heap.size + 1, 2, none⟩ = some (.string ⟨#[]⟩) := INV.out.num.cell 2
          have f2 := INV.out.num.free 2
          have y3 : wq.cell? ⟨w.heap.size + 1, 3, none⟩ = some (.int .i64 0) := INV.out.num.cell 3
          have f3 := INV.out.num.free 3
          have z0 : wq.cell? ⟨w.heap.size, 0, none⟩ = some (.bool false) := INV.out.res.cell 0
          have g0 := INV.out.res.free 0
          have z1 : wq.cell? ⟨w.heap.size, 1, none⟩ = some (.string ⟨#[]⟩) := INV.out.res.cell 1
          have g1 := INV.out.res.free 1
          have z2 : wq.cell? ⟨w.heap.size, 2, none⟩ = some (.string ⟨#[]⟩) := INV.out.res.cell 2
          have g2 := INV.out.res.free 2
          have z3 : wq.cell? ⟨w.heap.size, 3, none⟩ = some (.int .i64 0) := INV.out.res.cell 3
          have g3 := INV.out.res.free 3
          clear ha
          go_wp2_with fail
          refine (CP.out _).mono ?_
          rintro e w1 ⟨rfl, rfl⟩
          go_wp2
          rw [Exit.noGoto_ret]
          refine bodyPost_ret (results_num2 rfl _ _ _ _ _ _ _ rfl (INV.out.res.put4 _ _ _ _)) rfl ?_
          exact ⟨by rw [PN.out]; rfl, below_put4 (INV.out.low) (Nat.le_refl _) _ _ _ _⟩
        · obtain ⟨A, hA⟩ : ∃ A : ByteArray, A = ⟨(pAhead L).toArray⟩ := ⟨_, rfl⟩
          have hne : A.size ≠ 0 := by rw [hA, size_mk0]; exact fun e => ha (List.length_eq_zero_iff.1 e)
          have hA1 := toList_ne hne
          have HA := hide hA
          clear hne hA
          have y0 : wq.cell? ⟨w.heap.size + 1, 0, none⟩ = some (.bool (Lib.hasPrefix L [45])) := INV.out.num.cell 0
          have f0 := INV.out.num.free 0
          have y1 : wq.cell? ⟨w.heap.size + 1, 1, none⟩ = some (.string A) := by rw [HA.out]; exact INV.out.num.cell 1
          have f1 := INV.out.num.free 1
          have y2 : wq.cell? ⟨w.heap.size + 1, 2, none⟩ = some (.string ⟨#[]⟩) := INV.out.num.cell 2
          have f2 := INV.out.num.free 2
          have y3 : wq.cell? ⟨w.heap.size + 1, 3, none⟩ = some (.int .i64 0) := INV.out.num.cell 3
          have f3 := INV.out.num.free 3
          have NE : Hid (¬ (pAhead L = [] ∧ pBehind L = [])) := fun e => ha e.1
          clear ha
          go_wp2_with fail
          refine (CP.out _).mono ?_
          rintro e w1 ⟨rfl, rfl⟩
          go_wp2
          refine ⟨⟨3, 3, rfl, rfl, by omega, ?_, INV.out.low, INV.out.res, ?_, fun _ => NE.out, by omega⟩, by simp [intOf]⟩
          · rw [HR.out, ← E3.out]; rfl
          · have h := INV.out.num
            rw [show behindK L 3 = pBehind L from rfl, EB.out]
            exact h
      · have hd := Classical.not_not.1 hd
        rw [hd] at CP
        have EB : Hid (pBehind L = dgs (Lib.trimPrefix (p2 L) [46])) := by unfold pBehind; rw [if_pos hd]; rfl
        have E3 : Hid (p3 L = aft (Lib.trimPrefix (p2 L) [46])) := by unfold p3; rw [if_pos hd]; rfl
        rw [← EB.out, ← E3.out] at CD
        obtain ⟨P, hP⟩ : ∃ P : ByteArray, P = ⟨(p3 L).toArray⟩ := ⟨_, rfl⟩
        rw [← hP] at CD
        have HP := hide hP
        clear hd hP EB E3
        by_cases ha : pAhead L = []
        · by_cases hb0 : pBehind L = []
          · have PN : Hid (parseT L = none) := by unfold parseT; rw [if_pos ⟨ha, hb0⟩]; rfl
            rw [hb0] at CD
            go_wp2_with fail
            refine (CP.out _).mono ?_
            rintro e w1 ⟨rfl, rfl⟩
            go_wp2_with fail
            refine (CD.out _).mono ?_
            rintro e w1 ⟨rfl, hb⟩
            have BN := hide (INV.out.num.below hb INV.out.num.lt)
            have BR := hide (INV.out.res.below hb INV.out.res.lt)
            have HB := hide (INV.out.low.trans (hb.mono INV.out.low.size))
            clear hb INV
            have y0 : w1.cell? ⟨w.heap.size + 1, 0, none⟩ = some (.bool (Lib.hasPrefix L [45])) := BN.out.cell 0
            have f0 := BN.out.free 0
            have y1 : w1.cell? ⟨w.heap.size + 1, 1, none⟩ = some (.string ⟨#[]⟩) := by have := BN.out.cell 1; rw [this]; show some (Value.string ⟨(pAhead L).toArray⟩) = _; rw [ha]
            have f1 := BN.out.free 1
            have y2 : w1.cell? ⟨w.heap.size + 1, 2, none⟩ = some (.string ⟨#[]⟩) := BN.out.cell 2
            have f2 := BN.out.free 2
            have y3 : w1.cell? ⟨w.heap.size + 1, 3, none⟩ = some (.int .i64 0) := BN.out.cell 3
            have f3 := BN.out.free 3
            have z0 : w1.cell? ⟨w.heap.size, 0, none⟩ = some (.bool false) := BR.out.cell 0
            have g0 := BR.out.free 0
            have z1 : w1.cell? ⟨w.heap.size, 1, none⟩ = some (.string ⟨#[]⟩) := BR.out.cell 1
            have g1 := BR.out.free 1
            have z2 : w1.cell? ⟨w.heap.size, 2, none⟩ = some (.string ⟨#[]⟩) := BR.out.cell 2
            have g2 := BR.out.free 2
            have z3 : w1.cell? ⟨w.heap.size, 3, none⟩ = some (.int .i64 0) := BR.out.cell 3
            have g3 := BR.out.free 3
            clear ha hb0
            go_wp2
            rw [Exit.noGoto_ret]
            refine bodyPost_ret (results_num2 rfl _ _ _ _ _ _ _ rfl ((BR.out.other (by simp) _).put4 _ _ _ _)) rfl ?_
            exact ⟨by rw [PN.out]; rfl, below_put4 (HB.out.setCell (Nat.le_succ _) _) (Nat.le_refl _) _ _ _ _⟩
          · obtain ⟨B, hB⟩ : ∃ B : ByteArray, B = ⟨(pBehind L).toArray⟩ := ⟨_, rfl⟩
            have hne : B.size ≠ 0 := by rw [hB, size_mk0]; exact fun e => hb0 (List.length_eq_zero_iff.1 e)
            have hB1 := toList_ne hne
            have NE : Hid (¬ (pAhead L = [] ∧ pBehind L = [])) := fun e => hb0 e.2
            rw [← hB] at CD
            have HBB := hide hB
            clear hne hB
            go_wp2_with fail
            refine (CP.out _).mono ?_
            rintro e w1 ⟨rfl, rfl⟩
            go_wp2_with fail
            refine (CD.out _).mono ?_
            rintro e w1 ⟨rfl, hb⟩
            have BN := hide (INV.out.num.below hb INV.out.num.lt)
            have BR := hide (INV.out.res.below hb INV.out.res.lt)
            have HB := hide (INV.out.low.trans (hb.mono INV.out.low.size))
            clear hb INV
            have y0 : w1.cell? ⟨w.heap.size + 1, 0, none⟩ = some (.bool (Lib.hasPrefix L [45])) := BN.out.cell 0
            have f0 := BN.out.free 0
            have y1 : w1.cell? ⟨w.heap.size + 1, 1, none⟩ = some (.string ⟨#[]⟩) := by have := BN.out.cell 1; rw [this]; show some (Value.string ⟨(pAhead L).toArray⟩) = _; rw [ha]
            have f1 := BN.out.free 1
            have y2 : w1.cell? ⟨w.heap.size + 1, 2, none⟩ = some (.string ⟨#[]⟩) := BN.out.cell 2
            have f2 := BN.out.free 2
            have y3 : w1.cell? ⟨w.heap.size + 1, 3, none⟩ = some (.int .i64 0) := BN.out.cell 3
            have f3 := BN.out.free 3
            have EA := hide ha
            clear ha hb0
            go_wp2
            refine ⟨⟨3, 3, rfl, rfl, by omega, by rw [HP.out]; rfl, HB.out.setCell (Nat.le_succ _) _, BR.out.other (by simp) _, ?_, fun _ => NE.out, by omega⟩, by simp [intOf]⟩
            have h := BN.out.set2 (.string B)
            rw [HBB.out] at h ⊢
            exact h
        · obtain ⟨A, hA⟩ : ∃ A : ByteArray, A = ⟨(pAhead L).toArray⟩ := ⟨_, rfl⟩
          have hne : A.size ≠ 0 := by rw [hA, size_mk0]; exact fun e => ha (List.length_eq_zero_iff.1 e)
          have hA1 := toList_ne hne
          have HA := hide hA
          clear hne hA
          obtain ⟨B, hB⟩ : ∃ B : ByteArray, B = ⟨(pBehind L).toArray⟩ := ⟨_, rfl⟩
          have NE : Hid (¬ (pAhead L = [] ∧ pBehind L = [])) := fun e => ha e.1
          rw [← hB] at CD
          have HBB := hide hB
          clear hB ha
          go_wp2_with fail
          refine (CP.out _).mono ?_
          rintro e w1 ⟨rfl, rfl⟩
          go_wp2_with fail
          refine (CD.out _).mono ?_
          rintro e w1 ⟨rfl, hb⟩
          have BN := hide (INV.out.num.below hb INV.out.num.lt)
          have BR := hide (INV.out.res.below hb INV.out.res.lt)
          have HB := hide (INV.out.low.trans (hb.mono INV.out.low.size))
          clear hb INV
          have y0 : w1.cell? ⟨w.heap.size + 1, 0, none⟩ = some (.bool (Lib.hasPrefix L [45])) := BN.out.cell 0
          have f0 := BN.out.free 0
          have y1 : w1.cell? ⟨w.heap.size + 1, 1, none⟩ = some (.string A) := by rw [HA.out]; exact BN.out.cell 1
          have f1 := BN.out.free 1
          have y2 : w1.cell? ⟨w.heap.size + 1, 2, none⟩ = some (.string ⟨#[]⟩) := BN.out.cell 2
          have f2 := BN.out.free 2
          have y3 : w1.cell? ⟨w.heap.size + 1, 3, none⟩ = some (.int .i64 0) := BN.out.cell 3
          have f3 := BN.out.free 3
          go_wp2
          refine ⟨⟨3, 3, rfl, rfl, by omega, by rw [HP.out]; rfl, HB.out.setCell (Nat.le_succ _) _, BR.out.other (by simp) _, ?_, fun _ => NE.out, by omega⟩, by simp [intOf]⟩
          have h := BN.out.set2 (.string B)
          rw [HBB.out] at h ⊢
          exact h
    · obtain rfl : z = 3 := by omega
      rw [show restK L 3 = p3 L from rfl]
      have NE := hide (INV.out.some (by omega))
      obtain ⟨A, hA⟩ : ∃ A : ByteArray, A = ⟨(pAhead L).toArray⟩ := ⟨_, rfl⟩
      obtain ⟨B, hB⟩ : ∃ B : ByteArray, B = ⟨(pBehind L).toArray⟩ := ⟨_, rfl⟩
      obtain ⟨S, hS⟩ : ∃ S : Bool, S = Lib.hasPrefix L [45] := ⟨_, rfl⟩
      have NUM : Hid (Blk wq (w.heap.size + 1) #[.bool S, .string A, .string B, .int .i64 0] 43) := by rw [hA, hB, hS]; exact INV.out.num
      have HA := hide hA
      have HBB := hide hB
      have HSS := hide hS
      clear hA hB hS
      have y0 : wq.cell? ⟨w.heap.size + 1, 0, none⟩ = some (.bool S) := NUM.out.cell 0
      have f0 := NUM.out.free 0
      have y1 : wq.cell? ⟨w.heap.size + 1, 1, none⟩ = some (.string A) := NUM.out.cell 1
      have f1 := NUM.out.free 1
      have y2 : wq.cell? ⟨w.heap.size + 1, 2, none⟩ = some (.string B) := NUM.out.cell 2
      have f2 := NUM.out.free 2
      have y3 : wq.cell? ⟨w.heap.size + 1, 3, none⟩ = some (.int .i64 0) := NUM.out.cell 3
      have f3 := NUM.out.free 3
      have z0 : wq.cell? ⟨w.heap.size, 0, none⟩ = some (.bool false) := INV.out.res.cell 0
      have g0 := INV.out.res.free 0
      have z1 : wq.cell? ⟨w.heap.size, 1, none⟩ = some (.string ⟨#[]⟩) := INV.out.res.cell 1
      have g1 := INV.out.res.free 1
      have z2 : wq.cell? ⟨w.heap.size, 2, none⟩ = some (.string ⟨#[]⟩) := INV.out.res.cell 2
      have g2 := INV.out.res.free 2
      have z3 : wq.cell? ⟨w.heap.size, 3, none⟩ = some (.int .i64 0) := INV.out.res.cell 3
      have g3 := INV.out.res.free 3
      clear hz hk
      by_cases h3 : p3 L = []
      · have PN : Hid (parseT L = some ⟨Lib.hasPrefix L [45], pAhead L, pBehind L, 0⟩) := by unfold parseT; rw [if_neg NE.out, if_pos h3]; rfl
        rw [h3]
        clear h3
        go_wp2
        rw [Exit.noGoto_ret]
        refine bodyPost_ret (results_num2 rfl _ _ _ _ _ _ _ rfl (INV.out.res.put4 _ _ _ _)) rfl ?_
        exact ⟨by rw [PN.out]; unfold partsV; simp only; rw [HA.out, HBB.out, HSS.out]; rfl, below_put4 (INV.out.low) (Nat.le_refl _) _ _ _ _⟩
      · obtain ⟨P, hP⟩ : ∃ P : ByteArray, P = ⟨(p3 L).toArray⟩ := ⟨_, rfl⟩
        have hne : P.size ≠ 0 := by rw [hP, size_mk0]; exact fun e => h3 (List.length_eq_zero_iff.1 e)
        have hP1 := toList_ne hne
        have hp0 : 0 < P.size := by omega
        have hg : ∀ h : 0 < P.size, P[0].toNat = byt (p3 L) 0 := fun h => by rw [byt_get P 0 h, hP, bys_mk]
        have HX : Hid (P.extract 1 P.size = ⟨(p4 L).toArray⟩) := by rw [Lib.extract_from, hP, mk_data0]; rfl
        rw [← hP]
        obtain ⟨b, hb⟩ : ∃ b, b = byt (p3 L) 0 := ⟨_, rfl⟩
        rw [← hb] at hg
        have hp1 : (1 : Int) ≤ (P.size : Int) := by omega
        clear hne hP
        by_cases hm : b = 101
        · have e1 : ((b : Int) != 101) = false := by rw [show (b : Int) = 101 by omega]; rfl
          have MK : Hid (p3 L ≠ [] ∧ (byt (p3 L) 0 = 101 ∨ byt (p3 L) 0 = 69)) := ⟨h3, .inl (by omega)⟩
          clear h3 hb hm
          go_wp2
          refine ⟨⟨4, 4, rfl, rfl, by omega, by rw [HX.out]; rfl, INV.out.low, INV.out.res, INV.out.num, fun _ => NE.out, fun _ => MK.out⟩, by simp [intOf]⟩
        · have e1 : ((b : Int) != 101) = true := by
            have : ¬ (b : Int) = 101 := by omega
            simpa using this
          by_cases hm2 : b = 69
          · have e2 : ((b : Int) != 69) = false := by rw [show (b : Int) = 69 by omega]; rfl
            have MK : Hid (p3 L ≠ [] ∧ (byt (p3 L) 0 = 101 ∨ byt (p3 L) 0 = 69)) := ⟨h3, .inr (by omega)⟩
            clear h3 hb hm hm2
            go_wp2
            refine ⟨⟨4, 4, rfl, rfl, by omega, by rw [HX.out]; rfl, INV.out.low, INV.out.res, INV.out.num, fun _ => NE.out, fun _ => MK.out⟩, by simp [intOf]⟩
          · have e2 : ((b : Int) != 69) = true := by
              have : ¬ (b : Int) = 69 := by omega
              simpa using this
            have PN : Hid (parseT L = none) := by unfold parseT; rw [if_neg NE.out, if_neg h3, if_pos (by omega)]; rfl
            clear h3 hb hm hm2
            go_wp2
            rw [Exit.noGoto_ret]
            refine bodyPost_ret (results_num2 rfl _ _ _ _ _ _ _ rfl (INV.out.res.put4 _ _ _ _)) rfl ?_
            exact ⟨by rw [PN.out]; rfl, below_put4 (INV.out.low) (Nat.le_refl _) _ _ _ _⟩
    · obtain rfl : z = 4 := by omega
      rw [show restK L 4 = p4 L from rfl]
      have NE := hide (INV.out.some (by omega))
      have MK := hide (INV.out.mark (by omega))
      obtain ⟨A, hA⟩ : ∃ A : ByteArray, A = ⟨(pAhead L).toArray⟩ := ⟨_, rfl⟩
      obtain ⟨B, hB⟩ : ∃ B : ByteArray, B = ⟨(pBehind L).toArray⟩ := ⟨_, rfl⟩
      obtain ⟨S, hS⟩ : ∃ S : Bool, S = Lib.hasPrefix L [45] := ⟨_, rfl⟩
      have NUM : Hid (Blk wq (w.heap.size + 1) #[.bool S, .string A, .string B, .int .i64 0] 43) := by rw [hA, hB, hS]; exact INV.out.num
      have HA := hide hA
      have HBB := hide hB
      have HSS := hide hS
      clear hA hB hS
      clear hz hk
      have US := hide (fun W => unsd (p4 L) W)
      have HU := hide (Nat.le_trans (unsg_len (p4 L)) (Nat.le_trans (p4_len L) HLEN.out))
      have CD := hide (fun W => cutd (unsg (p4 L)) W HU.out)
      obtain ⟨U, hU⟩ : ∃ U : ByteArray, U = ⟨(unsg (p4 L)).toArray⟩ := ⟨_, rfl⟩
      rw [← hU] at US CD
      obtain ⟨P, hP⟩ : ∃ P : ByteArray, P = ⟨(p4 L).toArray⟩ := ⟨_, rfl⟩
      rw [← hP] at US ⊢
      obtain ⟨D, hD⟩ : ∃ D : ByteArray, D = ⟨(dgs (unsg (p4 L))).toArray⟩ := ⟨_, rfl⟩
      obtain ⟨F, hF⟩ : ∃ F : ByteArray, F = ⟨(aft (unsg (p4 L))).toArray⟩ := ⟨_, rfl⟩
      rw [← hD, ← hF] at CD
      have hDs : D.size = (dgs (unsg (p4 L))).length := by rw [hD, size_mk0]
      have hFs : F.size = (aft (unsg (p4 L))).length := by rw [hF, size_mk0]
      have HPP := hide hP
      have HDD := hide hD
      have HFF := hide hF
      clear hU HU hP hD hF
      by_cases h1 : dgs (unsg (p4 L)) = []
      · have PN : Hid (parseT L = none) := by unfold parseT; rw [if_neg NE.out, if_neg MK.out.1, if_neg (fun e => e MK.out.2), if_pos (.inl h1)]; rfl
        obtain rfl : D = ⟨#[]⟩ := by rw [HDD.out, h1]
        clear h1 HDD HFF hDs hFs
        go_wp2_with fail
        refine (US.out _).mono ?_
        rintro e w1 ⟨rfl, rfl⟩
        go_wp2_with fail
        refine (CD.out _).mono ?_
        rintro e w1 ⟨rfl, hb⟩
        have BN := hide (NUM.out.below hb NUM.out.lt)
        have BR := hide (INV.out.res.below hb INV.out.res.lt)
        have HB := hide (INV.out.low.trans (hb.mono INV.out.low.size))
        clear hb INV NUM
        have y0 : w1.cell? ⟨w.heap.size + 1, 0, none⟩ = some (.bool S) := BN.out.cell 0
        have f0 := BN.out.free 0
        have y1 : w1.cell? ⟨w.heap.size + 1, 1, none⟩ = some (.string A) := BN.out.cell 1
        have f1 := BN.out.free 1
        have y2 : w1.cell? ⟨w.heap.size + 1, 2, none⟩ = some (.string B) := BN.out.cell 2
        have f2 := BN.out.free 2
        have y3 : w1.cell? ⟨w.heap.size + 1, 3, none⟩ = some (.int .i64 0) := BN.out.cell 3
        have f3 := BN.out.free 3
        have z0 : w1.cell? ⟨w.heap.size, 0, none⟩ = some (.bool false) := BR.out.cell 0
        have g0 := BR.out.free 0
        have z1 : w1.cell? ⟨w.heap.size, 1, none⟩ = some (.string ⟨#[]⟩) := BR.out.cell 1
        have g1 := BR.out.free 1
        have z2 : w1.cell? ⟨w.heap.size, 2, none⟩ = some (.string ⟨#[]⟩) := BR.out.cell 2
        have g2 := BR.out.free 2
        have z3 : w1.cell? ⟨w.heap.size, 3, none⟩ = some (.int .i64 0) := BR.out.cell 3
        have g3 := BR.out.free 3
        go_wp2
        rw [Exit.noGoto_ret]
        refine bodyPost_ret (results_num2 rfl _ _ _ _ _ _ _ rfl (BR.out.put4 _ _ _ _)) rfl ?_
        exact ⟨by rw [PN.out]; rfl, below_put4 (HB.out) (Nat.le_refl _) _ _ _ _⟩
      · have hd0 : D.size ≠ 0 := by rw [hDs]; exact fun e => h1 (List.length_eq_zero_iff.1 e)
        have hd1 := toList_ne hd0
        by_cases h2 : 5 < (dgs (unsg (p4 L))).length
        · have PN : Hid (parseT L = none) := by unfold parseT; rw [if_neg NE.out, if_neg MK.out.1, if_neg (fun e => e MK.out.2), if_pos (.inr (.inl h2))]; rfl
          have h2' : decide ((5 : Int) < (D.size : Int)) = true := decide_eq_true (by omega)
          clear h1 h2 HDD HFF hDs hFs hd0
          go_wp2_with fail
          refine (US.out _).mono ?_
          rintro e w1 ⟨rfl, rfl⟩
          go_wp2_with fail
          refine (CD.out _).mono ?_
          rintro e w1 ⟨rfl, hb⟩
          have BN := hide (NUM.out.below hb NUM.out.lt)
          have BR := hide (INV.out.res.below hb INV.out.res.lt)
          have HB := hide (INV.out.low.trans (hb.mono INV.out.low.size))
          clear hb INV NUM
          have y0 : w1.cell? ⟨w.heap.size + 1, 0, none⟩ = some (.bool S) := BN.out.cell 0
          have f0 := BN.out.free 0
          have y1 : w1.cell? ⟨w.heap.size + 1, 1, none⟩ = some (.string A) := BN.out.cell 1
          have f1 := BN.out.free 1
          have y2 : w1.cell? ⟨w.heap.size + 1, 2, none⟩ = some (.string B) := BN.out.cell 2
          have f2 := BN.out.free 2
          have y3 : w1.cell? ⟨w.heap.size + 1, 3, none⟩ = some (.int .i64 0) := BN.out.cell 3
          have f3 := BN.out.free 3
          have z0 : w1.cell? ⟨w.heap.size, 0, none⟩ = some (.bool false) := BR.out.cell 0
          have g0 := BR.out.free 0
          have z1 : w1.cell? ⟨w.heap.size, 1, none⟩ = some (.string ⟨#[]⟩) := BR.out.cell 1
          have g1 := BR.out.free 1
          have z2 : w1.cell? ⟨w.heap.size, 2, none⟩ = some (.string ⟨#[]⟩) := BR.out.cell 2
          have g2 := BR.out.free 2
          have z3 : w1.cell? ⟨w.heap.size, 3, none⟩ = some (.int .i64 0) := BR.out.cell 3
          have g3 := BR.out.free 3
          go_wp2
          rw [Exit.noGoto_ret]
          refine bodyPost_ret (results_num2 rfl _ _ _ _ _ _ _ rfl (BR.out.put4 _ _ _ _)) rfl ?_
          exact ⟨by rw [PN.out]; rfl, below_put4 (HB.out) (Nat.le_refl _) _ _ _ _⟩
        · have h2' : decide ((5 : Int) < (D.size : Int)) = false := decide_eq_false (by omega)
          by_cases h3 : aft (unsg (p4 L)) ≠ []
          · have PN : Hid (parseT L = none) := by unfold parseT; rw [if_neg NE.out, if_neg MK.out.1, if_neg (fun e => e MK.out.2), if_pos (.inr (.inr h3))]; rfl
            have hf0 : F.size ≠ 0 := by rw [hFs]; exact fun e => h3 (List.length_eq_zero_iff.1 e)
            have hf1 := toList_ne hf0
            clear h1 h2 h3 HDD HFF hDs hFs hd0 hf0
            go_wp2_with fail
            refine (US.out _).mono ?_
            rintro e w1 ⟨rfl, rfl⟩
            go_wp2_with fail
            refine (CD.out _).mono ?_
            rintro e w1 ⟨rfl, hb⟩
            have BN := hide (NUM.out.below hb NUM.out.lt)
            have BR := hide (INV.out.res.below hb INV.out.res.lt)
            have HB := hide (INV.out.low.trans (hb.mono INV.out.low.size))
            clear hb INV NUM
            have y0 : w1.cell? ⟨w.heap.size + 1, 0, none⟩ = some (.bool S) := BN.out.cell 0
            have f0 := BN.out.free 0
            have y1 : w1.cell? ⟨w.heap.size + 1, 1, none⟩ = some (.string A) := BN.out.cell 1
            have f1 := BN.out.free 1
            have y2 : w1.cell? ⟨w.heap.size + 1, 2, none⟩ = some (.string B) := BN.out.cell 2
            have f2 := BN.out.free 2
            have y3 : w1.cell? ⟨w.heap.size + 1, 3, none⟩ = some (.int .i64 0) := BN.out.cell 3
            have f3 := BN.out.free 3
            have z0 : w1.cell? ⟨w.heap.size, 0, none⟩ = some (.bool false) := BR.out.cell 0
            have g0 := BR.out.free 0
            have z1 : w1.cell? ⟨w.heap.size, 1, none⟩ = some (.string ⟨#[]⟩) := BR.out.cell 1
            have g1 := BR.out.free 1
            have z2 : w1.cell? ⟨w.heap.size, 2, none⟩ = some (.string ⟨#[]⟩) := BR.out.cell 2
            have g2 := BR.out.free 2
            have z3 : w1.cell? ⟨w.heap.size, 3, none⟩ = some (.int .i64 0) := BR.out.cell 3
            have g3 := BR.out.free 3
            go_wp2
            rw [Exit.noGoto_ret]
            refine bodyPost_ret (results_num2 rfl _ _ _ _ _ _ _ rfl (BR.out.put4 _ _ _ _)) rfl ?_
            exact ⟨by rw [PN.out]; rfl, below_put4 (HB.out) (Nat.le_refl _) _ _ _ _⟩
          · have h3 := Classical.not_not.1 h3
            have PN : Hid (parseT L = some ⟨Lib.hasPrefix L [45], pAhead L, pBehind L, powV (p4 L)⟩) := by unfold parseT; rw [if_neg NE.out, if_neg MK.out.1, if_neg (fun e => e MK.out.2), if_neg (fun h => h.elim (fun e => h1 e) fun h => h.elim (fun e => h2 e) fun e => e h3)]; rfl
            obtain rfl : F = ⟨#[]⟩ := by rw [HFF.out, h3]
            have AT := hide (atoi_val h1 h3)
            have HLN : Hid (P.size ≤ 18) := by rw [HPP.out, size_mk0]; exact atoi_len h2 h3
            have AC := hide (fun W => Tryz.strconv_Atoi P (powV (p4 L)) HLN.out (by rw [HPP.out, mk_data0]; exact AT.out) W)
            obtain ⟨q, hq⟩ : ∃ q, q = powV (p4 L) := ⟨_, rfl⟩
            rw [← hq] at AC PN
            clear h1 h2 h3 HDD HFF hDs hFs hd0 AT HLN hq
            go_wp2_with fail
            refine (US.out _).mono ?_
            rintro e w1 ⟨rfl, rfl⟩
            go_wp2_with fail
            refine (CD.out _).mono ?_
            rintro e w1 ⟨rfl, hb⟩
            have BN := hide (NUM.out.below hb NUM.out.lt)
            have BR := hide (INV.out.res.below hb INV.out.res.lt)
            have HB := hide (INV.out.low.trans (hb.mono INV.out.low.size))
            clear hb INV NUM
            have y0 : w1.cell? ⟨w.heap.size + 1, 0, none⟩ = some (.bool S) := BN.out.cell 0
            have f0 := BN.out.free 0
            have y1 : w1.cell? ⟨w.heap.size + 1, 1, none⟩ = some (.string A) := BN.out.cell 1
            have f1 := BN.out.free 1
            have y2 : w1.cell? ⟨w.heap.size + 1, 2, none⟩ = some (.string B) := BN.out.cell 2
            have f2 := BN.out.free 2
            have y3 : w1.cell? ⟨w.heap.size + 1, 3, none⟩ = some (.int .i64 0) := BN.out.cell 3
            have f3 := BN.out.free 3
            have z0 : w1.cell? ⟨w.heap.size, 0, none⟩ = some (.bool false) := BR.out.cell 0
            have g0 := BR.out.free 0
            have z1 : w1.cell? ⟨w.heap.size, 1, none⟩ = some (.string ⟨#[]⟩) := BR.out.cell 1
            have g1 := BR.out.free 1
            have z2 : w1.cell? ⟨w.heap.size, 2, none⟩ = some (.string ⟨#[]⟩) := BR.out.cell 2
            have g2 := BR.out.free 2
            have z3 : w1.cell? ⟨w.heap.size, 3, none⟩ = some (.int .i64 0) := BR.out.cell 3
            have g3 := BR.out.free 3
            go_wp2_with fail
            refine (AC.out _).mono ?_
            rintro e w2 ⟨rfl, tq, hw⟩
            have hb : Below w1.heap.size w1 w2 := by rw [hw]; exact bytes_below _ _ _
            have BN2 := hide (BN.out.below hb BN.out.lt)
            have BR2 := hide (BR.out.below hb BR.out.lt)
            have HB2 := hide (HB.out.trans (hb.mono HB.out.size))
            clear hb hw BN BR HB y0 y1 y2 y3 f0 f1 f2 f3 z0 z1 z2 z3 g0 g1 g2 g3
            have y0 : w2.cell? ⟨w.heap.size + 1, 0, none⟩ = some (.bool S) := BN2.out.cell 0
            have f0 := BN2.out.free 0
            have y1 : w2.cell? ⟨w.heap.size + 1, 1, none⟩ = some (.string A) := BN2.out.cell 1
            have f1 := BN2.out.free 1
            have y2 : w2.cell? ⟨w.heap.size + 1, 2, none⟩ = some (.string B) := BN2.out.cell 2
            have f2 := BN2.out.free 2
            have y3 : w2.cell? ⟨w.heap.size + 1, 3, none⟩ = some (.int .i64 0) := BN2.out.cell 3
            have f3 := BN2.out.free 3
            have z0 : w2.cell? ⟨w.heap.size, 0, none⟩ = some (.bool false) := BR2.out.cell 0
            have g0 := BR2.out.free 0
            have z1 : w2.cell? ⟨w.heap.size, 1, none⟩ = some (.string ⟨#[]⟩) := BR2.out.cell 1
            have g1 := BR2.out.free 1
            have z2 : w2.cell? ⟨w.heap.size, 2, none⟩ = some (.string ⟨#[]⟩) := BR2.out.cell 2
            have g2 := BR2.out.free 2
            have z3 : w2.cell? ⟨w.heap.size, 3, none⟩ = some (.int .i64 0) := BR2.out.cell 3
            have g3 := BR2.out.free 3
            go_wp2
            rw [Exit.noGoto_ret]
            refine bodyPost_ret (results_num2 rfl _ _ _ _ _ _ _ rfl ((BR2.out.other (by simp) _).put4 _ _ _ _)) rfl ?_
            exact ⟨by rw [PN.out]; unfold partsV; simp only; rw [HA.out, HBB.out, HSS.out]; rfl, below_put4 (HB2.out.setCell (Nat.le_succ _) _) (Nat.le_refl _) _ _ _ _⟩
    · omega

end Go.Proofs.YtafljhfamjabeaaGreatDoor
