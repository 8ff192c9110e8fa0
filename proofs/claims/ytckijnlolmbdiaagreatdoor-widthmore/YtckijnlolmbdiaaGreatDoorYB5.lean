/-
  What nat.divLong does: the walk.
  nat.DivMod by nought and by one limb, whatever the dividend; literal lists, and what the numbers in them are.
  What nat.DivMod does, whatever the two numbers.
  Digits that a function gives.
  Plain mathematics of the reference's shifts.
  Plain mathematics of dividing bit by bit, with digits to the base 65536.
  Lists of limbs that are being built by append.
  What whole.cut does: the number's digits to the base 10^19.
  (*strings.Builder).WriteString at this dump: what it leaves in a builder.
  What whole.Text does: the number's decimal digits.
  nat's and whole's calls as package shortest makes them: over numbers, wherever their limbs lie.
  What whole.signed, whole.Make and whole.Neg do.
  What whole.Add, whole.Sub and whole.Mul do.
-/
import Derived.Test.YtckijnlolmbdiaaGreatDoorYB4
import Derived.Test.YtckijnlolmbdiaaGreatDoorYB3
import Derived.Test.YtckijnlolmbdiaaGreatDoorYSub
import Derived.Test.YtckijnlolmbdiaaGreatDoorYSame
import Derived.Test.YtckijnlolmbdiaaGreatDoorYDown
import Derived.Test.YtckijnlolmbdiaaGreatDoorYB1
import Derived.Test.YtckijnlolmbdiaaGreatDoorYB2
import Derived.Test.YtckijnlolmbdiaaGreatDoorYOwn
import Derived.Deep.AppendLies
import Derived.Test.YtckijnlolmbdiaaGreatDoorYUintF
import Derived.Lib.Builder
import Derived.Lib.AppendStr
import Derived.Lib.UnsafeStr
import Derived.Laws.Externs
import Derived.Test.YtckijnlolmbdiaaGreatDoorYNorm
import Derived.Handy
import Derived.Deep.RegionHeld3
namespace Go.Proofs.YtckijnlolmbdiaaGreatDoor
open Go.RowKit

theorem shiftUp0 (ao : Option Addr) (len cap sh : Nat) (xs : List Nat) (w : World) (hl : len ≤ 100000000000) (hsh : sh ≤ 63) (hx : xs.length = len) (hax : At .u64 w ao xs) (ox : Ok B64 xs) :
    Calls Tryz.prog 195 #[.slice ao len cap, .int .i64 0, .int .i64 (sh : Int)] w (UpPost w (len + 1) (num B64 xs * 2 ^ sh)) := by
  have := shiftUp_any ao len cap 0 sh xs w hl (by omega) hsh hx hax ox
  rw [Nat.zero_add, Nat.pow_zero, Nat.mul_one] at this
  exact this

theorem shiftDown0 (ao : Option Addr) (len cap sh : Nat) (xs : List Nat) (w : World) (hl : len ≤ 100000000000) (hsh : sh ≤ 63) (hx : xs.length = len) (hax : At .u64 w ao xs) (ox : Ok B64 xs) :
    Calls Tryz.prog 199 #[.slice ao len cap, .int .i64 0, .int .i64 (sh : Int)] w (NatPost w len (num B64 xs / 2 ^ sh)) := by
  have := shiftDown_any ao len cap 0 sh xs w hl (by omega) hsh hx hax ox
  rw [Nat.pow_zero, Nat.div_one] at this
  exact this

theorem LongInv.fits {w wr : World} {Hd Hr Hq m c A k g p : Nat} {zs r q : List Nat} (hd : Hd ≠ Hq) (hrq : Hr ≠ Hq) (hdr : Hd ≠ Hr) (hq : w.heap.size ≤ Hq) (hrb : w.heap.size ≤ Hr) (hbel : Below w.heap.size w wr) (hdiv : At .u64 wr (some ⟨Hd, 0, none⟩) zs)
    (hl : r.length = m + 1) (hrq' : Row .u64 120 wr Hq q) (hlq : q.length = c) (hoq : Ok B64 q) (hz : ∀ j, j < k + 1 → dg q j = 0) (hA : num B64 r + num B64 zs * num B64 q = A) (hk : k < c)
    {U L : Nat} (hU : num B64 r = U * B64 ^ k + L) (hL : L < B64 ^ k) (hg : g < B64) (hlo : U < (g + 1) * num B64 zs) {w1 w2 : World} {r1 : List Nat} (h1 : Like w1 wr) (h2 : w1.grownBy w2 (some Hr)) (hr1 : Row .u64 120 w2 Hr r1) (hl1 : r1.length = r.length) (ho1 : Ok B64 r1)
    (hs : num B64 r1 + num B64 zs * g * B64 ^ k = num B64 r + 0 * B64 ^ (k + (p + 1))) {wr' : World} (hw : Like wr' (w2.setCell ⟨Hq, k, none⟩ (.int .u64 (g : Int)))) : LongInv w Hd Hr Hq m c zs A k wr' := by
  obtain ⟨a1, a2⟩ := round_fits hU hL hlo hs
  have hb1 := h1.below hbel
  exact LongInv.step hd hrq hq (hb1.grown h2 hb1.size (fun k hk => by simp only [Option.some.injEq] at hk; omega)) ((hdiv.like h1).gr h2 hdr) hr1 (by omega) ho1 a1 a2 ((hrq'.alike h1).gr h2 (Ne.symm hrq)) hlq hoq hz hA hk hg hw

theorem long_one {r r1 zs : List Nat} {g k t : Nat} (hr1 : num B64 r1 < B64 ^ t) (hs : num B64 r1 + num B64 zs * g * B64 ^ k = num B64 r + 1 * B64 ^ t) : 1 ≤ g := by
  rcases g with _ | g
  · simp at hs; omega
  · omega

theorem LongInv.back {w wr : World} {Hd Hr Hq m c A k g g' p : Nat} {zs r q : List Nat} (hd : Hd ≠ Hq) (hrq : Hr ≠ Hq) (hdr : Hd ≠ Hr) (hq : w.heap.size ≤ Hq) (hrb : w.heap.size ≤ Hr) (hbel : Below w.heap.size w wr) (hdiv : At .u64 wr (some ⟨Hd, 0, none⟩) zs)
    (hl : r.length = m + 1) (hrq' : Row .u64 120 wr Hq q) (hlq : q.length = c) (hoq : Ok B64 q) (hz : ∀ j, j < k + 1 → dg q j = 0) (hA : num B64 r + num B64 zs * num B64 q = A) (hk : k < c)
    {U L : Nat} (hU : num B64 r = U * B64 ^ k + L) (hg : g < B64) (hgg : g' + 1 = g) (hhi : g * num B64 zs ≤ U + num B64 zs) {w1 w2 w3 : World} {r1 r2 : List Nat} {cc : Nat} (h1 : Like w1 wr) (h2 : w1.grownBy w2 (some Hr)) (h3 : w2.grownBy w3 (some Hr))
    (hr2 : Row .u64 120 w3 Hr r2) (hl2 : r2.length = r.length) (ho2 : Ok B64 r2) (hE1 : num B64 r1 < B64 ^ (k + (p + 1))) (hE2 : num B64 r2 < B64 ^ (k + (p + 1))) (hcc : cc ≤ 1)
    (hs : num B64 r1 + num B64 zs * g * B64 ^ k = num B64 r + 1 * B64 ^ (k + (p + 1))) (hs2 : num B64 r2 + cc * B64 ^ (k + (p + 1)) = num B64 r1 + num B64 zs * B64 ^ k) {wr' : World} (hw : Like wr' (w3.setCell ⟨Hq, k, none⟩ (.int .u64 (g' : Int)))) : LongInv w Hd Hr Hq m c zs A k wr' := by
  obtain ⟨_, a1, a2⟩ := round_back hU hhi hE1 hs hE2 hcc hs2
  obtain rfl : g' = g - 1 := by omega
  have hb1 := h1.below hbel
  have hb2 := hb1.grown h2 hb1.size (fun k hk => by simp only [Option.some.injEq] at hk; omega)
  exact LongInv.step hd hrq hq (hb2.grown h3 hb2.size (fun k hk => by simp only [Option.some.injEq] at hk; omega)) (((hdiv.like h1).gr h2 hdr).gr h3 hdr) hr2 (by omega) ho2 a1 a2 (((hrq'.alike h1).gr h2 (Ne.symm hrq)).gr h3 (Ne.symm hrq)) hlq hoq hz hA hk (by omega) hw

set_option maxHeartbeats 1000000 in
theorem divLong_at (ao bo : Option Addr) (m ca n cb p d : Nat) (xs ys : List Nat) (w : World) (hn : n = p + 2) (hd : n + d = m) (hm : m ≤ 1000000000) (hx : xs.length = m) (hy : ys.length = n) (hax : At .u64 w ao xs) (hay : At .u64 w bo ys)
    (ox : Ok B64 xs) (oy : Ok B64 ys) (htop : dg ys (p + 1) ≠ 0) :
    Calls Tryz.prog 143 #[.slice ao m ca, .slice bo n cb] w (LongPost w m (num B64 xs / num B64 ys) (num B64 xs % num B64 ys)) := by
  obtain ⟨i0, hi, hz0, hz1, hz2⟩ := info_parts Tryz.infoU
  obtain ⟨b, o, rfl, hb, hcell⟩ : ∃ b o, bo = some ⟨b, o, none⟩ ∧ b < w.heap.size ∧ ∀ i, i < ys.length → w.cell? ⟨b, o + i, none⟩ = some (.int .u64 ((dg ys i : Nat) : Int)) := by
    rcases hay with h | h
    · rw [h] at hy; simp at hy; omega
    · exact h
  have c0 := hcell (p + 1) (by omega)
  obtain ⟨s, hs, hs63, hs1, hs2⟩ := lead_shift htop (oy (p + 1))
  have ld := fun w => lead64 (dg ys (p + 1)) w (oy (p + 1))
  rw [← hs] at ld
  have hdv := fun yu ou hn' => long_divisor (ys := ys) (yu := yu) (p := p) (s := s) oy (by omega) ou hs1 hs2 hn'
  obtain ⟨top, ht⟩ : ∃ t, t = dg ys (p + 1) := ⟨_, rfl⟩
  rw [← ht] at ld c0
  have LD : Hid (∀ w, Calls Tryz.prog 194 #[.int .u64 (top : Int)] w fun e w' => e = .returned (.int .i64 (s : Int)) ∧ w = w') := ld
  have DV : Hid (∀ yu, Ok B64 yu → num B64 yu = num B64 ys * 2 ^ s → (trimmed yu).length = p + 2 ∧ B64 ≤ 2 * dg (trimmed yu) (p + 1)) := hdv
  have HN : Hid (n = p + 2) := hn
  have hn1 : (n : Int) - 1 = ((p + 1 : Nat) : Int) := by omega
  have hn2 : ((p + 1 : Nat) : Int) < (n : Int) := by omega
  have hmn : (m : Int) - (n : Int) = (d : Int) := by omega
  have hdm : d ≤ 1000000000 ∧ n ≤ 1000000000 := by omega
  have HD : Hid (n + d = m) := hd
  have HT : Hid (dg ys (p + 1) ≠ 0) := htop
  clear hcell hs hs1 hs2 ld ht hdv hn hd htop
  go_enter Tryz.func143, Tryz.ntmps143
  go_wp2_with fail
  refine (LD.out _).mono ?_
  rintro e w' ⟨rfl, rfl⟩
  go_wp2_with fail
  refine (shiftUp0 (some ⟨b, o, none⟩) n cb s ys _ (by omega) hs63 hy hay oy).mono ?_
  rintro e w1 ⟨yu, rfl, hyr, hyl, hyo, hyn, hb1⟩
  obtain ⟨hzl, hzt⟩ := DV.out yu hyo hyn
  have HZ : Hid ((trimmed yu).length = n) := hzl.trans HN.out.symm
  have HZT : Hid (B64 ≤ 2 * dg (trimmed yu) (p + 1)) := hzt
  have HYL : Hid (yu.length = n + 1) := hyl
  clear hzl hzt hyl
  go_wp2_with fail
  refine (trim_to _ (n + 1) (n + 1) n yu _ (Nat.le_refl _) (by omega) HYL.out hyr.at HZ.out).mono ?_
  rintro e w' ⟨rfl, rfl⟩
  go_wp2_with fail
  refine (shiftUp0 ao m ca s xs _ (by omega) hs63 hx (hax.below hb1) ox).mono ?_
  rintro e w2 ⟨ru, rfl, hrr, hrl, hro, hrn, hb2⟩
  have hzdiv : At .u64 w2 (some ⟨w.heap.size, 0, none⟩) (trimmed yu) := (hyr.at.below hb2).trimmed
  have hlt1 := hyr.lt
  have hlt2 := hrr.lt
  obtain ⟨zs, hzs⟩ : ∃ zs, zs = trimmed yu := ⟨_, rfl⟩
  have hzo : Ok B64 zs := by rw [hzs]; exact trimmed_ok hyo
  have hzn : num B64 zs = num B64 ys * 2 ^ s := by rw [hzs, num_trimmed]; exact hyn
  rw [← hzs] at hzdiv
  have HZ' : Hid (zs.length = n) := by rw [hzs]; exact HZ.out
  have HZT' : Hid (B64 ≤ 2 * dg zs (p + 1)) := by rw [hzs]; exact HZT.out
  have hb12 : Below w.heap.size w w2 := hb1.trans (hb2.mono hb1.size)
  have HST : Hid (num B64 ru < num B64 zs * B64 ^ (d + 1)) := by
    rw [hrn]
    exact long_start ox hx (HZ'.out.trans HN.out) HZT'.out (by have := HN.out; have := HD.out; omega) hs63
  have HZN : Hid (num B64 zs = num B64 ys * 2 ^ s) := hzn
  have HRN : Hid (num B64 ru = num B64 xs * 2 ^ s) := hrn
  have HRL : Hid (ru.length = m + 1) := hrl
  have hgrow1 := hb1.size
  have hgrow2 := hb2.size
  clear hzs HZ HZT HYL hyr hyo hyn hb1 hb2 hzn hrn hrl DV LD c0
  go_wp2_with (at_make; refine wpList_make_full _ rfl _ _ 108 rfl w2.heap.size 120 i0 (.int .u64 0) 1 Tryz.underlying108 hi hz0 hz1 _ _ _ _ (d + 1) rfl rfl (by omega) (by omega) (by rw [hz2]; omega) (by unfold maxLen; omega) (Nat.le_refl _) ?_)
  intro w3 hown hgrow
  have hr3 : Row .u64 120 w3 w2.heap.size (List.replicate (d + 1) 0) := Row.made hown
  have hb3 : Below w2.heap.size w2 w3 := (Below.refl _ _).grown hgrow (Nat.le_refl _) (fun k hk => by cases hk)
  have hrr3 := hrr.below hb3 hlt2
  have hzd3 := hzdiv.below hb3
  have hbel3 : Below w.heap.size w w3 := hb12.trans (hb3.mono hb12.size)
  obtain ⟨Hd, hHd⟩ : ∃ z, z = w.heap.size := ⟨_, rfl⟩
  obtain ⟨Hr, hHr⟩ : ∃ z, z = w1.heap.size := ⟨_, rfl⟩
  obtain ⟨Hq, hHq⟩ : ∃ z, z = w2.heap.size := ⟨_, rfl⟩
  rw [← hHq] at hr3
  rw [← hHr] at hrr3
  rw [← hHd] at hzd3
  have hdr : Hd ≠ Hr := by omega
  have hdq : Hd ≠ Hq := by omega
  have hrq : Hr ≠ Hq := by omega
  have hqb : w.heap.size ≤ Hq := by omega
  have hrb : w.heap.size ≤ Hr := by omega
  have hqr : Hr < Hq := by omega
  clear hown hgrow hrr hzdiv
  simp only [← hHd, ← hHr, ← hHq]
  clear hHd hHr hHq
  go_wp2
  go_loopw [11, 12, 13] (fun i _ _ wr => ∃ k : Nat, k ≤ d + 1 ∧ i = .int .i64 ((k : Int) - 1) ∧ LongInv w Hd Hr Hq m (d + 1) zs (num B64 xs * 2 ^ s) k wr) (fun i _ _ _ => (intOf i + 1).toNat)
  case atStart =>
    refine ⟨d + 1, Nat.le_refl _, congrArg (Value.int IntKind.i64) (by omega), hbel3, hzd3, ru, _, hrr3, HRL.out, hro, HST.out, hr3, by simp, Ok.replicate (by decide) _, fun j _ => dg_replicate _ j, ?_⟩
    rw [num_replicate, Nat.mul_zero, Nat.add_zero]; exact HRN.out
  case round =>
    obtain ⟨k, hk, rfl, hinv⟩ := hrel
    rcases k with _ | k
    · obtain ⟨r, q, hr, hrl, hro, hrlt, hq, hql, hqo, _, hA⟩ := hinv.row
      have hbel := hinv.bel
      rw [Nat.pow_zero, Nat.mul_one, HZN.out] at hrlt
      rw [HZN.out] at hA
      obtain ⟨e1, e2, hY⟩ := long_end hrlt hA
      have hsm : num B64 r < B64 ^ n := by
        refine Nat.lt_trans hrlt ?_
        rw [← HZN.out, ← HZ'.out]; exact num_lt hzo
      obtain ⟨t1, ht1⟩ : ∃ q', q' = (trimmed q).length := ⟨_, rfl⟩
      obtain ⟨t2, ht2⟩ : ∃ q', q' = (trimmed r).length := ⟨_, rfl⟩
      have T1 : Hid ((trimmed q).length = t1) := ht1.symm
      have T2 : Hid ((trimmed r).length = t2) := ht2.symm
      have ht2n : t2 ≤ n := by rw [ht2]; exact trimmed_small hsm
      have HL : Hid (r.length = m + 1) := hrl
      have HLq : Hid (q.length = d + 1) := hql
      have E1 : Hid (num B64 q = num B64 xs / num B64 ys) := e1
      have E2 : Hid (num B64 r / 2 ^ s = num B64 xs % num B64 ys) := e2
      clear ht1 ht2 hrl hql e1 e2 hA hrlt hsm hinv hY
      go_wp2_with fail
      refine (trim_to _ (d + 1) (d + 1) t1 q _ (Nat.le_refl _) (by omega) HLq.out hq.at T1.out).mono ?_
      rintro e w' ⟨rfl, rfl⟩
      go_wp2_with fail
      refine (trim_to _ (m + 1) (m + 1) t2 r _ (Nat.le_refl _) (by omega) HL.out hr.at T2.out).mono ?_
      rintro e w' ⟨rfl, rfl⟩
      go_wp2_with fail
      refine (shiftDown0 _ t2 _ s (trimmed r) _ (by omega) hs63 T2.out hr.at.trimmed (trimmed_ok hro)).mono ?_
      rintro e w5 ⟨v2, r2, rfl, hown2, his2, hbel2⟩
      go_wp2
      go_ret2
      rw [num_trimmed, E2.out] at his2
      refine ⟨.slice (some ⟨Hq, 0, none⟩) t1 (d + 1), trimmed q, v2, r2, rfl, .inr ⟨Hq, q, ?_, hqb, hq.below hbel2 hq.lt, ?_, ?_⟩, hown2.mono hbel.size (by omega), ?_, his2, hbel.trans (hbel2.mono hbel.size), ?_⟩
      · rw [HLq.out, T1.out]
      · rw [length_trimmed]; rfl
      · rw [HLq.out]; omega
      · rw [← E1.out]; exact Is.trimmed hqo
      · refine .inr ?_
        have := hq.lt
        rcases hown2 with ⟨rfl, _⟩ | ⟨g2, full2, rfl, hg2, _⟩
        · simp [Value.ownBlock]
        · simp [Value.ownBlock]; omega
    · obtain ⟨r, q, hr, hrl, hro, hrlt, hq, hql, hqo, hqz, hA⟩ := hinv.row
      have hbr := hinv.bel
      have hdv := hinv.div
      have np := HN.out
      have nd := HD.out
      have hkd : k ≤ d := by omega
      obtain ⟨g, U, L, hg, hU, hL, hgb, hlo, hhi', hbig⟩ := guess_good (b := B64) (m := p) (k := k) (r := r) (ys := zs) (by decide) hro hzo (HZ'.out.trans np) HZT'.out hrlt
      have hzc : ∀ i, i < zs.length → wr.cell? ⟨Hd, 0 + i, none⟩ = some (.int .u64 ((dg zs i : Nat) : Int)) := by
        rcases hdv with h | ⟨b1, o1, h1, _, h3⟩
        · intro i hi; rw [h] at hi; simp at hi
        · simp only [Option.some.injEq, Addr.mk.injEq] at h1
          obtain ⟨rfl, rfl, _⟩ := h1
          exact h3
      have zl : zs.length = p + 2 := HZ'.out.trans np
      have gu := guessLimb_any Hr k p (m + 1 - k) Hd 0 (n + 1) _ _ _ _ _ wr (by omega) (hr.cell (k + (p + 2)) (by omega)) (hr.cell (k + (p + 1)) (by omega)) (hr.cell (k + p) (by omega)) (hzc (p + 1) (by omega)) (hzc p (by omega)) (hro _) (hro _) (hzo _) (hzo _)
      rw [← hg, show p + 2 = n by omega, show p + 3 = n + 1 by omega] at gu
      have hng : ∀ b o, zs ≠ [] → some (⟨Hd, 0, none⟩ : Addr) = some ⟨b, o, none⟩ → b ≠ Hr := by
        intro b o _ e; simp only [Option.some.injEq, Addr.mk.injEq] at e; omega
      have su : ∀ w1, Like w1 wr → Calls Tryz.prog 197 #[.slice (some ⟨Hr, k, none⟩) (n + 1) (m + 1 - k), .slice (some ⟨Hd, 0, none⟩) n (n + 1), .int .u64 (g : Int)] w1 (SubtPost w1 Hr r (num B64 zs * g * B64 ^ k) (k + (n + 1))) :=
        fun w1 h1 => subTimes_any Hr k n (m + 1 - k) (n + 1) g (some ⟨Hd, 0, none⟩) r zs w1 (by omega) HZ'.out (hdv.like h1) hzo hgb (hr.alike h1) hro (by omega) hng
      have ab : ∀ w1 w2 r1, Like w1 wr → w1.grownBy w2 (some Hr) → Row .u64 120 w2 Hr r1 → r1.length = r.length → Ok B64 r1 → Calls Tryz.prog 198 #[.slice (some ⟨Hr, k, none⟩) (n + 1) (m + 1 - k), .slice (some ⟨Hd, 0, none⟩) n (n + 1)] w2 (BackPost w2 Hr r1 (num B64 zs * B64 ^ k) (k + (n + 1))) :=
        fun w1 w2 r1 h1 h2 h3 h4 h5 => addBack_any Hr k n (m + 1 - k) (n + 1) (some ⟨Hd, 0, none⟩) r1 zs w2 (by omega) HZ'.out ((hdv.like h1).gr h2 hdr) hzo h3 h5 (by omega) hng
      have fi : ∀ w1 w2 r1 wr', Like w1 wr → w1.grownBy w2 (some Hr) → Row .u64 120 w2 Hr r1 → r1.length = r.length → Ok B64 r1 → num B64 r1 + num B64 zs * g * B64 ^ k = num B64 r + 0 * B64 ^ (k + (n + 1)) →
          Like wr' (w2.setCell ⟨Hq, k, none⟩ (.int .u64 (g : Int))) → LongInv w Hd Hr Hq m (d + 1) zs (num B64 xs * 2 ^ s) k wr' :=
        fun w1 w2 r1 wr' h1 h2 h3 h4 h5 h6 h7 => LongInv.fits hdq hrq hdr hqb hrb hbr hdv hrl hq hql hqo hqz hA (by omega) hU hL hgb hlo h1 h2 h3 h4 h5 h6 h7
      have sml : ∀ r1, Ok B64 r1 → (∀ j, k + (n + 1) ≤ j → dg r1 j = dg r j) → num B64 r1 < B64 ^ (k + (n + 1)) := fun r1 h1 h2 =>
        num_below h1 (fun j hj => by rw [h2 j hj]; exact dg_small (by decide) hbig (by omega))
      have ba : ∀ w1 w2 w3 r1 r2 cc g' wr', g' + 1 = g → Like w1 wr → w1.grownBy w2 (some Hr) → w2.grownBy w3 (some Hr) → Row .u64 120 w3 Hr r2 → r1.length = r.length → r2.length = r1.length → Ok B64 r1 → Ok B64 r2 → (∀ j, k + (n + 1) ≤ j → dg r1 j = dg r j) → (∀ j, k + (n + 1) ≤ j → dg r2 j = dg r1 j) → cc ≤ 1 →
          num B64 r1 + num B64 zs * g * B64 ^ k = num B64 r + 1 * B64 ^ (k + (n + 1)) → num B64 r2 + cc * B64 ^ (k + (n + 1)) = num B64 r1 + num B64 zs * B64 ^ k →
          Like wr' (w3.setCell ⟨Hq, k, none⟩ (.int .u64 (g' : Int))) → LongInv w Hd Hr Hq m (d + 1) zs (num B64 xs * 2 ^ s) k wr' :=
        fun w1 w2 w3 r1 r2 cc g' wr' hgg h1 h2 h3 h4 hl1 hl2 ho1 ho2 hz1 hz2 hc hs1 hs2 hw => LongInv.back hdq hrq hdr hqb hrb hbr hdv hrl hq hql hqo hqz hA (by omega) hU hgb hgg hhi' h1 h2 h3 h4 (by omega) ho2 (sml r1 ho1 hz1) (sml r2 ho2 (fun j hj => (hz2 j hj).trans (hz1 j hj))) hc hs1 hs2 hw
      have po : ∀ r1, Ok B64 r1 → (∀ j, k + (n + 1) ≤ j → dg r1 j = dg r j) → num B64 r1 + num B64 zs * g * B64 ^ k = num B64 r + 1 * B64 ^ (k + (n + 1)) → 1 ≤ g := fun r1 h1 h2 h3 => long_one (sml r1 h1 h2) h3
      have GU : Hid (Calls Tryz.prog 196 #[.slice (some ⟨Hr, k, none⟩) (n + 1) (m + 1 - k), .slice (some ⟨Hd, 0, none⟩) n (n + 1)] wr fun e w' => e = .returned (.int .u64 (g : Int)) ∧ Like w' wr) := gu
      have SU : Hid (∀ w1, Like w1 wr → Calls Tryz.prog 197 #[.slice (some ⟨Hr, k, none⟩) (n + 1) (m + 1 - k), .slice (some ⟨Hd, 0, none⟩) n (n + 1), .int .u64 (g : Int)] w1 (SubtPost w1 Hr r (num B64 zs * g * B64 ^ k) (k + (n + 1)))) := su
      have AB := hide ab
      have FI := hide fi
      have BA := hide ba
      have PO := hide po
      have QR : Hid (∀ w1 w2, Like w1 wr → w1.grownBy w2 (some Hr) → Row .u64 120 w2 Hq q) := fun w1 w2 h1 h2 => (hq.alike h1).gr h2 (Ne.symm hrq)
      have hne : ¬ (m + 1 = k) := by omega
      have hle : (k : Int) + (n : Int) + 1 ≤ ((m + 1 : Nat) : Int) := by omega
      have hkq : (k : Int) < ((d + 1 : Nat) : Int) := by omega
      have hkq' : k < q.length := by omega
      have hgb' : Hid (g < B64) := hgb
      clear hbr hdv np nd hg hU hL hgb hlo hhi' hbig hzc zl gu hng su ab fi sml ba po hinv hr hrl hro hrlt hq hql hqo hqz hA
      go_wp2_with fail
      rw [show k + n + 1 - k = n + 1 by omega]
      refine GU.out.mono ?_
      rintro e w4 ⟨rfl, hlike⟩
      have HK : Hid (Like w4 wr) := hlike
      clear hlike
      go_wp2_with fail
      refine (SU.out _ HK.out).mono ?_
      rintro e w5 ⟨dd, rfl, hd1, hgr, r1, a1, a2, a3, a4, a5⟩
      have hq5 := QR.out _ _ HK.out hgr
      have c5 := hq5.cell k hkq'
      have f5 := hq5.free k
      have hdd : dd = 0 ∨ dd = 1 := by omega
      rcases hdd with rfl | rfl
      · have hnx := fun wr' hw => FI.out _ _ _ wr' HK.out hgr a1 a2 a3 a5 hw
        have NX := hide hnx
        clear hgr a1 a2 a3 a4 a5 hnx hd1 hq5
        go_wp2
        go_roundw
        case rel => exact ⟨k, by omega, by go_num, NX.out _ ⟨rfl, rfl, rfl, rfl⟩⟩
        case measure => simp [intOf]
      · obtain ⟨g', rfl⟩ : ∃ g', g = g' + 1 := ⟨g - 1, by have := PO.out _ a3 a4 a5; omega⟩
        have hwg : IntKind.u64.wrap (((g' + 1 : Nat) : Int) - 1) = (g' : Int) := by
          rw [show ((g' + 1 : Nat) : Int) - 1 = (g' : Int) by omega, wrapLt _ (by have := hgb'.out; unfold B64 at this; omega)]
        have hwg2 : IntKind.u64.wrap (g' : Int) = (g' : Int) := wrapLt _ (by have := hgb'.out; unfold B64 at this; omega)
        have hab := AB.out _ _ _ HK.out hgr a1 a2 a3
        have ABK := hide hab
        have hnx := fun w3 r2 cc wr' b1 b2 b3 b4 b5 b6 b7 hw => BA.out _ _ w3 _ r2 cc g' wr' rfl HK.out hgr b1 b2 a2 b3 a3 b4 a4 b5 b6 a5 b7 hw
        have NX := hide hnx
        clear a1 a2 a3 a4 a5 hnx hd1 hab c5 f5
        go_wp2_with fail
        refine ABK.out.mono ?_
        rintro e w6 ⟨rfl, hgr2, r2, cc, b1, b2, b3, b4, b5, b6⟩
        have hq6 := hq5.gr hgr2 (Ne.symm hrq)
        have c6 := hq6.cell k hkq'
        have f6 := hq6.free k
        have hny := fun wr' hw => NX.out _ _ _ wr' hgr2 b1 b2 b3 b4 b5 b6 hw
        have NY := hide hny
        clear hgr hgr2 b1 b2 b3 b4 b5 b6 hny hq5 hq6 NX
        go_wp2
        go_roundw
        case rel => exact ⟨k, by omega, by go_num, NY.out _ ⟨rfl, rfl, rfl, rfl⟩⟩
        case measure => simp [intOf]

end Go.Proofs.YtckijnlolmbdiaaGreatDoor

namespace Go.Proofs.YtckijnlolmbdiaaGreatDoor
open Go.RowKit

theorem num_one {b : Nat} {xs : List Nat} (h : xs.length = 1) : num b xs = dg xs 0 := by
  unfold num; rw [h]; simp [V]

theorem divmod_by_limb (ao bo : Option Addr) (la ca lb cb : Nat) (xs ys : List Nat) (w : World) (hla : la ≤ ca) (hca : la ≤ 10000000000 ∧ ca ≤ 9223372036854775807) (hlb : lb ≤ cb) (hcb : lb ≤ 10000000000 ∧ cb ≤ 9223372036854775807)
    (hx : xs.length = la) (hy : ys.length = lb) (hax : At .u64 w ao xs) (hay : At .u64 w bo ys) (ox : Ok B64 xs) (oy : Ok B64 ys) (h1 : (trimmed ys).length = 1) (h2 : 1 ≤ (trimmed xs).length) :
    Calls Tryz.prog 81 #[.slice ao la ca, .slice bo lb cb] w (DivPost w la (num B64 xs / num B64 ys) (num B64 xs % num B64 ys) 0) := by
  have l1 := length_trimmed_le xs
  rcases hay.trimmed with h | ⟨b, o, rfl, hb, hc⟩
  · rw [h] at h1; simp at h1
  · rcases hax.trimmed with h | ⟨b', o', rfl, hb', hc'⟩
    · rw [h] at h2; simp at h2
    · have hn : num B64 ys = dg (trimmed ys) 0 := by rw [← num_trimmed, num_one h1]
      have hpos : 0 < dg (trimmed ys) 0 := by
        have := trimmed_top ys 0 (by rw [h1]); omega
      have hlt : num B64 xs % num B64 ys < B64 := by
        rw [hn]; exact Nat.lt_trans (Nat.mod_lt _ hpos) (trimmed_ok oy 0)
      have c3 := divLimb_at b' o' (trimmed xs).length ca (dg (trimmed ys) 0) (trimmed xs) w (by omega) hpos (trimmed_ok oy 0) rfl hb' hc' (trimmed_ok ox)
      rw [num_trimmed, ← hn] at c3
      have hc0 := hc 0 (by omega)
      have hc0' : w.cell? ⟨b, o, none⟩ = some (.int .u64 ((num B64 ys : Nat) : Int)) := by rw [hn]; exact hc0
      have key := divmod_limb (some ⟨b', o', none⟩) b o la ca lb cb (trimmed xs).length _ _ (num B64 ys) w h2 (by omega) (fun w' h => trim_to _ la ca _ xs w' hla (by omega) hx (hax.same h) rfl)
        (fun w' h => trim_to _ lb cb 1 ys w' hlb (by omega) hy (hay.same h) h1) hc0' c3 hlt
      refine key.mono ?_
      rintro e w' ⟨v1, r1, v2, r2, e1, o1, o2, i1, i2, hb, hd⟩
      exact ⟨v1, r1, v2, r2, e1, o1.mono (Nat.le_refl _) (by omega), o2.mono (Nat.le_refl _) (by omega), i1, i2, hb, hd⟩

end Go.Proofs.YtckijnlolmbdiaaGreatDoor

namespace Go.Proofs.YtckijnlolmbdiaaGreatDoor
open Go.RowKit

set_option maxHeartbeats 1000000 in
theorem divmod_long (ao bo : Option Addr) (la ca lb cb m p n q r : Nat) (w : World) (hpm : p ≤ m) (hp : 2 ≤ p) (_hm : m ≤ 10000000000)
    (c1 : ∀ w' : World, w'.heap = w.heap → Calls Tryz.prog 140 #[.slice ao la ca] w' fun e w'' => e = .returned (.slice ao m ca) ∧ w' = w'')
    (c2 : ∀ w' : World, w'.heap = w.heap → Calls Tryz.prog 140 #[.slice bo lb cb] w' fun e w'' => e = .returned (.slice bo p cb) ∧ w' = w'')
    (c3 : Calls Tryz.prog 143 #[.slice ao m ca, .slice bo p cb] w (LongPost w n q r)) :
    Calls Tryz.prog 81 #[.slice ao la ca, .slice bo lb cb] w (DivPost w n q r 0) := by
  have C1 : Hid (∀ w' : World, w'.heap = w.heap → Calls Tryz.prog 140 #[.slice ao la ca] w' fun e w'' => e = .returned (.slice ao m ca) ∧ w' = w'') := c1
  have C2 : Hid (∀ w' : World, w'.heap = w.heap → Calls Tryz.prog 140 #[.slice bo lb cb] w' fun e w'' => e = .returned (.slice bo p cb) ∧ w' = w'') := c2
  have C3 : Hid (Calls Tryz.prog 143 #[.slice ao m ca, .slice bo p cb] w (LongPost w n q r)) := c3
  have n1 : ((p : Int) == 0) = false := by rw [beq_eq_false_iff_ne]; omega
  have n2 : ¬ (m : Int) < (p : Int) := by omega
  have n3 : ((p : Int) == 1) = false := by rw [beq_eq_false_iff_ne]; omega
  clear c1 c2 c3
  go_enter Tryz.func81, Tryz.ntmps81
  go_wp2_with fail
  refine (C1.out _ rfl).mono ?_
  rintro e w' ⟨rfl, rfl⟩
  go_wp2_with fail
  refine (C2.out _ rfl).mono ?_
  rintro e w' ⟨rfl, rfl⟩
  go_wp2_with fail
  refine C3.out.mono ?_
  rintro e w1 ⟨v1, r1, v2, r2, rfl, o1, o2, i1, i2, hb, hne⟩
  go_wp2
  go_ret3
  exact ⟨v1, r1, v2, r2, rfl, o1, o2, i1, i2, hb, hne⟩

theorem divmod_any (ao bo : Option Addr) (la ca lb cb : Nat) (xs ys : List Nat) (w : World) (hla : la ≤ ca) (hca : la ≤ 100000000 ∧ ca ≤ 9223372036854775807) (hlb : lb ≤ cb) (hcb : lb ≤ 100000000 ∧ cb ≤ 9223372036854775807)
    (hx : xs.length = la) (hy : ys.length = lb) (hax : At .u64 w ao xs) (hay : At .u64 w bo ys) (ox : Ok B64 xs) (oy : Ok B64 ys) (h0 : num B64 ys ≠ 0) :
    Calls Tryz.prog 81 #[.slice ao la ca, .slice bo lb cb] w (DivPost w la (num B64 xs / num B64 ys) (num B64 xs % num B64 ys) 0) := by
  have hb0 : 0 < B64 := by decide
  have l1 := length_trimmed_le xs
  have l2 := length_trimmed_le ys
  have c1 : ∀ w' : World, w'.heap = w.heap → Calls Tryz.prog 140 #[.slice ao la ca] w' fun e w'' => e = .returned (.slice ao (trimmed xs).length ca) ∧ w' = w'' := fun w' h => trim_to _ la ca _ xs w' hla (by omega) hx (hax.same h) rfl
  have c2 : ∀ w' : World, w'.heap = w.heap → Calls Tryz.prog 140 #[.slice bo lb cb] w' fun e w'' => e = .returned (.slice bo (trimmed ys).length cb) ∧ w' = w'' := fun w' h => trim_to _ lb cb _ ys w' hlb (by omega) hy (hay.same h) rfl
  have wide : ∀ {m q r : Nat}, m ≤ la → ∀ e w', DivPost w m q r 0 e w' → DivPost w la q r 0 e w' := by
    rintro m q r hm e w' ⟨v1, r1, v2, r2, e1, o1, o2, i1, i2, hb, hd⟩
    exact ⟨v1, r1, v2, r2, e1, o1.mono (Nat.le_refl _) hm, o2.mono (Nat.le_refl _) hm, i1, i2, hb, hd⟩
  have p0 : (trimmed ys).length ≠ 0 := fun h => h0 (by rw [← num_trimmed, List.length_eq_zero_iff.1 h]; rfl)
  by_cases hlt : (trimmed xs).length < (trimmed ys).length
  · have nl : num B64 xs < num B64 ys := by
      rcases hn : (trimmed ys).length with _ | n
      · exact absurd hn p0
      · have a1 := num_lt (trimmed_ok ox)
        have a2 := num_ge (b := B64) (trimmed_top ys) hn
        have a3 := Nat.pow_le_pow_right hb0 (show (trimmed xs).length ≤ n by omega)
        rw [num_trimmed] at a1 a2
        omega
    have c3 := norm_any ao (trimmed xs).length ca (trimmed xs) w (by omega) (by omega) rfl hax.trimmed (trimmed_ok ox)
    have key := divmod_less ao bo la ca lb cb _ _ (num B64 xs) w hlt (by omega) c1 c2 (by rw [num_trimmed] at c3; exact c3)
    rw [Nat.div_eq_of_lt nl, Nat.mod_eq_of_lt nl]
    exact key.mono (wide (by omega))
  · by_cases h1 : (trimmed ys).length = 1
    · exact divmod_by_limb ao bo la ca lb cb xs ys w hla (by omega) hlb (by omega) hx hy hax hay ox oy h1 (by omega)
    · obtain ⟨p, hp⟩ : ∃ p, (trimmed ys).length = p + 2 := ⟨(trimmed ys).length - 2, by omega⟩
      have c3 := divLong_at ao bo (trimmed xs).length ca (trimmed ys).length cb p ((trimmed xs).length - (trimmed ys).length) (trimmed xs) (trimmed ys) w hp (by omega) (by omega) rfl rfl hax.trimmed hay.trimmed (trimmed_ok ox) (trimmed_ok oy) (trimmed_top ys (p + 1) hp)
      rw [num_trimmed, num_trimmed] at c3
      exact (divmod_long ao bo la ca lb cb _ _ _ _ _ w (by omega) (by omega) (by omega) c1 c2 c3).mono (wide (by omega))

end Go.Proofs.YtckijnlolmbdiaaGreatDoor

namespace Go.Proofs.YtckijnlolmbdiaaGreatDoor

theorem new_cell (w : World) (v : Value) (t : TypeId) : ∀ (j : Nat) (u : Value), [v][j]? = some u → (w.alloc (Obj.cells #[v] t)).cell? ((⟨w.heap.size, 0, none⟩ : Addr).add j) = some u := by
  intro j u hj
  match j, hj with
  | 0, hj =>
    simp at hj
    subst hj
    simp [Addr.add]

theorem one_one (k : IntKind) (n : Int) : ∀ u ∈ [Value.int k n], u.oneCell' = true := by
  intro u hu; simp at hu; subst hu; rfl

end Go.Proofs.YtckijnlolmbdiaaGreatDoor

namespace Go.Proofs.YtckijnlolmbdiaaGreatDoor

end Go.Proofs.YtckijnlolmbdiaaGreatDoor

namespace Go.Proofs.YtckijnlolmbdiaaGreatDoor

theorem dig_at {b : Nat} {xs : List Nat} (hb : 0 < b) (ox : Ok b xs) (j : Nat) : num b xs / b ^ j % b = dg xs j := by
  by_cases hj : j < xs.length
  · obtain ⟨t, ht⟩ : ∃ t, xs.length = j + (1 + t) := ⟨xs.length - j - 1, by omega⟩
    have h1 := V_split b (dg xs) j (1 + t)
    have h2 := V_split b (fun i => dg xs (j + i)) 1 t
    have h3 : V b (dg xs) j < b ^ j := V_lt j (fun i _ => ox i)
    have hp : 0 < b ^ j := Nat.pow_pos hb
    unfold num
    rw [ht, h1, Nat.add_comm, Nat.mul_add_div hp, Nat.div_eq_of_lt h3, Nat.add_zero, h2]
    simp only [V, Nat.pow_zero, Nat.mul_one, Nat.zero_add, Nat.pow_one, Nat.add_zero]
    rw [Nat.add_mul_mod_self_left]
    exact Nat.mod_eq_of_lt (ox j)
  · have h1 := num_lt ox
    have h2 := Nat.pow_le_pow_right hb (show xs.length ≤ j by omega)
    rw [Nat.div_eq_of_lt (by omega), dg_out (by omega), Nat.zero_mod]

end Go.Proofs.YtckijnlolmbdiaaGreatDoor

namespace Go.Proofs.YtckijnlolmbdiaaGreatDoor
open Go.RowKit

def Grw (w wr : World) (v : Value) (ys : List Nat) : Prop := Below w.heap.size w wr ∧ wr.ownsRow w.heap.size 120 1 v ys.length (vals .u64 ys)

theorem Grw.at {w wr : World} {v : Value} {ys : List Nat} (h : Grw w wr v ys) : ∃ ao cap, v = .slice ao ys.length cap ∧ ys.length ≤ cap ∧ At .u64 wr ao ys := by
  obtain ⟨hb, hl, ho⟩ := h
  rcases ho with ⟨rfl, h0⟩ | ⟨g, cap, cur, rfl, hg, hh, hn, _, hs, ht⟩
  · obtain rfl : ys = [] := List.length_eq_zero_iff.1 h0
    exact ⟨none, 0, rfl, Nat.le_refl _, At.nil _ _ _⟩
  · refine ⟨_, cap, rfl, hn, .inr ⟨g, 0, rfl, lt_of_block hh, fun i hi => ?_⟩⟩
    simp only [World.cell?, hh]
    have hc : cur[i]? = (vals .u64 ys)[i]? := by
      rw [← ht, List.getElem?_take_of_lt (by omega), Array.getElem?_toList]
    simp only [Option.isSome_none, Bool.false_eq_true, if_false, Nat.zero_add, hc]
    simp [vals, hi]

theorem Grw.step {w wr w1 : World} {v v' : Value} {ys : List Nat} {d : Nat} (o : Obj) (h : Grw w wr v ys) (ho : w1.ownsRow w.heap.size 120 1 v' (ys.length + 1) (vals .u64 ys ++ [.int .u64 (d : Int)])) (hg : (wr.alloc o).grownBy w1 v.ownBlock) :
    Grw w w1 v' (ys ++ [d]) := by
  have hb := h.1.alloc (h.1.size) o
  refine ⟨hb.grown hg hb.size ?_, ?_⟩
  · intro k hk
    rcases h.2.2 with ⟨rfl, _⟩ | ⟨g, cap, cur, rfl, hgb, _⟩
    · simp [Value.ownBlock] at hk
    · simp [Value.ownBlock] at hk; omega
  · rw [List.length_append]
    have : vals .u64 (ys ++ [d]) = vals .u64 ys ++ [.int .u64 (d : Int)] := by simp [vals]
    rw [this]; exact ho

theorem At.keep {wr w1 : World} {v : Value} {xs : List Nat} {ao : Option Addr} (o : Obj) (hg : (wr.alloc o).grownBy w1 v.ownBlock) (hat : At .u64 wr ao xs)
    (hne : ∀ b o, xs ≠ [] → ao = some ⟨b, o, none⟩ → v.ownBlock ≠ some b) : At .u64 w1 ao xs := by
  rcases hat with h' | ⟨b, o', h1, h2, h3⟩
  · exact .inl h'
  · by_cases hx : xs = []
    · exact .inl hx
    · refine .inr ⟨b, o', h1, Nat.lt_of_lt_of_le h2 (Nat.le_trans (by simp) hg.size), fun i hi => ?_⟩
      rw [World.cell?_of_block (w := wr) ((hg.block b (by simp; omega) (fun e => hne b o' hx h1 e.symm)).trans (Below.heap_alloc _ _ _ h2))]
      exact h3 i hi

theorem Grw.below {w wr w' : World} {v : Value} {ys : List Nat} (h : Grw w wr v ys) (hb : Below wr.heap.size wr w') : Grw w w' v ys := by
  refine ⟨h.1.trans (hb.mono h.1.size), h.2.kept (row := none) ⟨hb.os, hb.tape, hb.output, hb.size, fun k hk _ => hb.block k hk⟩ ?_⟩
  cases hv : v.ownBlock with
  | none => exact .inl rfl
  | some g => exact .inr (by simp)

end Go.Proofs.YtckijnlolmbdiaaGreatDoor

namespace Go.Proofs.YtckijnlolmbdiaaGreatDoor
open Go.RowKit

def U19 : Nat := 10000000000000000000

def chunkD (N j : Nat) : Nat := N / U19 ^ j % U19
def chunksOf (N k : Nat) : List Nat := (List.range k).map (chunkD N)

theorem chunks_len (N k : Nat) : (chunksOf N k).length = k := by simp [chunksOf]
theorem chunks_succ (N k : Nat) : chunksOf N (k + 1) = chunksOf N k ++ [chunkD N k] := by simp [chunksOf, List.range_succ]
theorem dg_chunks (N k j : Nat) (h : j < k) : dg (chunksOf N k) j = chunkD N j := by simp [dg, chunksOf, h]

theorem chunks_ok (N k : Nat) : Ok U19 (chunksOf N k) := by
  intro j
  by_cases h : j < k
  · rw [dg_chunks N k j h]; exact Nat.mod_lt _ (by decide)
  · rw [dg_out (by rw [chunks_len]; omega)]; decide

theorem chunks_val (N : Nat) : ∀ k, V U19 (chunkD N) k + N / U19 ^ k * U19 ^ k = N
  | 0 => by simp [V]
  | k + 1 => by
    have h := chunks_val N k
    simp only [V]
    have e1 : N / U19 ^ (k + 1) = N / U19 ^ k / U19 := by rw [Nat.pow_succ, Nat.div_div_eq_div_mul]
    have e2 := Nat.div_add_mod (N / U19 ^ k) U19
    rw [e1, Nat.pow_succ]
    rw [show chunkD N k = N / U19 ^ k % U19 from rfl]
    generalize N / U19 ^ k = M at *
    have e3 : M / U19 * (U19 ^ k * U19) = U19 * (M / U19) * U19 ^ k := by
      rw [Nat.mul_comm (U19 ^ k), ← Nat.mul_assoc, Nat.mul_comm (M / U19) U19]
    rw [e3]
    have e4 : (U19 * (M / U19) + M % U19) * U19 ^ k = M * U19 ^ k := by rw [e2]
    rw [Nat.add_mul] at e4
    omega

theorem chunks_is {N k : Nat} (h0 : N / U19 ^ k = 0) (ht : ∀ j, k = j + 1 → N / U19 ^ j ≠ 0) : Is U19 (chunksOf N k) N := by
  refine ⟨chunks_ok N k, ?_, ?_⟩
  · intro j hj
    rw [chunks_len] at hj
    rw [dg_chunks N k j (by omega)]
    unfold chunkD
    have h1 := ht j hj
    rw [hj, Nat.pow_succ, ← Nat.div_div_eq_div_mul] at h0
    have h2 : N / U19 ^ j < U19 := by
      rcases Nat.lt_or_ge (N / U19 ^ j) U19 with h | h
      · exact h
      · have := Nat.div_pos h (by decide : 0 < U19); omega
    rw [Nat.mod_eq_of_lt h2]; exact h1
  · unfold num
    rw [chunks_len, V_congr k (fun j hj => dg_chunks N k j hj)]
    have := chunks_val N k
    rw [h0] at this; omega

theorem chunks_few {N k la : Nat} (hN : N < B64 ^ la) (ht : ∀ j, k = j + 1 → N / U19 ^ j ≠ 0) : k ≤ 2 * la + 1 := by
  rcases k with _ | j
  · omega
  · have h := ht j rfl
    have h1 : U19 ^ j ≤ N := by
      rcases Nat.lt_or_ge N (U19 ^ j) with h' | h'
      · exact absurd (Nat.div_eq_of_lt h') h
      · exact h'
    have h2 : B64 ≤ U19 ^ 2 := by decide +kernel
    have h3 : B64 ^ la ≤ (U19 ^ 2) ^ la := Nat.pow_le_pow_left h2 la
    rw [← Nat.pow_mul] at h3
    rcases Nat.lt_or_ge j (2 * la) with h' | h'
    · omega
    · have := Nat.pow_le_pow_right (show 0 < U19 by decide) h'; omega

structure CutInv (w : World) (N la : Nat) (uo : Option Addr) (us : List Nat) (k : Nat) (av cv : Value) (wr : World) : Prop where
  gr : Grw w wr cv (chunksOf N k)
  rst : ∃ ao cap xs, av = .slice ao xs.length cap ∧ xs.length ≤ cap ∧ cap ≤ 10 * la + 100 ∧ At .u64 wr ao xs ∧ Ok B64 xs ∧ num B64 xs = N / U19 ^ k ∧ ∀ b o, xs ≠ [] → ao = some ⟨b, o, none⟩ → cv.ownBlock ≠ some b
  unit : At .u64 wr uo us ∧ ∀ b o, us ≠ [] → uo = some ⟨b, o, none⟩ → cv.ownBlock ≠ some b
  top : ∀ j, k = j + 1 → N / U19 ^ j ≠ 0

def CutPost (w : World) (m N : Nat) (e : Ending) (w' : World) : Prop :=
  ∃ ao cap cs, e = .returned (.slice ao (List.length cs) cap) ∧ cs.length ≤ cap ∧ At .u64 w' ao cs ∧ Is U19 cs N ∧ cs.length ≤ m ∧ Below w.heap.size w w'

def lenV : Value → Nat
  | .slice _ n _ => n
  | _ => 0

theorem u19_lt : U19 < B64 := by decide

set_option maxRecDepth 100000 in
set_option maxHeartbeats 2000000 in
theorem cut_any (ao : Option Addr) (la ca : Nat) (xs : List Nat) (w : World) (hla : la ≤ ca) (hca : ca ≤ 5000000) (hx : xs.length = la) (hax : At .u64 w ao xs) (ox : Ok B64 xs) :
    Calls Tryz.prog 152 #[.slice ao la ca] w (CutPost w (2 * la + 1) (num B64 xs)) := by
  obtain ⟨i0, hi, hz0, hz1, hz2⟩ := info_parts Tryz.infoU
  obtain ⟨N, hN⟩ : ∃ N, N = num B64 xs := ⟨_, rfl⟩
  have HN : Hid (N < B64 ^ la) := by rw [hN, ← hx]; exact num_lt ox
  have HNN : Hid (num B64 xs = N) := hN.symm
  rw [← hN]
  clear hN
  go_enter Tryz.func152, Tryz.ntmps152
  go_wp2_with fail
  refine (of_any U19 _ u19_lt).mono ?_
  rintro e w1 ⟨v, us, rfl, hou, isu, hb1⟩
  obtain ⟨uo, uc, rfl, hlu, hmu, atu⟩ := hou.shape
  have hst : CutInv w N ca uo us 0 (.slice ao la ca) (.slice none 0 0) w1 := by
    refine ⟨⟨hb1, World.ownsRow_nil _ _ _ _⟩, ⟨ao, ca, xs, by rw [hx], by omega, by omega, hax.below hb1, ox, by rw [HNN.out]; simp, fun b o _ _ => by simp [Value.ownBlock]⟩, ⟨atu, fun b o _ _ => by simp [Value.ownBlock]⟩, fun j hj => by omega⟩
  have HST : Hid (CutInv w N ca uo us 0 (.slice ao la ca) (.slice none 0 0) w1) := hst
  have HU : Hid (Is B64 us U19) := isu
  have lu : us.length ≤ 1 := by omega
  clear hst hou isu atu hax ox
  go_wp2
  go_loopw [0, 3, 5, 6, 7, 8, 9] (fun a c _ _ _ _ _ wr => ∃ k : Nat, CutInv w N ca uo us k a c wr) (fun _ c _ _ _ _ _ _ => 2 * la + 10 - lenV c)
  case atStart => exact ⟨0, HST.out⟩
  case round =>
    clear HST hb1
    obtain ⟨k, hinv⟩ := hrel
    obtain ⟨hgr, ⟨ro, rc, rs, rfl, hrc, hrca, hrat, hrok, hrn, hrne⟩, ⟨hut, hune⟩, htop⟩ := hinv
    have hkl := chunks_few HN.out htop
    obtain ⟨co, cc, rfl, hcl, hcat⟩ := hgr.at
    rw [chunks_len] at *
    by_cases h0 : num B64 rs = 0
    · have his := chunks_is (N := N) (k := k) (by rw [← hrn]; exact h0) htop
      have HIS := hide his
      have HK : Hid (k ≤ 2 * la + 1) := hkl
      have hbel := hgr.1
      have hb0 : bitsN (num B64 rs) = 0 := by rw [h0]; rfl
      clear his hkl htop hut hune hgr hrne
      go_wp2_with fail
      refine (bits_any ro rs.length rc rs _ hrc (by omega) rfl hrat hrok).mono ?_
      rintro e w' ⟨rfl, rfl⟩
      rw [hb0]
      clear hrat
      go_wp2
      go_ret
      exact ⟨co, cc, chunksOf N k, by rw [chunks_len]; rfl, by rw [chunks_len]; exact hcl, hcat, HIS.out, by rw [chunks_len]; exact HK.out, hbel⟩
    · obtain ⟨p, hp, _⟩ := bitsN_spec h0
      have hn0 : N / U19 ^ k ≠ 0 := by rw [← hrn]; exact h0
      have HTOP : Hid (∀ j, k + 1 = j + 1 → N / U19 ^ j ≠ 0) := by
        intro j hj
        rw [show j = k by omega]
        exact hn0
      have HGR := hide hgr
      have HRN := hide hrn
      have HUNE := hide hune
      have hsz := hgr.1.size
      have hgl := hgr.2.lt
      have HGL := hide hgl
      have huu : num B64 us ≠ 0 := by rw [HU.out.2.2]; decide
      have HCAT := hide hcat
      clear htop hune hgr hrne h0 hgl hcat hn0
      go_wp2_with fail
      refine (bits_any ro rs.length rc rs _ hrc (by omega) rfl hrat hrok).mono ?_
      rintro e w' ⟨rfl, rfl⟩
      rw [hp]
      go_wp2_with fail
      refine (divmod_any ro uo rs.length rc us.length uc rs us _ hrc (by omega) hlu (by omega) rfl rfl hrat hut hrok HU.out.1 huu).mono ?_
      rintro e w4 ⟨v1, rq, v2, rr, rfl, hq, hr, iq, ir, hb4, _⟩
      rw [HU.out.2.2, HRN.out, Nat.div_div_eq_div_mul, ← Nat.pow_succ] at iq
      rw [HU.out.2.2, HRN.out] at ir
      obtain ⟨qo, qc, rfl, hlq, hmq, atq⟩ := hq.shape
      obtain ⟨eo, ec, rfl, hle, hme, ate⟩ := hr.shape
      have hu4 := hut.below hb4
      have hel : (trimmed rr).length ≤ 1 := by
        refine trimmed_small (t := 1) ?_
        rw [ir.2.2, Nat.pow_one]
        exact Nat.lt_trans (Nat.mod_lt _ (by decide)) u19_lt
      have HQB : Hid (∀ b o, rq ≠ [] → qo = some ⟨b, o, none⟩ → wr.heap.size ≤ b ∧ b < w4.heap.size) := by
        intro b o hx' e
        rcases hq with ⟨h1, h2⟩ | ⟨g, full, h1, h2, h3, _⟩
        · exact absurd h2 hx'
        · simp only [Value.slice.injEq] at h1
          rw [e] at h1
          simp only [Option.some.injEq, Addr.mk.injEq] at h1
          have := h3.lt
          omega
      clear hq hr hrat hut
      go_wp2_with fail
      refine (uint_any eo rr.length ec rr _ hle (by omega) rfl ate).mono ?_
      rintro e w' ⟨rfl, rfl⟩
      rw [if_pos hel, ir.2.2, show N / U19 ^ k % U19 = chunkD N k from rfl, decide_eq_true hel]
      obtain ⟨d, hd⟩ : ∃ d, d = chunkD N k := ⟨_, rfl⟩
      rw [← hd]
      have hg4 := HGR.out.below hb4
      have hown := hg4.2
      rw [chunks_len] at hown
      have HG4 := hide hg4
      have HD : Hid (d = chunkD N k) := hd
      have hs4 := hb4.size
      have HIQ := hide iq
      clear hd ir hel ate hle hme HGR hg4 iq
      go_wp2_with (at_builtin; refine wpList_append_lies _ rfl _ _ 108 rfl w.heap.size 120 i0 (.int .u64 0) 1 8 Tryz.underlying108 hi hz0 hz1 hz2 rfl (by decide) _ _ _ rfl (hown.alloc _) ⟨w4.heap.size, 0, none⟩ 1 1 [.int .u64 (d : Int)] rfl rfl ?c1A ?c2A (by omega) ?c3A ?c4A ?c5A (w4.heap.size + 1) (by simp) ?_)
      try case c1A => exact new_cell w4 _ _
      case c2A => first | exact one_one _ _ | rfl
      case c3A => unfold maxLen; omega
      case c4A => omega
      case c5A => first | (simp; omega) | omega
      intro g cap w5 hown' hgrow hlies hlt
      have hne4 : ∀ b, (b < wr.heap.size → (Value.slice co k cc).ownBlock ≠ some b) → b < w4.heap.size → g ≠ b := by
        intro b hb1 hb2 e
        subst e
        rcases hlies with h | h
        · have := (HGL.out g h).2
          exact hb1 this h
        · omega
      have hst : CutInv w N ca uo us (k + 1) (.slice qo rq.length qc) (.slice (some ⟨g, 0, none⟩) (k + 1) cap) w5 := by
        have hgs := HG4.out.step _ (by rw [chunks_len]; exact hown') hgrow
        rw [HD.out, ← chunks_succ] at hgs
        refine ⟨hgs, ⟨qo, qc, rq, rfl, hlq, by omega, ?_, HIQ.out.1, HIQ.out.2.2, ?_⟩, ⟨?_, ?_⟩, HTOP.out⟩
        · refine At.keep _ hgrow atq (fun b o hx' e h => ?_)
          have h1 := HQB.out b o hx' e
          have := (HGL.out b h).2
          omega
        · intro b o hx' e
          have h1 := HQB.out b o hx' e
          show some g ≠ some b
          intro h2
          injection h2 with h2
          exact hne4 b (fun h => absurd h1.1 (by omega)) h1.2 h2
        · exact At.keep _ hgrow hu4 (fun b o hx' e => HUNE.out b o hx' e)
        · intro b o hx' e
          show some g ≠ some b
          intro h2
          injection h2 with h2
          have h3 : b < w4.heap.size := by
            rcases hu4 with h | ⟨b', o', h1, h4, _⟩
            · exact absurd h hx'
            · rw [e] at h1; simp only [Option.some.injEq, Addr.mk.injEq] at h1; omega
          exact hne4 b (fun _ => HUNE.out b o hx' e) h3 h2
      have HST := hide hst
      clear hst hown hown' hgrow hlies hlt hne4 atq hu4
      go_wp2
      go_roundw
      case rel => exact ⟨k + 1, HST.out⟩
      case measure => simp [lenV]; omega

end Go.Proofs.YtckijnlolmbdiaaGreatDoor

namespace Go.Proofs.YtckijnlolmbdiaaGreatDoor
open Go.RowKit

theorem bld_size : (Tryz.prog.info? 162).map (·.size) = some 2 := by kernel_rfl
theorem bld_lies : liesAt Tryz.prog Tryz.prog.depth 162 (2 / Tryz.prog.cellsOf 162) 0 162 1 = true := by kernel_rfl
theorem byte_info : (Tryz.prog.info? 5).map (fun i => (i.zero, i.size, i.bytes)) = some (some (.int .u8 0), 1, 1) := by kernel_rfl

set_option maxRecDepth 100000 in
set_option maxHeartbeats 1000000 in
theorem ccheck_used (b : Nat) (w : World) (h0 : w.cell? ⟨b, 0, none⟩ = some (.pointer (some ⟨b, 0, none⟩))) :
    Calls Tryz.prog 203 #[.pointer (some ⟨b, 0, none⟩)] w fun e w' => e = .returned (.tuple #[]) ∧ w' = w := by
  obtain ⟨j, hj, _⟩ := Option.map_eq_some_iff.1 bld_size
  have key := Lib.run_neq_ptr_same (P := Tryz.prog) w ⟨b, 0, none⟩ Tryz.underlying160 hj
  go_enter Tryz.func203, Tryz.ntmps203
  go_wp2
  go_end0
  exact ⟨rfl, rfl⟩

set_option maxRecDepth 100000 in
set_option maxHeartbeats 1000000 in
theorem ccheck_fresh (b : Nat) (w : World) (h0 : w.cell? ⟨b, 0, none⟩ = some (.pointer none)) (hsh : w.shape? b = some (162, 2)) (hfz : w.frozen? ⟨b, 0, none⟩ = false) :
    Calls Tryz.prog 203 #[.pointer (some ⟨b, 0, none⟩)] w fun e w' => e = .returned (.tuple #[]) ∧ w' = w.setCell ⟨b, 0, none⟩ (.pointer (some ⟨b, 0, none⟩)) := by
  obtain ⟨j, hj, hjs⟩ := Option.map_eq_some_iff.1 bld_size
  have k1 := Lib.run_to_unsafe (P := Tryz.prog) w ⟨b, 0, none⟩ Tryz.underlying160 Tryz.underlying222 hj (by rw [hjs]; decide) hsh (Nat.zero_lt_succ 1)
  have k2 := Lib.run_from_unsafe (P := Tryz.prog) w ⟨b, 0, none⟩ Tryz.underlying222 Tryz.underlying160 hj hsh bld_lies
  go_enter Tryz.func203, Tryz.ntmps203
  go_wp2
  rw [run_callFunc_extern Tryz.func231 (by kernel_rfl) (by kernel_rfl) (by kernel_rfl) (e := Extern.AbiNoEscape.same) (by kernel_rfl), Lib.run_noEscape]
  simp only [Result.andThen]
  rw [Oper.upon_value]
  go_wp2
  go_end0
  exact ⟨rfl, rfl⟩

theorem ccheck_any (B b : Nat) (bs : List Value) (w : World) (h : Lib.IsBuilder 162 5 B b bs w) :
    Calls Tryz.prog 203 #[.pointer (some ⟨b, 0, none⟩)] w fun e w' => e = .returned (.tuple #[]) ∧ Lib.BuilderAt 162 5 B b (.pointer (some ⟨b, 0, none⟩)) bs w' ∧ Below B w w' := by
  rcases h with h | h
  · refine (ccheck_fresh b w h.cell0 h.shape h.frozen0).mono ?_
    rintro e w' ⟨rfl, rfl⟩
    exact ⟨rfl, h.used _, (Below.refl B w).setCell (p := ⟨b, 0, none⟩) h.1 _⟩
  · refine (ccheck_used b w h.cell0).mono ?_
    rintro e w' ⟨rfl, rfl⟩
    exact ⟨rfl, h, Below.refl B _⟩

set_option maxRecDepth 100000 in
set_option maxHeartbeats 2000000 in
theorem writeString_any (B b : Nat) (bs : List Value) (s : ByteArray) (w : World) (h : Lib.IsBuilder 162 5 B b bs w) (hlen : bs.length + s.size ≤ 140737488355328) (hBw : B ≤ w.heap.size) :
    Calls Tryz.prog 153 #[.pointer (some ⟨b, 0, none⟩), .string s] w fun e w' => e = .returned (.tuple #[.int .i64 s.size, .nilIface]) ∧ Lib.BuilderAt 162 5 B b (.pointer (some ⟨b, 0, none⟩)) (bs ++ Lib.strCells s) w' ∧ Below B w w' := by
  obtain ⟨i0, hi, hz0, hz1, hz2⟩ := info_parts byte_info
  go_enter Tryz.func153, Tryz.ntmps153
  go_wp2_with fail
  refine (ccheck_any B b bs _ h).mono ?_
  rintro e w1 ⟨rfl, h1, hb1⟩
  have c0 := h1.cell0
  obtain ⟨hB, v, hbk, hown, hne⟩ := h1
  have c1 : w1.cell? ⟨b, 1, none⟩ = some v := by rw [Lib.cell_of_heap hbk]; rfl
  have hlt := lt_of_block hbk
  have hsz := hb1.size
  go_wp2_with (at_builtin; refine Lib.wpList_append_own_string _ rfl _ _ 51 9 rfl B 5 i0 Tryz.underlying51 Tryz.underlying9 hi hz0 hz1 hz2 _ _ _ rfl hown s rfl ?c3 ?c4 ?c5 ?_)
  case c3 => unfold maxLen; omega
  case c4 => omega
  case c5 => omega
  intro v' w2 hown' hgrow _
  have hb2 : w2.heap[b]? = some (.cells #[.pointer (some ⟨b, 0, none⟩), v] 162 (0, 0)) := by
    rw [hgrow.block b hlt (fun e => hne e.symm)]; exact hbk
  have d0 : w2.cell? ⟨b, 0, none⟩ = some (.pointer (some ⟨b, 0, none⟩)) := by rw [Lib.cell_of_heap hb2]; rfl
  have d1 : w2.cell? ⟨b, 1, none⟩ = some v := by rw [Lib.cell_of_heap hb2]; rfl
  have f1 : w2.frozen? ⟨b, 1, none⟩ = false := Lib.frozen_of_heap hb2 1
  obtain ⟨ao, n', cap, rfl⟩ : ∃ ao n' cap, v' = .slice ao n' cap := by
    rcases hown'.2 with ⟨hv, _⟩ | ⟨g, cap, cur, hv, _⟩
    · exact ⟨_, _, _, hv⟩
    · exact ⟨_, _, _, hv⟩
  go_wp2
  go_ret2
  refine ⟨rfl, Lib.BuilderAt.put hB hb2 (bs' := bs ++ Lib.strCells s) (by simpa [Lib.strCells_length] using hown') (by decide), ?_⟩
  exact (hb1.grown hgrow (by omega) (fun k hk => (hown.lt k hk).1)).setCell (p := ⟨b, 1, none⟩) hB _

end Go.Proofs.YtckijnlolmbdiaaGreatDoor

namespace Go.Proofs.YtckijnlolmbdiaaGreatDoor
open Go.RowKit

def padD : Nat → Nat → List UInt8
  | 0, _ => []
  | m + 1, r => padD m (r / 10) ++ [UInt8.ofNat (48 + r % 10)]

theorem dd_append : ∀ (m q r : Nat), q ≠ 0 → r < 10 ^ m → Lib.decDigits (q * 10 ^ m + r) = Lib.decDigits q ++ padD m r
  | 0, q, r, _, hr => by
    have : r = 0 := by simpa using hr
    subst this; simp [padD]
  | m + 1, q, r, hq, hr => by
    have hp : 0 < 10 ^ m := Nat.pow_pos (by omega)
    have h1 : 1 * 10 ^ m ≤ q * 10 ^ m := Nat.mul_le_mul_right _ (by omega)
    have e0 : q * 10 ^ (m + 1) = q * 10 ^ m * 10 := by rw [Nat.pow_succ, Nat.mul_assoc]
    have e1 : (q * 10 ^ (m + 1) + r) / 10 = q * 10 ^ m + r / 10 := by rw [e0]; omega
    have e2 : (q * 10 ^ (m + 1) + r) % 10 = r % 10 := by rw [e0]; omega
    have hb : ¬ q * 10 ^ (m + 1) + r < 10 := by rw [e0]; omega
    rw [dd_big hb, e1, e2, dd_append m q (r / 10) hq (by rw [Nat.pow_succ] at hr; omega)]
    simp [padD]

theorem padD_zero : ∀ m, padD m 0 = List.replicate m (48 : UInt8)
  | 0 => rfl
  | m + 1 => by
    show padD m (0 / 10) ++ [UInt8.ofNat (48 + 0 % 10)] = _
    rw [Nat.zero_div, padD_zero m, List.replicate_succ']
    rfl

theorem padD_eq : ∀ (m r : Nat), 1 ≤ m → r < 10 ^ m → padD m r = List.replicate (m - (Lib.decDigits r).length) (48 : UInt8) ++ Lib.decDigits r
  | 0, _, h, _ => absurd h (by omega)
  | m + 1, r, _, hr => by
    by_cases h : r < 10
    · show padD m (r / 10) ++ [UInt8.ofNat (48 + r % 10)] = _
      rw [Nat.div_eq_of_lt h, padD_zero, Nat.mod_eq_of_lt h, Lib.decDigits_one h]
      simp
    · have hm : 1 ≤ m := by
        rcases m with _ | m
        · simp at hr; omega
        · omega
      show padD m (r / 10) ++ [UInt8.ofNat (48 + r % 10)] = _
      rw [padD_eq m (r / 10) hm (by rw [Nat.pow_succ] at hr; omega), dd_big h]
      simp

theorem nd_lower : ∀ k u : Nat, 1 ≤ u → Lib.nDigits u = k + 1 → 10 ^ k ≤ u
  | 0, u, h, _ => by simpa using h
  | k + 1, u, h, hn => by
    by_cases h10 : u < 10
    · rw [Lib.nDigits_small h10] at hn; omega
    · rw [Lib.nDigits_big h10] at hn
      have := nd_lower k (u / 10) (by omega) (by omega)
      rw [Nat.pow_succ]; omega

theorem nd_le {u t : Nat} (h : u < 10 ^ t) (ht : 1 ≤ t) : Lib.nDigits u ≤ t := by
  by_cases h0 : u = 0
  · subst h0; rw [Lib.nDigits_small (by omega)]; exact ht
  · rcases hn : Lib.nDigits u with _ | k
    · omega
    · have := nd_lower k u (by omega) hn
      rcases Nat.lt_or_ge k t with h' | h'
      · omega
      · have := Nat.pow_le_pow_right (show 0 < 10 by omega) h'; omega

theorem text_len {N la : Nat} (h : N < B64 ^ la) (j : Nat) : (Lib.decDigits (N / U19 ^ j)).length ≤ 20 * la + 1 := by
  rw [Lib.decDigits_length]
  refine nd_le (t := 20 * la + 1) ?_ (by omega)
  have h1 : B64 ^ la ≤ (10 ^ 20) ^ la := Nat.pow_le_pow_left (by decide +kernel) la
  rw [← Nat.pow_mul] at h1
  have h2 := Nat.div_le_self N (U19 ^ j)
  have h3 : (10 : Nat) ^ (20 * la) ≤ 10 ^ (20 * la + 1) := Nat.pow_le_pow_right (by omega) (by omega)
  omega

theorem repeat0 (c : Nat) : Lib.repeatL [48] c = List.replicate c (48 : UInt8) := by
  induction c with
  | zero => rfl
  | succ c ih => rw [Lib.repeatL, ih]; rfl

theorem chunk_text {N k : Nat} (h : N / U19 ^ (k + 1) ≠ 0) : Lib.decDigits (N / U19 ^ k) = Lib.decDigits (N / U19 ^ (k + 1)) ++ (List.replicate (19 - (Lib.decDigits (chunkD N k)).length) (48 : UInt8) ++ Lib.decDigits (chunkD N k)) := by
  have hU : U19 = 10 ^ 19 := by decide +kernel
  have e : N / U19 ^ k = N / U19 ^ (k + 1) * 10 ^ 19 + chunkD N k := by
    unfold chunkD
    rw [Nat.pow_succ, ← Nat.div_div_eq_div_mul]
    have := Nat.div_add_mod (N / U19 ^ k) U19
    rw [← hU, Nat.mul_comm]; omega
  have hlt : chunkD N k < 10 ^ 19 := by rw [← hU]; exact Nat.mod_lt _ (by decide)
  rw [← padD_eq 19 _ (by omega) hlt, ← dd_append 19 _ _ h hlt, ← e]

theorem chunk_dd {N k : Nat} : (Lib.decDigits (chunkD N k)).length ≤ 19 := by
  rw [Lib.decDigits_length]
  refine nd_le ?_ (by omega)
  have hU : U19 = 10 ^ 19 := by decide +kernel
  rw [← hU]; exact Nat.mod_lt _ (by decide)

theorem chunk_lt (N k : Nat) : chunkD N k < 18446744073709551616 := Nat.lt_trans (Nat.mod_lt _ (by decide)) (show U19 < 18446744073709551616 by decide)

theorem bld_below {T e : TypeId} {B b : Nat} {p : Value} {bs : List Value} {w w' : World} (h : Lib.BuilderAt T e B b p bs w) (hb : Below w.heap.size w w') : Lib.BuilderAt T e B b p bs w' := by
  obtain ⟨h1, v, h2, h3, h4⟩ := h
  refine ⟨h1, v, ?_, h3.kept (row := none) ⟨hb.os, hb.tape, hb.output, hb.size, fun k hk _ => hb.block k hk⟩ ?_, h4⟩
  · rw [hb.block b (lt_of_block h2)]; exact h2
  · cases hv : v.ownBlock with
    | none => exact .inl rfl
    | some g => exact .inr (by simp)

theorem bld_new (w : World) : Lib.IsBuilder 162 5 w.heap.size w.heap.size [] (w.alloc (.cells #[.pointer none, .slice none 0 0] 162)) :=
  .inl ⟨Nat.le_refl _, .slice none 0 0, heap_alloc_new _ _, World.ownsRow_nil _ _ _ _, by simp [Value.ownBlock]⟩

set_option maxRecDepth 100000 in
set_option maxHeartbeats 2000000 in
theorem text_any (ao : Option Addr) (la ca : Nat) (xs : List Nat) (w : World) (hla : la ≤ ca) (hca : ca ≤ 5000000) (hx : xs.length = la) (hax : At .u64 w ao xs) (ox : Ok B64 xs) (htab : Tab w) :
    Calls Tryz.prog 87 #[.slice ao la ca] w fun e w' => e = .returned (.string ⟨(Lib.decDigits (num B64 xs)).toArray⟩) ∧ Below w.heap.size w w' := by
  obtain ⟨N, hN⟩ : ∃ N, N = num B64 xs := ⟨_, rfl⟩
  have HN : Hid (N < B64 ^ la) := by rw [hN, ← hx]; exact num_lt ox
  have cu := cut_any ao la ca xs w hla hca hx hax ox
  rw [← hN] at cu ⊢
  have CU := hide cu
  have HTAB : Hid (Tab w) := htab
  clear cu hN hax ox htab
  go_enter Tryz.func87, Tryz.ntmps87
  go_wp2_with fail
  refine CU.out.mono ?_
  rintro e w1 ⟨co, cc, cs, rfl, hcl, hcat, his, hcm, hb1⟩
  rcases hcs : cs.length with _ | t
  · have hz : cs = [] := List.length_eq_zero_iff.1 hcs
    have hN0 : N = 0 := by rw [hz] at his; exact his.2.2.symm
    clear hcat his hcl hcm hz HN
    subst hN0
    go_wp2
    go_ret
    exact ⟨by rw [Lib.decDigits_one (by omega)]; rfl, hb1⟩
  · obtain ⟨cb, cf, rfl, hcb, hcell⟩ : ∃ cb cf, co = some ⟨cb, cf, none⟩ ∧ cb < w1.heap.size ∧ ∀ i, i < cs.length → w1.cell? ⟨cb, cf + i, none⟩ = some (.int .u64 ((dg cs i : Nat) : Int)) := by
      rcases hcat with h | h
      · rw [h] at hcs; simp at hcs
      · exact h
    have hdig : ∀ j, dg cs j = chunkD N j := fun j => by rw [← dig_at (by decide) his.1 j, his.2.2]; rfl
    have hcell' : ∀ j, j ≤ t → w1.cell? ⟨cb, cf + j, none⟩ = some (.int .u64 ((chunkD N j : Nat) : Int)) := fun j hj => by rw [hcell j (by omega), hdig]
    have htop : N / U19 ^ t ≠ 0 := by
      intro e
      have h1 := his.2.1 t hcs
      rw [hdig t] at h1
      unfold chunkD at h1
      rw [e, Nat.zero_mod] at h1
      exact h1 rfl
    have hall : ∀ j, j ≤ t → N / U19 ^ j ≠ 0 := by
      intro j hj e
      refine htop (Nat.div_eq_of_lt ?_)
      have h1 : N < U19 ^ j := by
        rcases Nat.lt_or_ge N (U19 ^ j) with h | h
        · exact h
        · have := Nat.div_pos h (Nat.pow_pos (show 0 < U19 by decide)); omega
      exact Nat.lt_of_lt_of_le h1 (Nat.pow_le_pow_right (by decide) hj)
    have hfirst : Lib.decDigits (chunkD N t) = Lib.decDigits (N / U19 ^ t) := by
      have h1 := num_lt his.1
      rw [his.2.2, hcs, Nat.pow_succ] at h1
      unfold chunkD
      rw [Nat.mod_eq_of_lt ((Nat.div_lt_iff_lt_mul (Nat.pow_pos (by decide))).2 (by rw [Nat.mul_comm]; exact h1))]
    have HC := hide hcell'
    have HALL := hide hall
    have htl : t ≤ 2 * la := by omega
    have c0 := HC.out t (Nat.le_refl _)
    have hlt : (t : Int) < ((t + 1 : Nat) : Int) := by omega
    have hnt : ¬ (t : Int) < 0 := by omega
    have c0' : (w1.alloc (Obj.cells #[Value.pointer none, Value.slice none 0 0] 162)).cell? ⟨cb, cf + t, none⟩ = some (.int .u64 ((chunkD N t : Nat) : Int)) := by
      rw [World.cell?_of_block (w := w1) (Below.heap_alloc _ _ _ hcb)]; exact c0
    obtain ⟨d0, hd0⟩ : ∃ d, d = chunkD N t := ⟨_, rfl⟩
    have fm := fun W hT => fmtUint_any (chunkD N t) (chunk_lt N t) W hT
    rw [← hd0] at c0' fm hfirst
    obtain ⟨ds, hds⟩ : ∃ ds : ByteArray, ds = ⟨(Lib.decDigits d0).toArray⟩ := ⟨_, rfl⟩
    rw [← hds] at fm
    have FM := hide fm
    have HDS := hide hds
    have HF := hide hfirst
    have hbn := bld_new w1
    have hT2 : Tab (w1.alloc (Obj.cells #[Value.pointer none, Value.slice none 0 0] 162)) := (HTAB.out.below hb1).alloc _
    have HT2 := hide hT2
    have HBN := hide hbn
    have hb12 : Below w1.heap.size w1 (w1.alloc (Obj.cells #[Value.pointer none, Value.slice none 0 0] 162)) := (Below.refl _ _).alloc (Nat.le_refl _) _
    have HB12 := hide hb12
    have HB1 := hide hb1
    have hlen : ∀ j, (Lib.decDigits (N / U19 ^ j)).length ≤ 20 * la + 1 := text_len HN.out
    have HLEN := hide hlen
    clear hcat hcell hdig hcell' htop hall hfirst fm hd0 hds c0 his hcl hcm hbn hT2 hb12 hb1 hlen hcs
    go_wp2_with fail
    refine (FM.out _ HT2.out).mono ?_
    rintro e w3 ⟨rfl, hb3⟩
    have hbu3 : Lib.IsBuilder 162 5 w1.heap.size w1.heap.size [] w3 := by
      rcases HBN.out with h | h
      · exact .inl (bld_below h hb3)
      · exact .inr (bld_below h hb3)
    have hb13 := HB12.out.trans (hb3.mono HB12.out.size)
    have hsz3 := hb13.size
    have hds0 : ds.size ≤ 200000000 := by
      rw [HDS.out]
      show (Lib.decDigits d0).length ≤ _
      rw [HF.out]
      have := HLEN.out t
      omega
    clear hb3 c0'
    go_wp2_with fail
    refine (writeString_any w1.heap.size w1.heap.size [] ds _ hbu3 (by simp; omega) hsz3).mono ?_
    rintro e w4 ⟨rfl, hbu4, hb4⟩
    have hbt : Lib.BuilderAt 162 5 w1.heap.size w1.heap.size (.pointer (some ⟨w1.heap.size, 0, none⟩)) (Lib.byteCells (Lib.decDigits (N / U19 ^ t))) w4 := by
      rw [← HF.out, ← Lib.strCells_toArray, ← HDS.out]; simpa using hbu4
    have hb14 := hb13.trans hb4
    have HBT := hide hbt
    have HB14 := hide hb14
    clear hbu3 hbu4 hb13 hb4 hsz3 hbt hb14
    go_wp2
    go_loopw [6, 7] (fun i _ wr => ∃ k : Nat, k ≤ t ∧ i = .int .i64 ((k : Int) - 1) ∧ Below w1.heap.size w1 wr ∧ Lib.BuilderAt 162 5 w1.heap.size w1.heap.size (.pointer (some ⟨w1.heap.size, 0, none⟩)) (Lib.byteCells (Lib.decDigits (N / U19 ^ k))) wr) (fun i _ _ => (intOf i + 1).toNat)
    case atStart => exact ⟨t, Nat.le_refl _, rfl, HB14.out, HBT.out⟩
    case round =>
      clear HBT HB14
      obtain ⟨k, hk, rfl, hbr, hbu⟩ := hrel
      have hszr := hbr.size
      rcases k with _ | k
      · rw [Nat.pow_zero, Nat.div_one] at hbu
        have hI : Lib.IsBuilder 162 5 w1.heap.size w1.heap.size (Lib.byteCells (Lib.decDigits N)) wr := .inr hbu
        clear hbu
        go_wp2_with fail
        refine (Tryz.Builder_String_any w1.heap.size w1.heap.size (Lib.decDigits N) _ hI hszr).mono ?_
        rintro e w5 ⟨rfl, hb5⟩
        have hbw := HB1.out.trans ((hbr.trans hb5).mono HB1.out.size)
        clear hI hb5 hbr
        go_wp2
        go_ret
        exact ⟨rfl, hbw⟩
      · have c0 : wr.cell? ⟨cb, cf + k, none⟩ = some (.int .u64 ((chunkD N k : Nat) : Int)) := (hbr.cell hcb).trans (HC.out k (by omega))
        have hct := chunk_text (N := N) (k := k) (HALL.out (k + 1) (by omega))
        have hd19 := chunk_dd (N := N) (k := k)
        have hlenk := HLEN.out k
        have hT : Tab wr := HTAB.out.below (HB1.out.trans (hbr.mono HB1.out.size))
        have fm := fun W hT => fmtUint_any (chunkD N k) (chunk_lt N k) W hT
        obtain ⟨d, hd⟩ : ∃ d, d = chunkD N k := ⟨_, rfl⟩
        rw [← hd] at c0 fm hct hd19
        obtain ⟨dz, hdz⟩ : ∃ dz : ByteArray, dz = ⟨(Lib.decDigits d).toArray⟩ := ⟨_, rfl⟩
        rw [← hdz] at fm
        obtain ⟨m, hm⟩ : ∃ m, m = (Lib.decDigits d).length := ⟨_, rfl⟩
        have hzs : dz.size = m := by rw [hdz, hm]; rfl
        obtain ⟨c, hc⟩ : ∃ c, c + m = 19 := ⟨19 - m, by omega⟩
        have hc1 : (19 : Int) - (m : Int) = (c : Int) := by omega
        have hcn : 19 - (Lib.decDigits d).length = c := by omega
        rw [hcn] at hct
        have FMk := hide fm
        have HDZ := hide hdz
        have HCT := hide hct
        have HZS := hide hzs
        have hkt : (k : Int) < ((t + 1 : Nat) : Int) := by omega
        have hbl : (Lib.decDigits (N / U19 ^ (k + 1))).length ≤ 20 * la + 1 := HLEN.out (k + 1)
        have HT := hide hT
        clear hct hd19 hlenk hd hdz hm hzs fm hcn hT
        go_wp2_with fail
        refine (FMk.out _ HT.out).mono ?_
        rintro e w5 ⟨rfl, hb5⟩
        have hbu5 := bld_below hbu hb5
        have hbr5 := hbr.trans (hb5.mono hszr)
        have hsz5 := hbr5.size
        have hzi : ((dz.size : Nat) : Int) = (m : Int) := by rw [HZS.out]
        clear hb5 hbu hbr c0 hszr
        obtain ⟨zs, hzs⟩ : ∃ zs : ByteArray, zs = ⟨(List.replicate c (48 : UInt8)).toArray⟩ := ⟨_, rfl⟩
        have rp : Calls Tryz.prog 155 #[.string ⟨#[48]⟩, .int .i64 (c : Int)] w5 fun e w' => e = .returned (.string zs) ∧ Below w5.heap.size w5 w' := by
          have h := Tryz.strings_Repeat ⟨#[48]⟩ c w5 (by omega) (by show 1 * c ≤ _; omega)
          rw [show (⟨#[48]⟩ : ByteArray).data.toList = [48] from rfl, repeat0, ← hzs] at h
          exact h
        have RP := hide rp
        have HZ0 := hide hzs
        have hz0 : zs.size = c := by rw [hzs]; show (List.replicate c (48 : UInt8)).length = c; simp
        clear rp hzs
        go_wp2_with fail
        refine RP.out.mono ?_
        rintro e w6 ⟨rfl, hb6⟩
        have hbu6 := bld_below hbu5 hb6
        have hbr6 := hbr5.trans (hb6.mono hsz5)
        have hsz6 := hbr6.size
        clear hb6 hbu5 hbr5 hsz5
        go_wp2_with fail
        refine (writeString_any w1.heap.size w1.heap.size _ zs _ (.inr hbu6) (by rw [Lib.byteCells_length]; omega) hsz6).mono ?_
        rintro e w7 ⟨rfl, hbu7, hb7⟩
        have hbr7 := hbr6.trans hb7
        have hsz7 := hbr7.size
        clear hb7 hbu6 hbr6 hsz6
        go_wp2_with fail
        refine (writeString_any w1.heap.size w1.heap.size _ dz _ (.inr hbu7) (by rw [List.length_append, Lib.byteCells_length, Lib.strCells_length, HZS.out]; omega) hsz7).mono ?_
        rintro e w8 ⟨rfl, hbu8, hb8⟩
        have hbr8 := hbr7.trans hb8
        rw [HZ0.out, HDZ.out, Lib.strCells_toArray, Lib.strCells_toArray, List.append_assoc, ← Lib.byteCells_append, ← Lib.byteCells_append, ← HCT.out] at hbu8
        have HB8 := hide hbu8
        have HBR8 := hide hbr8
        clear hb8 hbu7 hbr7 hsz7 hbu8 hbr8
        go_wp2
        go_roundw
        case rel => exact ⟨k, by omega, by go_num, HBR8.out, HB8.out⟩
        case measure => simp [intOf]

end Go.Proofs.YtckijnlolmbdiaaGreatDoor

namespace Go.Proofs.YtckijnlolmbdiaaGreatDoor
open Go.RowKit

def Nt (w : World) (v : Value) (n : Nat) : Prop := ∃ o c xs, v = .slice o (List.length xs) c ∧ xs.length ≤ c ∧ c ≤ 1000000 ∧ At .u64 w o xs ∧ Is B64 xs n

def Sm (n : Nat) : Prop := n < B64 ^ 10000

theorem ten8000 : powT 10 8000 < B64 ^ 10000 := by decide +kernel
theorem Sm.of {n k : Nat} (h : n < 10 ^ k) (hk : k ≤ 8000) : Sm n :=
  Nat.lt_trans (Nat.lt_of_lt_of_le h (powT_ge (by omega) hk)) ten8000

theorem Nt.below {w w' : World} {v : Value} {n : Nat} (h : Nt w v n) (hb : Below w.heap.size w w') : Nt w' v n := by
  obtain ⟨o, c, xs, h1, h2, h3, h4, h5⟩ := h
  exact ⟨o, c, xs, h1, h2, h3, h4.below hb, h5⟩

theorem Nt.of {w : World} {v : Value} {n base m : Nat} {r : List Nat} (h : Own .u64 120 w base m v r) (his : Is B64 r n) (hm : m ≤ 1000000) : Nt w v n := by
  obtain ⟨o, c, rfl, h1, h2, h3⟩ := h.shape
  exact ⟨o, c, r, rfl, h1, by omega, h3, his⟩

def Far (base : Nat) (v : Value) : Prop := ∀ o l c, v = .slice o l c → ∀ a, o = some a → base ≤ a.block

theorem Far.of {w : World} {v : Value} {base m : Nat} {r : List Nat} (h : Own .u64 120 w base m v r) : Far base v := by
  intro o l c hv a ha
  rcases h with ⟨rfl, _⟩ | ⟨g, full, rfl, h2, _⟩
  · cases hv; cases ha
  · cases hv; cases ha; exact h2

theorem is_len {xs : List Nat} {n : Nat} (h : Is B64 xs n) (hs : Sm n) : xs.length ≤ 10000 := by
  have h3 := trimmed_small (xs := xs) (t := 10000) (by rw [h.2.2]; exact hs)
  rw [trimmed_of_top h.2.1] at h3
  exact h3

def NtPost (w : World) (n : Nat) (e : Ending) (w' : World) : Prop := ∃ v, e = .returned v ∧ Nt w' v n ∧ Below w.heap.size w w' ∧ Far w.heap.size v

theorem nt_of (x : Nat) (w : World) (hx : x < B64) : Calls Tryz.prog 86 #[.int .u64 (x : Int)] w (NtPost w x) := by
  refine (of_any x w hx).mono ?_
  rintro e w' ⟨v, r, rfl, h1, h2, h3⟩
  exact ⟨v, rfl, Nt.of h1 h2 (by omega), h3, Far.of h1⟩

theorem nt_mul (a b : Value) (x y : Nat) (w : World) (ha : Nt w a x) (hb : Nt w b y) (hx : Sm x) (hy : Sm y) : Calls Tryz.prog 88 #[a, b] w (NtPost w (x * y)) := by
  obtain ⟨o, c, xs, rfl, h1, h2, h3, h4⟩ := ha
  obtain ⟨o', c', ys, rfl, h1', h2', h3', h4'⟩ := hb
  have l1 := is_len h4 hx
  have l2 := is_len h4' hy
  refine (mul_any o o' _ c _ c' xs ys w h1 (by omega) h1' (by omega) rfl rfl h3 h3' h4.1 h4'.1).mono ?_
  rintro e w' ⟨v, r, rfl, g1, g2, g3⟩
  rw [h4.2.2, h4'.2.2] at g2
  exact ⟨v, rfl, Nt.of g1 g2 (by omega), g3, Far.of g1⟩

def NtDiv (w : World) (q r : Nat) (e : Ending) (w' : World) : Prop := ∃ v1 v2, e = .returned (.tuple #[v1, v2, .int .i64 0]) ∧ Nt w' v1 q ∧ Nt w' v2 r ∧ Below w.heap.size w w'

theorem nt_div (a b : Value) (x y : Nat) (w : World) (ha : Nt w a x) (hb : Nt w b y) (hx : Sm x) (hy : Sm y) (h0 : y ≠ 0) : Calls Tryz.prog 81 #[a, b] w (NtDiv w (x / y) (x % y)) := by
  obtain ⟨o, c, xs, rfl, h1, h2, h3, h4⟩ := ha
  obtain ⟨o', c', ys, rfl, h1', h2', h3', h4'⟩ := hb
  have l1 := is_len h4 hx
  have l2 := is_len h4' hy
  refine (divmod_any o o' _ c _ c' xs ys w h1 (by omega) h1' (by omega) rfl rfl h3 h3' h4.1 h4'.1 (by rw [h4'.2.2]; exact h0)).mono ?_
  rintro e w' ⟨v1, r1, v2, r2, rfl, g1, g2, g3, g4, g5, _⟩
  rw [h4.2.2, h4'.2.2] at g3 g4
  exact ⟨v1, v2, rfl, Nt.of g1 g3 (by omega), Nt.of g2 g4 (by omega), g5⟩

def NtErr (w : World) (n : Nat) (er : Int) (e : Ending) (w' : World) : Prop := ∃ v, e = .returned (.tuple #[v, .int .i64 er]) ∧ Nt w' v n ∧ Below w.heap.size w w' ∧ Far w.heap.size v

theorem nt_cmp (a b : Value) (x y : Nat) (z : Int) (w : World) (ha : Nt w a x) (hb : Nt w b y) (hx : Sm x) (hy : Sm y) (hz : cmpN x y = z) : Calls Tryz.prog 84 #[a, b] w fun e w' => e = .returned (.int .i64 z) ∧ Below w.heap.size w w' := by
  obtain ⟨o, c, xs, rfl, h1, h2, h3, h4⟩ := ha
  obtain ⟨o', c', ys, rfl, h1', h2', h3', h4'⟩ := hb
  have l1 := is_len h4 hx
  have l2 := is_len h4' hy
  exact cmp_num o o' _ c _ c' xs ys w (by omega) (by omega) rfl rfl h3 h3' h4.1 h4'.1 z (by rw [h4.2.2, h4'.2.2]; exact hz)

theorem nt_text (a : Value) (x : Nat) (w : World) (ha : Nt w a x) (htab : Tab w) : Calls Tryz.prog 87 #[a] w fun e w' => e = .returned (.string ⟨(Lib.decDigits x).toArray⟩) ∧ Below w.heap.size w w' := by
  obtain ⟨o, c, xs, rfl, h1, h2, h3, h4⟩ := ha
  have h := text_any o _ c xs w h1 (by omega) rfl h3 h4.1 htab
  rw [h4.2.2] at h
  exact h

theorem nt_pow10 (n : Int) (k : Nat) (w : World) (hn : n = (k : Int)) (hk : k ≤ 8192) : Calls Tryz.prog 139 #[.int .i64 n] w (NtErr w (10 ^ k) 0) := by
  subst hn
  refine (pow10_in k w hk).mono ?_
  rintro e w' ⟨v, r, rfl, g1, g2, g3⟩
  exact ⟨v, rfl, Nt.of g1 g2 (by omega), g3, Far.of g1⟩

end Go.Proofs.YtckijnlolmbdiaaGreatDoor

namespace Go.Proofs.YtckijnlolmbdiaaGreatDoor
open Go.RowKit

def zv (neg : Bool) (n : Nat) : Int := if neg then -(n : Int) else (n : Int)

section
variable {w w' : World} {b : Nat} {x y : Value} {t : TypeId}
end

end Go.Proofs.YtckijnlolmbdiaaGreatDoor

namespace Go.Proofs.YtckijnlolmbdiaaGreatDoor
open Go.RowKit

end Go.Proofs.YtckijnlolmbdiaaGreatDoor
