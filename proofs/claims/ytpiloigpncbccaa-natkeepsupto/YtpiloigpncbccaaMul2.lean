/-
  What nat.Mul does: the product, in memory of its own.
-/
import Derived.Test.YtpiloigpncbccaaMul
namespace Go.Proofs.Ytpiloigpncbccaa
open Go.RowKit

/-- Behind i rounds of Mul. -/
structure MulInv (w : World) (n p : Nat) (x : Nat → Nat) (ny i : Nat) (wr : World) : Prop where
  bel : Below w.heap.size w wr
  row : ∃ r, Row .u64 33 wr w.heap.size r ∧ r.length = n ∧ Ok B64 r ∧ (∀ j, i + p ≤ j → dg r j = 0) ∧ num B64 r = V B64 x i * ny

theorem MulInv.step {w wr wr' : World} {n p ny i : Nat} {x : Nat → Nat} {r r' : List Nat} (hb : Below w.heap.size w wr) (hl : r.length = n) (hz : ∀ j, i + p ≤ j → dg r j = 0) (hn : num B64 r = V B64 x i * ny)
    (hg : wr.grownBy wr' (some w.heap.size)) (hr' : Row .u64 33 wr' w.heap.size r') (hl' : r'.length = r.length) (ho' : Ok B64 r') (hz' : ∀ j, i + p + 1 ≤ j → dg r' j = dg r j) (hn' : num B64 r' = num B64 r + ny * x i * B64 ^ i) :
    MulInv w n p x ny (i + 1) wr' := by
  refine ⟨hb.grown hg hb.size (fun k hk => by simp only [Option.some.injEq] at hk; omega), r', hr', by omega, ho', ?_, ?_⟩
  · intro j hj
    rw [hz' j (by omega)]; exact hz j (by omega)
  · rw [hn', hn]
    simp only [V]
    rw [Nat.add_mul, Nat.mul_comm ny, Nat.mul_assoc (x i), Nat.mul_assoc (x i), Nat.mul_comm (B64 ^ i) ny]

set_option maxHeartbeats 4000000 in
theorem mul_at (b o m ca p cb : Nat) (bo : Option Addr) (xt yt : List Nat) (w : World) (hm : m ≤ 10000000000) (hp : p ≤ 10000000000) (hx : xt.length = m) (hy : yt.length = p) (hb : b < w.heap.size)
    (hcell : ∀ i, i < xt.length → w.cell? ⟨b, o + i, none⟩ = some (.int .u64 ((dg xt i : Nat) : Int))) (ox : Ok B64 xt) (ay : At .u64 w bo yt) (oy : Ok B64 yt)
    (la lb ca' cb' : Nat)
    (c1 : ∀ w' : World, w'.heap = w.heap → Calls Try.prog 15 #[.slice (some ⟨b, o, none⟩) la ca'] w' fun e w'' => e = .returned (.slice (some ⟨b, o, none⟩) m ca) ∧ w' = w'')
    (c2 : ∀ w' : World, w'.heap = w.heap → Calls Try.prog 15 #[.slice bo lb cb'] w' fun e w'' => e = .returned (.slice bo p cb) ∧ w' = w'') :
    Calls Try.prog 11 #[.slice (some ⟨b, o, none⟩) la ca', .slice bo lb cb'] w (NatPost w (m + p) (num B64 xt * num B64 yt)) := by
  obtain ⟨i0, hi, hz0, hz1, hz2⟩ := info_parts Try.infoU
  have C1 : Hid (∀ w' : World, w'.heap = w.heap → Calls Try.prog 15 #[.slice (some ⟨b, o, none⟩) la ca'] w' fun e w'' => e = .returned (.slice (some ⟨b, o, none⟩) m ca) ∧ w' = w'') := c1
  have C2 : Hid (∀ w' : World, w'.heap = w.heap → Calls Try.prog 15 #[.slice bo lb cb'] w' fun e w'' => e = .returned (.slice bo p cb) ∧ w' = w'') := c2
  clear c1 c2
  go_enter Try.func11, Try.ntmps11
  go_wp2_with fail
  refine (C1.out _ rfl).mono ?_
  rintro e w' ⟨rfl, rfl⟩
  go_wp2_with fail
  refine (C2.out _ rfl).mono ?_
  rintro e w' ⟨rfl, rfl⟩
  go_wp2_with (at_make; refine wpList_make_full _ rfl _ _ 22 rfl w.heap.size 33 i0 (.int .u64 0) 1 Try.underlying22 hi hz0 hz1 _ _ _ _ (m + p) rfl rfl (by omega) (by omega) (by rw [hz2]; omega) (by unfold maxLen; omega) (Nat.le_refl _) ?_)
  intro w1 hown hgrow
  have hr1 : Row .u64 33 w1 w.heap.size (List.replicate (m + p) 0) := Row.made hown
  have hb1 : Below w.heap.size w w1 := (Below.refl _ _).grown hgrow (Nat.le_refl _) (fun k hk => by cases hk)
  clear hown hgrow
  go_wp2
  go_loopw [6, 7, 20] (fun _ _ i wr => ∃ k : Nat, k ≤ m ∧ i = .int .i64 k ∧ MulInv w (m + p) p (dg xt) (num B64 yt) k wr) (fun _ _ i _ => m - (intOf i).toNat)
  case atStart => exact ⟨0, Nat.zero_le _, rfl, hb1, _, hr1, by simp, Ok.replicate (by decide) _, fun j _ => dg_replicate _ j, by rw [num_replicate]; simp [V]⟩
  case round =>
    obtain ⟨k, hk, rfl, hinv⟩ := hrel
    by_cases hlt : k < m
    · obtain ⟨r, hr, hrl, hro, hrz, hrn⟩ := hinv.row
      have hbr := hinv.bel
      have c0 : wr.cell? ⟨b, o + k, none⟩ = some (.int .u64 ((dg xt k : Nat) : Int)) := (hbr.cell hb).trans (hcell k (by omega))
      have e0 : (k : Int) < (m : Int) := by omega
      have hst := fun wr' r' a1 a2 a3 a4 a5 a6 => MulInv.step (wr' := wr') (r' := r') hbr hrl hrz hrn a1 a2 a3 a4 a5 a6
      have ayr : At .u64 wr bo yt := ay.below hbr
      have hng : ∀ b o, yt ≠ [] → bo = some ⟨b, o, none⟩ → b ≠ w.heap.size := by
        intro b o hne e
        rcases ay with h | ⟨b', o', h1, h2, _⟩
        · exact absurd h hne
        · rw [e] at h1; simp only [Option.some.injEq, Addr.mk.injEq] at h1; omega
      obtain ⟨x, hxk⟩ : ∃ x, x = dg xt k := ⟨_, rfl⟩
      have hxb : x < B64 := by rw [hxk]; exact ox k
      rw [← hxk] at c0 hst
      have ad := addTimes_any w.heap.size k p (m + p - k) cb x bo r yt wr (by omega) hy ayr oy hxb hr hro (by omega) (hrz _ (Nat.le_refl _)) hng
      have AD : Hid (Calls Try.prog 26 #[.slice (some ⟨w.heap.size, k, none⟩) (p + 1) (m + p - k), .slice bo p cb, .int .u64 (x : Int)] wr (TimesPost wr w.heap.size r (num B64 yt * x * B64 ^ k) (k + p + 1))) := ad
      have HS : Hid (∀ wr' r', wr.grownBy wr' (some w.heap.size) → Row .u64 33 wr' w.heap.size r' → r'.length = r.length → Ok B64 r' → (∀ j, k + p + 1 ≤ j → dg r' j = dg r j) → num B64 r' = num B64 r + num B64 yt * x * B64 ^ k → MulInv w (m + p) p (dg xt) (num B64 yt) (k + 1) wr') := hst
      have hne : ¬ (m + p = k) := by omega
      have hle : (k : Int) + (p : Int) + 1 ≤ ((m + p : Nat) : Int) := by omega
      clear hxk hst hinv hr hrl hro hrz hrn hcell ox ad ayr hng
      go_wp2_with fail
      rw [show k + p + 1 - k = p + 1 by omega]
      refine AD.out.mono ?_
      rintro e w2 ⟨rfl, hgr, r', a1, a2, a3, a4, a5⟩
      have hinv' := HS.out _ _ hgr a1 a2 a3 a4 a5
      clear hgr a1 a2 a3 a4 a5
      go_wp2
      go_roundw
      case rel => exact ⟨k + 1, by omega, by go_num, hinv'⟩
      case measure => simp [intOf]; omega
    · obtain rfl : k = m := by omega
      obtain ⟨r, hr, hrl, hro, hrz, hrn⟩ := hinv.row
      have hbel := hinv.bel
      obtain ⟨q, hq⟩ : ∃ q, q = (trimmed r).length := ⟨_, rfl⟩
      have HQ : Hid ((trimmed r).length = q) := hq.symm
      have HL : Hid (r.length = k + p) := hrl
      have HR : Hid (num B64 r = num B64 xt * num B64 yt) := by rw [← hx] at hrn; exact hrn
      clear hq hrl hrn hrz hinv
      go_wp2_with fail
      refine (trim_to _ _ _ q r _ (Nat.le_refl _) (by omega) HL.out hr.at HQ.out).mono ?_
      rintro e w' ⟨rfl, rfl⟩
      go_wp2
      go_ret
      refine ⟨_, trimmed r, rfl, .inr ⟨w.heap.size, r, ?_, Nat.le_refl _, hr, ?_, ?_⟩, ?_, hbel⟩
      · rw [HL.out, HQ.out]; rfl
      · rw [length_trimmed]; rfl
      · rw [HL.out]; exact Nat.le_refl _
      · rw [← HR.out]; exact Is.trimmed hro

set_option maxHeartbeats 4000000 in
theorem mul_nil (ao bo : Option Addr) (ca p cb : Nat) (w : World) (hp : p ≤ 10000000000)
    (la lb ca' cb' : Nat)
    (c1 : ∀ w' : World, w'.heap = w.heap → Calls Try.prog 15 #[.slice ao la ca'] w' fun e w'' => e = .returned (.slice ao 0 ca) ∧ w' = w'')
    (c2 : ∀ w' : World, w'.heap = w.heap → Calls Try.prog 15 #[.slice bo lb cb'] w' fun e w'' => e = .returned (.slice bo p cb) ∧ w' = w'') :
    Calls Try.prog 11 #[.slice ao la ca', .slice bo lb cb'] w (NatPost w p 0) := by
  obtain ⟨i0, hi, hz0, hz1, hz2⟩ := info_parts Try.infoU
  have C1 : Hid (∀ w' : World, w'.heap = w.heap → Calls Try.prog 15 #[.slice ao la ca'] w' fun e w'' => e = .returned (.slice ao 0 ca) ∧ w' = w'') := c1
  have C2 : Hid (∀ w' : World, w'.heap = w.heap → Calls Try.prog 15 #[.slice bo lb cb'] w' fun e w'' => e = .returned (.slice bo p cb) ∧ w' = w'') := c2
  clear c1 c2
  go_enter Try.func11, Try.ntmps11
  go_wp2_with fail
  refine (C1.out _ rfl).mono ?_
  rintro e w' ⟨rfl, rfl⟩
  go_wp2_with fail
  refine (C2.out _ rfl).mono ?_
  rintro e w' ⟨rfl, rfl⟩
  go_wp2_with (at_make; refine wpList_make_full _ rfl _ _ 22 rfl w.heap.size 33 i0 (.int .u64 0) 1 Try.underlying22 hi hz0 hz1 _ _ _ _ p rfl rfl (by omega) (by omega) (by rw [hz2]; omega) (by unfold maxLen; omega) (Nat.le_refl _) ?_)
  intro w1 hown hgrow
  have hr1 : Row .u64 33 w1 w.heap.size (List.replicate p 0) := Row.made hown
  have hb1 : Below w.heap.size w w1 := (Below.refl _ _).grown hgrow (Nat.le_refl _) (fun k hk => by cases hk)
  clear hown hgrow
  obtain ⟨r, hrr⟩ : ∃ r, r = List.replicate p 0 := ⟨_, rfl⟩
  obtain ⟨q, hq⟩ : ∃ q, q = (trimmed r).length := ⟨_, rfl⟩
  have HQ : Hid ((trimmed r).length = q) := hq.symm
  have HL : Hid (r.length = p) := by rw [hrr]; simp [Hid]
  have HR : Hid (num B64 r = 0) := by rw [hrr]; exact num_replicate _ _
  have hro : Ok B64 r := by rw [hrr]; exact Ok.replicate (by decide) _
  rw [← hrr] at hr1
  clear hq hrr
  go_wp2
  refine wp_loop_rounds 1 ?_
  rw [rounds_succ]
  go_wp2_with fail
  refine (trim_to _ _ _ q r _ (Nat.le_refl _) (by omega) HL.out hr1.at HQ.out).mono ?_
  rintro e w' ⟨rfl, rfl⟩
  go_wp2
  go_ret
  refine ⟨_, trimmed r, rfl, .inr ⟨w.heap.size, r, ?_, Nat.le_refl _, hr1, ?_, ?_⟩, ?_, hb1⟩
  · rw [HL.out, HQ.out]; rfl
  · rw [length_trimmed]; rfl
  · rw [HL.out]; exact Nat.le_refl _
  · have := Is.trimmed hro
    rw [HR.out] at this; exact this

theorem At.same {k : IntKind} {w w' : World} {ao : Option Addr} {xs : List Nat} (h : At k w ao xs) (hh : w'.heap = w.heap) : At k w' ao xs := by
  rcases h with h | ⟨b, o, h1, h2, h3⟩
  · exact .inl h
  · exact .inr ⟨b, o, h1, by rw [hh]; exact h2, fun i hi => (World.cell?_of_block (w := w) (by rw [hh])).trans (h3 i hi)⟩

theorem mul_any (ao bo : Option Addr) (la ca lb cb : Nat) (xs ys : List Nat) (w : World) (hla : la ≤ ca) (hca : la ≤ 10000000000 ∧ ca ≤ 9223372036854775807) (hlb : lb ≤ cb) (hcb : lb ≤ 10000000000 ∧ cb ≤ 9223372036854775807)
    (hx : xs.length = la) (hy : ys.length = lb) (hax : At .u64 w ao xs) (hay : At .u64 w bo ys) (ox : Ok B64 xs) (oy : Ok B64 ys) :
    Calls Try.prog 11 #[.slice ao la ca, .slice bo lb cb] w (NatPost w (la + lb) (num B64 xs * num B64 ys)) := by
  have l1 := length_trimmed_le xs
  have l2 := length_trimmed_le ys
  have c2 := fun (w' : World) (h : w'.heap = w.heap) => trim_to bo lb cb (trimmed ys).length ys w' hlb (by omega) hy (hay.same h) rfl
  rw [← num_trimmed B64 xs, ← num_trimmed B64 ys]
  rcases hax.trimmed with h | ⟨b, o, h1, h2, h3⟩
  · have c1 := fun (w' : World) (h' : w'.heap = w.heap) => trim_to ao la ca 0 xs w' hla (by omega) hx (hax.same h') (by rw [h]; rfl)
    refine (mul_nil ao bo ca (trimmed ys).length cb w (by omega) la lb ca cb c1 c2).mono ?_
    rintro e w' ⟨v, r, e1, e2, e3, e4⟩
    refine ⟨v, r, e1, e2.mono (Nat.le_refl _) (by omega), ?_, e4⟩
    rw [h, show num B64 [] = 0 from rfl, Nat.zero_mul]; exact e3
  · subst h1
    have c1 := fun (w' : World) (h' : w'.heap = w.heap) => trim_to _ la ca (trimmed xs).length xs w' hla (by omega) hx (hax.same h') rfl
    refine (mul_at b o (trimmed xs).length ca (trimmed ys).length cb bo (trimmed xs) (trimmed ys) w (by omega) (by omega) rfl rfl h2 h3 (trimmed_ok ox) hay.trimmed (trimmed_ok oy) la lb ca cb c1 c2).mono ?_
    rintro e w' ⟨v, r, e1, e2, e3, e4⟩
    exact ⟨v, r, e1, e2.mono (Nat.le_refl _) (by omega), e3, e4⟩

end Go.Proofs.Ytpiloigpncbccaa
