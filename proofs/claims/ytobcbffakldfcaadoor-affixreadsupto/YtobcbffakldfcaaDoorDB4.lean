/-
  What affix's gathering keeps where a token is kept already.
  What is printed is read as it was: the mathematics.
  Tokens that are gathered: those that are kept tell as much as all of them.
  What affix's add answers.
  What affix's Parse answers.
  Tokens that are appended to a list of the call's own.
  The reference's one, Check, Has and Turn.
-/
import Derived.Test.YtobcbffakldfcaaDoorDB3
import Derived.WalkMore
import Derived.Laws.AppendOwnNone
namespace Go.Proofs.YtobcbffakldfcaaDoor
open Go.RowKit

theorem cellsT_mer (p : List Tok) (a t : Tok) (m : Nat) (hm : p.length = m) : ((cellsT (p ++ [a])).set (m * 3 + 2) (.string (a.text ++ t.text))).set (m * 3 + 1) (.int .i64 (a.many + t.many)) = cellsT (p ++ [merT a t]) := by
  rw [cellsT_snoc, cellsT_snoc]
  have hl := cellsT_len p
  rw [hm] at hl
  rw [← hl]
  simp [merT]
theorem cellsT_last (p : List Tok) (a : Tok) (m : Nat) (hm : p.length = m) : (cellsT (p ++ [a]))[m * 3]? = some (.int .i64 a.kind) ∧ (cellsT (p ++ [a]))[m * 3 + 1]? = some (.int .i64 a.many) ∧ (cellsT (p ++ [a]))[m * 3 + 2]? = some (.string a.text) := by
  rw [cellsT_snoc]
  have hl := cellsT_len p
  rw [hm] at hl
  rw [← hl]
  simp
theorem own_some {w : World} {B n : Nat} {v : Value} {xs : List Value} (h : w.ownsRow B 32 3 v n xs) (hn : n ≠ 0) : ∃ g cap, v = .slice (some ⟨g, 0, none⟩) n cap ∧ B ≤ g ∧ g < w.heap.size := by
  rcases h.2 with ⟨_, q⟩ | ⟨g, cap, cur, hv, hb, hg, _⟩
  · exact absurd q hn
  · exact ⟨g, cap, hv, hb, (Array.getElem?_eq_some_iff.1 hg).1⟩
set_option maxRecDepth 100000 in
set_option maxHeartbeats 4000000 in
theorem keep_more {w : World} {D : Nat} {v : Value} (p : List Tok) (a t : Tok) (sz co : Int) (h : GatV w D v (p ++ [a]) sz co) (hp : p.length ≤ 64) (hs0 : 0 ≤ sz) (hs1 : sz ≤ 1000) (ht : t.text.size ≤ 1000) (ha : a.text.size ≤ 1000) (hm0 : -1000 ≤ a.many) (hm1 : a.many ≤ 1000) (hn0 : -1000 ≤ t.many) (hn1 : t.many ≤ 1000) :
    Calls Tryd.prog 54 #[.pointer (some ⟨D, 0, none⟩), tokV t] w fun e w' => e = .returned (.tuple #[]) ∧ Gat w' D (if joinT a t then p ++ [merT a t] else p ++ [a] ++ [t]) (sz + t.text.size) co ∧ Below D w w' ∧ Oth D v.ownBlock w w' := by
  obtain ⟨i0, hi, hz0, hz1, hz2⟩ := info_parts infoT
  obtain ⟨h1, h2⟩ := h
  have hDw := h1.lt
  obtain ⟨g, cap, rfl, hg0, hg1⟩ := own_some h2 (by simp)
  rw [show (Value.slice (some ⟨g, 0, none⟩) (p ++ [a]).length cap).ownBlock = some g from rfl]
  obtain ⟨m, hm⟩ : ∃ m, m = p.length := ⟨_, rfl⟩
  obtain ⟨n, hn⟩ : ∃ n, n = (p ++ [a]).length := ⟨_, rfl⟩
  have hnm : n = m + 1 := by rw [hn, hm]; simp
  have HLP := hide hm.symm
  rw [← hm] at hp
  rw [← hn] at h1 h2
  clear hm hn
  obtain ⟨xs, hxs⟩ : ∃ xs, xs = cellsT (p ++ [a]) := ⟨_, rfl⟩
  have HX := hide hxs
  rw [← hxs] at h2
  have XL : Hid (xs[m * 3]? = some (.int .i64 a.kind) ∧ xs[m * 3 + 1]? = some (.int .i64 a.many) ∧ xs[m * 3 + 2]? = some (.string a.text)) := hide (by rw [hxs]; exact cellsT_last p a m HLP.out)
  clear hxs
  obtain ⟨k, nn, x⟩ := t
  obtain ⟨ka, na, y⟩ := a
  obtain ⟨J, hJ⟩ : ∃ J, J = joinT ⟨ka, na, y⟩ ⟨k, nn, x⟩ := ⟨_, rfl⟩
  have HJ := hide hJ
  rw [← hJ]
  clear hJ
  unfold tokV
  simp only at ht ha hm0 hm1 hn0 hn1 XL ⊢
  have HK := hide h1
  have H2 := hide h2
  have H1 := hide (h1.alloc (.cells #[.int .i64 k, .int .i64 nn, .string x] 32))
  have c0 := H1.out.cell 0
  have c1 := H1.out.cell 1
  have c2 := H1.out.cell 2
  have f0 := H1.out.free 0
  have f1 := H1.out.free 1
  have n1 : ¬ w.heap.size = D := by omega
  have n2 : ¬ D = w.heap.size := by omega
  clear h1 h2
  go_enter Tryd.func54, Tryd.ntmps54
  go_wp2_with fail
  go_region
  obtain ⟨W1, hW1⟩ : ∃ W1, W1 = ((w.setCell ⟨D, 1, none⟩ (.int .i64 (sz + (x.size : Int)))).alloc (.cells #[.int .i64 k, .int .i64 nn, .string x] 32)).drew := ⟨_, rfl⟩
  simp only [← hW1]
  have K1 : Hid (Blk W1 D #[.slice (some ⟨g, 0, none⟩) n cap, .int .i64 (sz + (x.size : Int)), .int .i64 co] 56) := hide (by rw [hW1]; exact (HK.out.set1of3 _).alloc _)
  have K2 : Hid (Blk W1 w.heap.size #[.int .i64 k, .int .i64 nn, .string x] 32) := hide (by rw [hW1]; exact Blk.newAt _ _ (by simp [World.setCell]) _ _)
  have K3 : Hid (W1.ownsRow (D + 1) 32 3 (.slice (some ⟨g, 0, none⟩) n cap) n xs) := hide (by
    rw [hW1]
    have q := own_set (i := 1) (u := .int .i64 (sz + (x.size : Int))) H2.out (Nat.lt_succ_self D)
    exact own_below q ((Below.refl _ _).alloc (Nat.le_refl _) _).drew)
  have O1 : Hid (Oth D (some g) w W1) := hide (by
    rw [hW1]
    exact (((Oth.refl _ _ _).set D 1 _ (.inl rfl)).alloc _).drew)
  have K4 : Hid (Below D w W1 ∧ w.heap.size < W1.heap.size) := hide (by
    rw [hW1]
    exact ⟨(((Below.refl D w).setCell (p := ⟨D, 1, none⟩) (Nat.le_refl _) _).alloc (by simp [World.setCell]; omega) _).drew, by simp [World.alloc, World.drew, World.setCell]⟩)
  clear hW1 H1 c0 c1 c2 f0 f1 HK H2
  have c0 := K1.out.cell 0
  have d0 := K2.out.cell 0
  have d1 := K2.out.cell 1
  have d2 := K2.out.cell 2
  have e0 : W1.cell? ⟨g, m * 3, none⟩ = some (.int .i64 ka) := (K3.out.cellAt (m * 3) (by omega)).trans XL.out.1
  have e1 : W1.cell? ⟨g, m * 3 + 1, none⟩ = some (.int .i64 na) := (K3.out.cellAt (m * 3 + 1) (by omega)).trans XL.out.2.1
  have e2 : W1.cell? ⟨g, m * 3 + 2, none⟩ = some (.string y) := (K3.out.cellAt (m * 3 + 2) (by omega)).trans XL.out.2.2
  have KP : Hid (∀ w', Below W1.heap.size W1 w' → w'.cell? ⟨D, 0, none⟩ = some (.slice (some ⟨g, 0, none⟩) n cap) ∧ (w'.cell? ⟨g, m * 3, none⟩ = some (.int .i64 ka) ∧ w'.cell? ⟨g, m * 3 + 1, none⟩ = some (.int .i64 na) ∧ w'.cell? ⟨g, m * 3 + 2, none⟩ = some (.string y)) ∧ w'.cell? ⟨w.heap.size, 0, none⟩ = some (.int .i64 k) ∧ w'.cell? ⟨w.heap.size, 1, none⟩ = some (.int .i64 nn) ∧ w'.cell? ⟨w.heap.size, 2, none⟩ = some (.string x)) := hide (fun w' hb => ⟨cell_on hb c0, ⟨cell_on hb e0, cell_on hb e1, cell_on hb e2⟩, cell_on hb d0, cell_on hb d1, cell_on hb d2⟩)
  have C1 : Hid (∀ X, Hid (Below W1.heap.size W1 X) → Calls Tryd.prog 27 #[.agg #[.int .i64 ka, .int .i64 na, .string y], .agg #[.int .i64 k, .int .i64 nn, .string x]] X fun x' w' => x' = .returned (.bool J) ∧ Hid (Below W1.heap.size W1 w') ∧ w'.cell? ⟨D, 0, none⟩ = some (.slice (some ⟨g, 0, none⟩) n cap) ∧ (w'.cell? ⟨g, m * 3, none⟩ = some (.int .i64 ka) ∧ w'.cell? ⟨g, m * 3 + 1, none⟩ = some (.int .i64 na) ∧ w'.cell? ⟨g, m * 3 + 2, none⟩ = some (.string y)) ∧ w'.cell? ⟨w.heap.size, 0, none⟩ = some (.int .i64 k) ∧ w'.cell? ⟨w.heap.size, 1, none⟩ = some (.int .i64 nn) ∧ w'.cell? ⟨w.heap.size, 2, none⟩ = some (.string x)) := hide (fun X hX => (join_any ⟨ka, na, y⟩ ⟨k, nn, x⟩ X).mono fun x w' ⟨h1, h2⟩ => by
    have hb := hX.out.trans (h2.mono hX.out.size)
    rw [← HJ.out] at h1
    exact ⟨h1, hb, KP.out w' hb⟩)
  have b0 : Hid (Below W1.heap.size W1 W1.drew) := hide (Below.refl _ _).drew
  have hn1' : (1 : Int) ≤ (n : Int) := by omega
  have hnb : (n : Int) ≤ 100 := by omega
  have hmn : (m : Int) < (n : Int) := by omega
  have hm0' : (0 : Int) ≤ (m : Int) := by omega
  have EM : Hid ((n : Int) - 1 = (m : Int)) := hide (by omega)
  clear hnm KP
  go_wp2_with fail
  rw [EM.out]
  have mk0 : True := trivial
  go_region_held3 (fun w' => w'.cell? ⟨D, 0, none⟩ = some (.slice (some ⟨g, 0, none⟩) n cap) ∧ (w'.cell? ⟨g, m * 3, none⟩ = some (.int .i64 ka) ∧ w'.cell? ⟨g, m * 3 + 1, none⟩ = some (.int .i64 na) ∧ w'.cell? ⟨g, m * 3 + 2, none⟩ = some (.string y)) ∧ w'.cell? ⟨w.heap.size, 0, none⟩ = some (.int .i64 k) ∧ w'.cell? ⟨w.heap.size, 1, none⟩ = some (.int .i64 nn) ∧ w'.cell? ⟨w.heap.size, 2, none⟩ = some (.string x)) (go_keep) (first
    | (clear mk0; go_at_call 27; refine (C1.out _ b0).mono ?_; rintro x' z1 ⟨rfl, P1, t0, ⟨t1, t2, t3⟩, t4, t5, t6⟩; have mk1 : True := trivial))
  have L1 := hide (K1.out.below P1.out K1.out.lt)
  have L2 := hide (K2.out.below P1.out K2.out.lt)
  have L3 := hide (own_below K3.out P1.out)
  have L4 : Hid (Below D w z1 ∧ w.heap.size < z1.heap.size) := hide (by
    have := P1.out.size
    have := K4.out.2
    exact ⟨K4.out.1.trans (P1.out.mono (by omega)), by omega⟩)
  have OZ := hide (O1.out.below P1.out)
  have hgz : g < z1.heap.size := by have := L4.out.2; omega
  have q1 : ¬ g = D := by omega
  have q2 : ¬ D = g := by omega
  have q3 : ¬ g = w.heap.size := by omega
  have q4 : ¬ w.heap.size = g := by omega
  clear K1 K2 K3 K4 O1 C1 b0 P1 mk1 c0 d0 d1 d2 e0 e1 e2 t0 t1 t2 t3 t4 t5 t6
  cases J
  · have c0 := L1.out.cell 0
    have d2 := L2.out.cell 2
    have HCl := hide (sclone_any x z1 (by omega))
    have NB : Hid (∀ q, (Value.slice (some ⟨g, 0, none⟩) n cap).ownBlock = some q → q = g) := hide (fun q hq => by simpa [Value.ownBlock] using hq.symm)
    go_wp2_with fail
    refine HCl.out.mono ?_
    rintro e w2 ⟨rfl, hb⟩
    obtain ⟨W3, hW3⟩ : ∃ W3, W3 = w2.setCell ⟨w.heap.size, 2, none⟩ (.string x) := ⟨_, rfl⟩
    have M1 : Hid (Blk W3 D #[.slice (some ⟨g, 0, none⟩) n cap, .int .i64 (sz + (x.size : Int)), .int .i64 co] 56) := hide (by rw [hW3]; exact (L1.out.below hb L1.out.lt).other (a := ⟨w.heap.size, 2, none⟩) n1 _)
    have P2 := hide (L2.out.below hb L2.out.lt)
    have M2 : Hid (Blk W3 w.heap.size #[.int .i64 k, .int .i64 nn, .string x] 32) := hide (by rw [hW3]; exact P2.out.set2of3 _)
    have M4 : Hid (Below D w W3 ∧ w.heap.size < W3.heap.size) := hide (by
      rw [hW3]
      refine ⟨(L4.out.1.trans (hb.mono (Nat.le_of_lt (Nat.lt_of_lt_of_le hDw (Nat.le_of_lt L4.out.2))))).setCell (p := ⟨w.heap.size, 2, none⟩) (Nat.le_of_lt hDw) _, ?_⟩
      have := hb.size
      have := L4.out.2
      simp only [World.setCell, Array.size_modify]
      omega)
    have O3 : Hid (Oth D (some g) w W3) := hide (by
      rw [hW3]
      exact (OZ.out.below hb).set w.heap.size 2 _ (.inr (.inl (Nat.le_refl _))))
    have M3 : Hid (W3.ownsRow (D + 1) 32 3 (.slice (some ⟨g, 0, none⟩) n cap) n xs) := hide (by
      rw [hW3]
      have q := own_below L3.out hb
      exact q.kept (row := some w.heap.size) ⟨rfl, rfl, rfl, by simp [World.setCell], fun j _ hj => by
        have : w.heap.size ≠ j := fun e => hj (by rw [e])
        simp [World.setCell, Array.getElem?_modify, this]⟩ (Or.inr (fun e => q4 (NB.out _ e))))
    have HW3 := hide hW3.symm
    have p2 := P2.out.cell 2
    have g2 := P2.out.free 2
    clear hb HCl L1 L2 L3 L4 OZ P2 hW3 c0 d2 hgz
    have c0 := M1.out.cell 0
    have d0 := M2.out.cell 0
    have d1 := M2.out.cell 1
    have d2 := M2.out.cell 2
    have hW3s : w.heap.size < W3.heap.size := M4.out.2
    have m1 : ¬ D = W3.heap.size := by omega
    have m2 : ¬ W3.heap.size = D := by omega
    have OW : Hid ((W3.alloc (.cells #[.int .i64 k, .int .i64 nn, .string x] 32)).drew.ownsRow (D + 1) 32 3 (.slice (some ⟨g, 0, none⟩) n cap) n xs) := hide (own_below M3.out ((Below.refl _ _).alloc (Nat.le_refl _) _).drew)
    have TB : Hid (Blk (W3.alloc (.cells #[.int .i64 k, .int .i64 nn, .string x] 32)).drew W3.heap.size #[.int .i64 k, .int .i64 nn, .string x] 32) := hide (Blk.newAt W3 W3.heap.size rfl _ _)
    have NEWS : Hid (∀ j u, (cellsT [(⟨k, nn, x⟩ : Tok)])[j]? = some u → (W3.alloc (.cells #[.int .i64 k, .int .i64 nn, .string x] 32)).drew.cell? ((⟨W3.heap.size, 0, none⟩ : Addr).add j) = some u) := hide (fun j u hj => by
      rw [Addr.add_lit, Nat.zero_add, TB.out.cell j, ← hj]
      show _ = [Value.int .i64 k, .int .i64 nn, .string x][j]?
      simp)
    have ONE : Hid (∀ u ∈ cellsT [(⟨k, nn, x⟩ : Tok)], u.oneCell' = true) := hide (fun u hu => by
      have : u ∈ [Value.int .i64 k, .int .i64 nn, .string x] := hu
      simp only [List.mem_cons, List.not_mem_nil, or_false] at this
      rcases this with rfl | rfl | rfl <;> rfl)
    have f0 := M1.out.free 0
    have BASE : Hid (D + 1 ≤ (W3.alloc (.cells #[.int .i64 k, .int .i64 nn, .string x] 32)).drew.heap.size) := hide (by show D + 1 ≤ (W3.heap.push _).size; rw [Array.size_push]; omega)
    have GK : Hid (∀ w4, (W3.alloc (.cells #[.int .i64 k, .int .i64 nn, .string x] 32)).drew.grownBy w4 (Value.slice (some ⟨g, 0, none⟩) n cap).ownBlock → Blk w4 D #[.slice (some ⟨g, 0, none⟩) n cap, .int .i64 (sz + (x.size : Int)), .int .i64 co] 56) := hide (fun w4 hg => by
      have q := M1.out.alloc (.cells #[.int .i64 k, .int .i64 nn, .string x] 32)
      unfold Blk at *
      rw [hg.block D (by show D < (W3.heap.push _).size; rw [Array.size_push]; omega) (fun e => by have := (World.ownsRow.lt M3.out _ e.symm).1; omega)]
      exact q)
    have FR : Hid (∀ w4, (W3.alloc (.cells #[.int .i64 k, .int .i64 nn, .string x] 32)).drew.grownBy w4 (Value.slice (some ⟨g, 0, none⟩) n cap).ownBlock → Below D w w4) := hide (fun w4 hg => (M4.out.1.trans (((Below.refl _ _).alloc (Nat.le_refl _) _).drew.mono (by omega))).grown hg (Nat.le_of_succ_le BASE.out) (fun q hq => Nat.le_of_lt (World.ownsRow.lt OW.out q hq).1))
    have OR : Hid (∀ w4, (W3.alloc (.cells #[.int .i64 k, .int .i64 nn, .string x] 32)).drew.grownBy w4 (Value.slice (some ⟨g, 0, none⟩) n cap).ownBlock → Oth D (some g) w w4) := hide (fun w4 hg => (O3.out.alloc _).drew.grown hg)
    have M1a := hide (M1.out.alloc (.cells #[.int .i64 k, .int .i64 nn, .string x] 32))
    have M2a := hide (M2.out.alloc (.cells #[.int .i64 k, .int .i64 nn, .string x] 32))
    have ca0 := M1a.out.cell 0
    have da0 := M2a.out.cell 0
    have da1 := M2a.out.cell 1
    have da2 := M2a.out.cell 2
    have G4 : Hid (n + 1 = (p ++ [(⟨ka, na, y⟩ : Tok)] ++ [(⟨k, nn, x⟩ : Tok)]).length) := hide (by have := EM.out; have := HLP.out; simp; omega)
    have G5 : Hid (xs ++ cellsT [(⟨k, nn, x⟩ : Tok)] = cellsT (p ++ [(⟨ka, na, y⟩ : Tok)] ++ [(⟨k, nn, x⟩ : Tok)])) := hide (by rw [HX.out, cellsT_snoc (p ++ [(⟨ka, na, y⟩ : Tok)])]; rfl)
    go_wp2_with (simp only [HW3.out])
    clear TB HW3 p2 g2 M1a M2a XL HX HLP HJ EM
    go_region_law ((refine step_append_lies _ (by rfl) _ _ _ (by rfl) (D + 1) 32 i0 (.agg #[.int .i64 0, .int .i64 0, .string ⟨#[]⟩]) 3 32 Tryd.underlying22 hi hz0 hz1 hz2 rfl (by decide) (.slice (some ⟨g, 0, none⟩) n cap) n xs rfl OW.out ⟨W3.heap.size, 0, none⟩ 1 1 (cellsT [(⟨k, nn, x⟩ : Tok)]) rfl rfl NEWS.out ONE.out (by decide) (by unfold maxLen; omega) (by omega) BASE.out _ rfl ?_; intro g' cp w4 hown hgr hat hlt; have z0 := (GK.out w4 hgr).cell 0; have z2 := (GK.out w4 hgr).free 0))
    all_goals
      have BL := FR.out w4 hgr
      have OL := OR.out w4 hgr
      have BK := (GK.out w4 hgr).set0T (.slice (some ⟨g', 0, none⟩) (n + 1) cp)
      have OK := own_set (i := 0) (u := .slice (some ⟨g', 0, none⟩) (n + 1) cp) hown (Nat.lt_succ_self D)
      rw [G5.out] at OK
      clear hgr hat hlt z0 z2
      go_end0
      rw [if_neg (by decide)]
      exact ⟨rfl, ⟨_, BK, by rw [← G4.out]; exact OK⟩, BL.setCell (p := ⟨D, 0, none⟩) (Nat.le_refl _) _, OL.set D 0 _ (.inl rfl)⟩
  · have c0 := L1.out.cell 0
    have d1 := L2.out.cell 1
    have d2 := L2.out.cell 2
    have e1 : z1.cell? ⟨g, m * 3 + 1, none⟩ = some (.int .i64 na) := (L3.out.cellAt (m * 3 + 1) (by omega)).trans XL.out.2.1
    have e2 : z1.cell? ⟨g, m * 3 + 2, none⟩ = some (.string y) := (L3.out.cellAt (m * 3 + 2) (by omega)).trans XL.out.2.2
    have f1 := L3.out.frozenAt (m * 3 + 1)
    have f2 := L3.out.frozenAt (m * 3 + 2)
    have hcat : ¬ 9223372036854775807 < y.size + x.size := by omega
    go_wp2_with fail
    go_region
    obtain ⟨W5, hW5⟩ : ∃ W5, W5 = (z1.setCell ⟨g, m * 3 + 2, none⟩ (.string (y ++ x))).drew := ⟨_, rfl⟩
    simp only [← hW5]
    have M1 : Hid (Blk W5 D #[.slice (some ⟨g, 0, none⟩) n cap, .int .i64 (sz + (x.size : Int)), .int .i64 co] 56) := hide (by rw [hW5]; exact L1.out.other (a := ⟨g, m * 3 + 2, none⟩) q1 _)
    have M2 : Hid (Blk W5 w.heap.size #[.int .i64 k, .int .i64 nn, .string x] 32) := hide (by rw [hW5]; exact L2.out.other (a := ⟨g, m * 3 + 2, none⟩) q3 _)
    have M3 : Hid (W5.ownsRow (D + 1) 32 3 (.slice (some ⟨g, 0, none⟩) n cap) n (xs.set (m * 3 + 2) (.string (y ++ x)))) := hide (by
      rw [hW5]
      exact own_below (L3.out.stored (m * 3 + 2) (.string (y ++ x))).1 (Below.refl _ _).drew)
    have O5 : Hid (Oth D (some g) w W5) := hide (by
      rw [hW5]
      exact (OZ.out.set g _ _ (.inr (.inr rfl))).drew)
    have M4 : Hid (Below D w W5) := hide (by
      rw [hW5]
      exact (L4.out.1.setCell (p := ⟨g, m * 3 + 2, none⟩) (by show D ≤ g; omega) _).drew)
    clear hW5 L1 L2 L3 L4 OZ c0 d1 d2 e1 e2 f1 f2 hgz
    have c0 := M1.out.cell 0
    have d1 := M2.out.cell 1
    have e1 : W5.cell? ⟨g, m * 3 + 1, none⟩ = some (.int .i64 na) := (M3.out.cellAt (m * 3 + 1) (by omega)).trans (by rw [List.getElem?_set_ne (by omega)]; exact XL.out.2.1)
    have f1 := M3.out.frozenAt (m * 3 + 1)
    have G1 : Hid (Blk (W5.setCell ⟨g, m * 3 + 1, none⟩ (.int .i64 (na + nn))) D #[.slice (some ⟨g, 0, none⟩) n cap, .int .i64 (sz + (x.size : Int)), .int .i64 co] 56) := hide (M1.out.other (a := ⟨g, m * 3 + 1, none⟩) q1 _)
    have G2 : Hid ((W5.setCell ⟨g, m * 3 + 1, none⟩ (.int .i64 (na + nn))).ownsRow (D + 1) 32 3 (.slice (some ⟨g, 0, none⟩) n cap) n (cellsT (p ++ [merT ⟨ka, na, y⟩ ⟨k, nn, x⟩]))) := hide (by
      have q := (M3.out.stored (m * 3 + 1) (.int .i64 (na + nn))).1
      rw [HX.out] at q
      rw [← cellsT_mer p ⟨ka, na, y⟩ ⟨k, nn, x⟩ m HLP.out]
      exact q)
    have G3 : Hid (Below D w (W5.setCell ⟨g, m * 3 + 1, none⟩ (.int .i64 (na + nn)))) := hide (M4.out.setCell (p := ⟨g, m * 3 + 1, none⟩) (by show D ≤ g; omega) _)
    have G4 : Hid (n = (p ++ [merT ⟨ka, na, y⟩ ⟨k, nn, x⟩]).length) := hide (by have := EM.out; have := HLP.out; simp; omega)
    clear M1 M2 M3 M4 XL HX HLP HJ
    go_wp2_with fail
    go_region
    go_wp2
    refine bodyPost_ret (results_none rfl _ _ _) rfl ?_
    exact ⟨rfl, ⟨_, G1.out, by rw [← G4.out]; exact own_below G2.out (Below.refl _ _).drew⟩, G3.out.drew, (O5.out.set g _ _ (.inr (.inr rfl))).drew⟩

end Go.Proofs.YtobcbffakldfcaaDoor

namespace Go.Proofs.YtobcbffakldfcaaDoor

theorem isR_apo : IsR [39] := ⟨by rfl, by decide⟩
theorem mem_take {p : List UInt8 → Bool} {rs : List (List UInt8)} {r : List UInt8} (h : r ∈ rs.takeWhile p) : r ∈ rs := (List.takeWhile_sublist p).subset h
theorem mem_dropW {p : List UInt8 → Bool} {rs : List (List UInt8)} {r : List UInt8} (h : r ∈ rs.dropWhile p) : r ∈ rs := (List.dropWhile_sublist p).subset h
theorem coins_txt (l : List Tok) (r : List UInt8) : coinsT (addT l (txtT r)) = 0 := by
  rcases nil_or_snoc l with rfl | ⟨p, a, rfl⟩
  · rfl
  · rw [addT_snoc]
    split
    · rename_i h
      rw [coinsT_snoc]
      have : a.kind = 0 := by
        unfold joinT at h
        simp only [Bool.and_eq_true, decide_eq_true_eq] at h
        exact h.1
      show (if a.kind = 5 then _ else _) = (0 : Int)
      rw [if_neg (by omega)]
    · rw [coinsT_snoc]; rfl

theorem step_free (st : Nat) (hs : st = 0 ∨ st = 3) (l : List Tok) (r : List UInt8) (hb : bndB r = false) : stepP st l r = some (0, addT l (txtT r)) := by
  unfold bndB at hb
  simp only [Bool.or_eq_false_iff, decide_eq_false_iff_not, Decidable.not_not] at hb
  obtain ⟨⟨h1, h2⟩, h3⟩ := hb
  have ha : aft st r = 0 := by
    unfold aft
    rw [if_neg h1]
    rcases hs with rfl | rfl <;> rfl
  have hp : plnT r = txtT r := by unfold plnT; rw [if_pos h3]
  unfold stepP
  rw [ha, if_neg (by omega), if_neg (by omega), h2, hp, coins_txt]
  simp
theorem step_open (l : List Tok) : stepP 0 l [39] = some (1, l) := rfl
theorem step_two (l : List Tok) : stepP 1 l [39] = some (0, addT l (txtT [39])) := by
  unfold stepP
  rw [show aft 1 [39] = 0 from rfl, show plnT [39] = txtT [39] from rfl, coins_txt]
  rfl
theorem step_in (l : List Tok) (st : Nat) (hs : st = 1 ∨ st = 2) (r : List UInt8) (h : r ≠ [39]) : stepP st l r = some (2, addT l (txtT r)) := by
  have ha : aft st r = 2 := by
    unfold aft
    rw [if_neg h]
    rcases hs with rfl | rfl <;> rfl
  unfold stepP
  rw [ha]
  rfl
theorem step_close (l : List Tok) : stepP 2 l [39] = some (3, l) := rfl
theorem step_again (l : List Tok) : stepP 3 l [39] = some (2, addT l (txtT [39])) := rfl

theorem joinO_kind {p : Option Tok} {t u : Tok} (h : t.kind = u.kind) : joinO p t = joinO p u := by
  cases p with
  | none => rfl
  | some a => show joinT a t = joinT a u; unfold joinT; rw [h]
theorem badT_may : ∀ (ts : List Tok) (p : Option Tok), badT p ts = false → ∀ t ∈ ts, mayTok t = true
  | [], _, _, t, h => by simp at h
  | a :: ts, p, hb, t, h => by
    unfold badT at hb
    simp only [Bool.or_eq_false_iff, Bool.not_eq_false'] at hb
    rcases List.mem_cons.1 h with rfl | h
    · exact hb.1.1
    · exact badT_may ts _ hb.2 t h

end Go.Proofs.YtobcbffakldfcaaDoor

namespace Go.Proofs.YtobcbffakldfcaaDoor

theorem sizeT_app (a b : List Tok) : sizeT (a ++ b) = sizeT a + sizeT b := by unfold sizeT; rw [List.map_append, List.sum_append]
theorem sizeT_one (t : Tok) : sizeT [t] = t.text.size := by simp [sizeT]
theorem addT_size (F : List Tok) (t : Tok) : sizeT (addT F t) = sizeT F + t.text.size := by
  rcases nil_or_snoc F with rfl | ⟨p, a, rfl⟩
  · rw [addT_nil, sizeT_one]; simp [sizeT]
  · rw [addT_snoc]
    split
    · rw [sizeT_app, sizeT_app, sizeT_one, sizeT_one]
      have : (merT a t).text.size = a.text.size + t.text.size := ByteArray.size_append
      omega
    · rw [sizeT_app, sizeT_one]
theorem addT_len (F : List Tok) (t : Tok) : F.length ≤ (addT F t).length ∧ (addT F t).length ≤ F.length + 1 := by
  rcases nil_or_snoc F with rfl | ⟨p, a, rfl⟩
  · rw [addT_nil]; simp
  · rw [addT_snoc]
    split <;> simp
theorem addT_long (F : List Tok) (t : Tok) (h : longT F = true) : longT (addT F t) = true := by
  unfold longT at *
  simp only [Bool.or_eq_true, decide_eq_true_eq] at *
  have := addT_len F t
  have := addT_size F t
  omega
theorem badT_snoc (p : List Tok) (s : Tok) : badT none (p ++ [s]) = (badT none p || (!mayTok s || joinO p.getLast? s)) := by
  have := badT_app p none s []
  rw [this]
  have e : p.getLast?.or none = p.getLast? := by cases p.getLast? <;> rfl
  rw [e]
  simp [badT]
theorem may_five {t : Tok} (h : mayTok t = true) (hk : t.kind = 5) : t.text.size = 0 ∧ 1 ≤ t.many ∧ t.many ≤ 3 := by
  unfold mayTok at h
  rw [if_neg (by omega), if_neg (by omega), if_pos hk] at h
  simpa using h
theorem may_zero {t : Tok} (h : mayTok t = true) (hk : t.kind = 0) : t.text.size ≠ 0 ∧ (runesL (bys t.text)).isSome = true ∧ t.many = 0 := by
  unfold mayTok at h
  rw [if_pos hk] at h
  simpa using h
theorem may_many {t : Tok} (h : mayTok t = true) : 0 ≤ t.many ∧ t.many ≤ 3 := by
  unfold mayTok at h
  split at h
  · simp at h; omega
  · split at h
    · simp at h; omega
    · split at h
      · simp at h; omega
      · cases h
theorem runesL_both {a b : List UInt8} (ha : (runesL a).isSome = true) (hb : (runesL b).isSome = true) : (runesL (a ++ b)).isSome = true := by
  obtain ⟨n, hn⟩ := Option.isSome_iff_exists.1 ha
  rw [runesL_app a b n hn, Option.isSome_map]
  exact hb
theorem may_mer {a t : Tok} (ha : mayTok a = true) (ht : mayTok t = true) (hj : joinT a t = true) (hc : (merT a t).kind = 5 → (merT a t).many ≤ 3) : mayTok (merT a t) = true := by
  unfold joinT at hj
  simp only [Bool.and_eq_true, Bool.or_eq_true, decide_eq_true_eq] at hj
  have hs : (merT a t).text.size = a.text.size + t.text.size := ByteArray.size_append
  have hk : (merT a t).kind = a.kind := rfl
  have hm : (merT a t).many = a.many + t.many := rfl
  rcases hj.2 with h0 | h5
  · obtain ⟨a1, a2, a3⟩ := may_zero ha h0
    obtain ⟨b1, b2, b3⟩ := may_zero ht (by omega)
    unfold mayTok
    rw [if_pos (by omega)]
    have hv : (runesL (bys (merT a t).text)).isSome = true := by
      show (runesL (bys (a.text ++ t.text))).isSome = true
      rw [bys_append]
      exact runesL_both a2 b2
    rw [hv, decide_eq_true (by omega), decide_eq_true (by omega)]
    rfl
  · obtain ⟨a1, a2, a3⟩ := may_five ha h5
    obtain ⟨b1, b2, b3⟩ := may_five ht (by omega)
    have := hc (by omega)
    unfold mayTok
    rw [if_neg (by omega), if_neg (by omega), if_pos (by omega), decide_eq_true (by omega), decide_eq_true (by omega), decide_eq_true (by omega)]
    rfl
theorem addT_good (F : List Tok) (t : Tok) (hF : badT none F = false) (ht : mayTok t = true) (hc : coinsT (addT F t) ≤ 3) : badT none (addT F t) = false := by
  rcases nil_or_snoc F with rfl | ⟨p, a, rfl⟩
  · rw [addT_nil]
    simp [badT, joinO, ht]
  · rw [addT_snoc] at hc ⊢
    rw [badT_snoc] at hF
    simp only [Bool.or_eq_false_iff, Bool.not_eq_false'] at hF
    obtain ⟨h1, h2, h3⟩ := hF
    split
    · next hj =>
      rw [if_pos hj, coinsT_snoc] at hc
      rw [badT_snoc, h1, may_mer h2 ht hj (fun h5 => by rw [if_pos h5] at hc; exact hc), joinO_kind (p := p.getLast?) (t := merT a t) (u := a) rfl, h3]
      rfl
    · next hj =>
      have e1 : (p ++ [a]).getLast? = some a := by simp
      rw [badT_snoc, badT_snoc, h1, h2, h3, ht, e1]
      simp [joinO, hj]
theorem coins_add (F : List Tok) (t : Tok) (h : t.kind = 5 → t.many = 1) : coinsT (addT F t) = if t.kind = 5 then coinsT F + 1 else 0 := by
  rcases nil_or_snoc F with rfl | ⟨p, a, rfl⟩
  · rw [addT_nil]
    have : coinsT [t] = if t.kind = 5 then t.many else 0 := coinsT_snoc [] t
    rw [this]
    split
    · next hk => rw [h hk]; rfl
    · rfl
  · rw [addT_snoc, coinsT_snoc p a]
    by_cases hj : joinT a t = true
    · rw [if_pos hj, coinsT_snoc]
      unfold joinT at hj
      simp only [Bool.and_eq_true, Bool.or_eq_true, decide_eq_true_eq] at hj
      have hk : (merT a t).kind = a.kind := rfl
      have hm : (merT a t).many = a.many + t.many := rfl
      rw [hk, hm]
      by_cases h5 : a.kind = 5
      · rw [if_pos h5, if_pos h5, if_pos (by omega), h (by omega)]
      · rw [if_neg h5, if_neg h5, if_neg (by omega)]
    · rw [if_neg hj, coinsT_snoc]
      by_cases h5 : t.kind = 5
      · rw [if_pos h5, if_pos h5, h h5]
        have : ¬ a.kind = 5 := by
          intro e
          apply hj
          unfold joinT
          simp [e, h5]
        rw [if_neg this]; rfl
      · rw [if_neg h5, if_neg h5]
theorem coins_range {F : List Tok} (h : badT none F = false) : 0 ≤ coinsT F ∧ coinsT F ≤ 3 := by
  rcases nil_or_snoc F with rfl | ⟨p, a, rfl⟩
  · decide
  · rw [coinsT_snoc]
    rw [badT_snoc] at h
    simp only [Bool.or_eq_false_iff, Bool.not_eq_false'] at h
    have := may_many h.2.1
    split <;> omega

structure GRel (G F : List Tok) : Prop where
  good : badT none G = false
  goodF : badT none F = false
  same : G = F ∨ longT G = true ∧ longT F = true
  len : G.length ≤ 65
  size : sizeT G ≤ 68
theorem GRel.nil : GRel [] [] := ⟨rfl, rfl, .inl rfl, by decide, by decide⟩
theorem GRel.chk {G F : List Tok} (h : GRel G F) : chkT G = chkT F := by
  unfold chkT
  rw [h.good, h.goodF]
  rcases h.same with e | ⟨h1, h2⟩
  · rw [e]
  · rw [h1, h2]
theorem GRel.eq {G F : List Tok} (h : GRel G F) (hc : chkT F = 0) : G = F := by
  rcases h.same with e | ⟨_, h2⟩
  · exact e
  · unfold chkT at hc
    rw [h.goodF, h2] at hc
    cases hc
theorem GRel.more {G F : List Tok} (h : GRel G F) (t : Tok) (ht : mayTok t = true) (h4 : t.text.size ≤ 4) (hl : G.length ≤ 64) (hs : sizeT G ≤ 64) (hc : coinsT (addT F t) ≤ 3) : G = F ∧ GRel (addT G t) (addT F t) := by
  have e : G = F := by
    rcases h.same with e | ⟨h1, _⟩
    · exact e
    · unfold longT at h1
      simp at h1; omega
  subst e
  refine ⟨rfl, addT_good G t h.good ht hc, addT_good G t h.good ht hc, .inl rfl, ?_, ?_⟩
  · have := addT_len G t; omega
  · have := addT_size G t; omega
theorem GRel.stay {G F : List Tok} (h : GRel G F) (t : Tok) (ht : mayTok t = true) (hl : ¬ (G.length ≤ 64 ∧ sizeT G ≤ 64)) (hc : coinsT (addT F t) ≤ 3) : GRel G (addT F t) := by
  have hG : longT G = true := by unfold longT; simp; omega
  have hF : longT F = true := by
    rcases h.same with e | ⟨_, h2⟩
    · rw [← e]; exact hG
    · exact h2
  exact ⟨h.good, addT_good F t h.goodF ht hc, .inr ⟨hG, addT_long F t hF⟩, h.len, h.size⟩
theorem GRel.last {G F : List Tok} {p : List Tok} {a : Tok} (h : GRel G F) (e : G = p ++ [a]) : a.text.size ≤ 68 ∧ 0 ≤ a.many ∧ a.many ≤ 3 := by
  have h1 := h.good
  have h2 := h.size
  rw [e] at h1 h2
  rw [badT_snoc] at h1
  simp only [Bool.or_eq_false_iff, Bool.not_eq_false'] at h1
  rw [sizeT_app, sizeT_one] at h2
  have := may_many h1.2.1
  omega

end Go.Proofs.YtobcbffakldfcaaDoor

namespace Go.Proofs.YtobcbffakldfcaaDoor
open Go.RowKit

theorem keep_any {w : World} {D : Nat} {v : Value} {G F : List Tok} (t : Tok) (co : Int) (h : GatV w D v G (sizeT G : Int) co) (hr : GRel G F) (hl : G.length ≤ 64) (hs : sizeT G ≤ 64) (ht : mayTok t = true) (h4 : t.text.size ≤ 4) :
    Calls Tryd.prog 54 #[.pointer (some ⟨D, 0, none⟩), tokV t] w fun e w' => e = .returned (.tuple #[]) ∧ Gat w' D (addT G t) (sizeT (addT G t) : Int) co ∧ Below D w w' ∧ Oth D v.ownBlock w w' := by
  have hm := may_many ht
  rcases nil_or_snoc G with rfl | ⟨p, a, rfl⟩
  · refine (keep_nil t _ co h (by omega) (by omega) (by omega)).mono ?_
    rintro e w' ⟨h1, h2, h3⟩
    rw [addT_size, addT_nil, Int.natCast_add]
    exact ⟨h1, h2, h3⟩
  · obtain ⟨b1, b2, b3⟩ := hr.last rfl
    have hpl : (p ++ [a]).length = p.length + 1 := by simp
    refine (keep_more p a t _ co h (by omega) (by omega) (by omega) (by omega) (by omega) (by omega) (by omega) (by omega) (by omega)).mono ?_
    rintro e w' ⟨h1, h2, h3⟩
    rw [addT_size, addT_snoc, Int.natCast_add]
    exact ⟨h1, h2, h3⟩

def GatF (w : World) (D : Nat) (F : List Tok) : Prop := ∃ G, Gat w D G (sizeT G : Int) (coinsT F) ∧ GRel G F
theorem GatF.below {w w' : World} {D : Nat} {F : List Tok} (h : GatF w D F) (hb : Below w.heap.size w w') : GatF w' D F := by
  obtain ⟨G, h1, h2⟩ := h
  exact ⟨G, h1.below hb, h2⟩
theorem GatF.lt {w : World} {D : Nat} {F : List Tok} (h : GatF w D F) : D < w.heap.size := by
  obtain ⟨G, h1, h2⟩ := h
  exact h1.lt
theorem Blk.set2T {w : World} {b : Nat} {x0 x1 x2 : Value} {t : TypeId} (h : Blk w b #[x0, x1, x2] t) (v : Value) : Blk (w.setCell ⟨b, 2, none⟩ v) b #[x0, x1, v] t := by
  unfold Blk at *
  simp only [World.setCell, Array.getElem?_modify, if_true, h, Option.map_some]
  rfl
theorem Blk.oth {w w' : World} {D b : Nat} {r : Option Nat} {cs : Array Value} {t : TypeId} (h : Blk w b cs t) (ho : Oth D r w w') (h1 : b ≠ D) (h2 : some b ≠ r) : Blk w' b cs t := by
  unfold Blk at *
  rw [ho.2 b (Array.getElem?_eq_some_iff.1 h).1 h1 h2]
  exact h

set_option maxRecDepth 100000 in
set_option maxHeartbeats 4000000 in
theorem gadd_any {w : World} {D : Nat} {F : List Tok} (t : Tok) (h : GatF w D F) (ht : mayTok t = true) (h4 : t.text.size ≤ 4) (h5 : t.kind = 5 → t.many = 1) :
    Calls Tryd.prog 33 #[.pointer (some ⟨D, 0, none⟩), tokV t] w fun e w' => e = .returned (.bool (decide (coinsT (addT F t) ≤ 3))) ∧ (coinsT (addT F t) ≤ 3 → GatF w' D (addT F t)) ∧ Below D w w' := by
  have hDw := h.lt
  obtain ⟨G, ⟨v, h1⟩, hr⟩ := h
  have EC := hide (coins_add F t h5)
  have hcr := coins_range hr.goodF
  obtain ⟨co, hco⟩ : ∃ co, co = coinsT F := ⟨_, rfl⟩
  rw [← hco] at h1 hcr EC
  obtain ⟨hc0, hc3⟩ := hcr
  clear hco
  have HM : Hid (G.length ≤ 64 → sizeT G ≤ 64 → coinsT (addT F t) ≤ 3 → GRel (addT G t) (addT F t)) := hide (fun a b c => (hr.more t ht h4 a b c).2)
  have HS : Hid (¬ (G.length ≤ 64 ∧ sizeT G ≤ 64) → coinsT (addT F t) ≤ 3 → GRel G (addT F t)) := hide (fun a b => hr.stay t ht a b)
  have hl65 := hr.len
  have hs68 := hr.size
  have HK : Hid (G.length ≤ 64 → sizeT G ≤ 64 → ∀ X, GatV X D v G (sizeT G : Int) co → Calls Tryd.prog 54 #[.pointer (some ⟨D, 0, none⟩), tokV t] X fun e w' => e = .returned (.tuple #[]) ∧ Gat w' D (addT G t) (sizeT (addT G t) : Int) co ∧ Below D X w' ∧ Oth D v.ownBlock X w') := hide (fun a b X hX => keep_any t co hX hr a b ht h4)
  clear ht h4 h5 hr
  obtain ⟨F', hF'⟩ : ∃ F', F' = addT F t := ⟨_, rfl⟩
  rw [← hF'] at HM HS EC ⊢
  obtain ⟨G', hG'⟩ : ∃ G', G' = addT G t := ⟨_, rfl⟩
  rw [← hG'] at HM HK
  obtain ⟨C', hC'⟩ : ∃ C', C' = coinsT F' := ⟨_, rfl⟩
  rw [← hC'] at HM HS EC ⊢
  have HC' := hide hC'
  clear hF' hG' hC'
  obtain ⟨k, nn, x⟩ := t
  unfold tokV at HK ⊢
  simp only at HK EC ⊢
  have hnb : ∀ q, v.ownBlock = some q → q < w.heap.size := fun q hq => (World.ownsRow.lt h1.2 q hq).2
  obtain ⟨ao, cap, hv⟩ := own_slice h1.2
  subst hv
  obtain ⟨n, hn⟩ : ∃ n, n = G.length := ⟨_, rfl⟩
  have HN := hide hn
  rw [← hn] at hl65
  obtain ⟨W1, hW1⟩ : ∃ W1, W1 = w.alloc (.cells #[.int .i64 k, .int .i64 nn, .string x] 32) := ⟨_, rfl⟩
  have BW : Hid (Below w.heap.size w W1) := hide (by rw [hW1]; exact (Below.refl _ _).alloc (Nat.le_refl _) _)
  have T1 : Hid (Blk W1 w.heap.size #[.int .i64 k, .int .i64 nn, .string x] 32) := hide (by rw [hW1]; exact Blk.newAt w w.heap.size rfl _ _)
  have V1 : Hid (GatV W1 D (.slice ao G.length cap) G (sizeT G : Int) co) := hide ⟨h1.1.below BW.out h1.1.lt, own_below h1.2 BW.out⟩
  have HW1 := hide hW1.symm
  have nT : ¬ w.heap.size = D := by omega
  have nT' : ¬ D = w.heap.size := by omega
  have NT : Hid (some w.heap.size ≠ (Value.slice ao G.length cap).ownBlock) := hide (fun e => Nat.lt_irrefl _ (hnb _ e.symm))
  clear h1 hnb hW1
  have c0 := V1.out.1.cell 0
  have c1 := V1.out.1.cell 1
  have d0 := T1.out.cell 0
  have d1 := T1.out.cell 1
  have d2 := T1.out.cell 2
  simp only [← hn] at c0
  clear hn
  obtain ⟨s, hs⟩ : ∃ s, s = sizeT G := ⟨_, rfl⟩
  rw [← hs] at hs68
  simp only [← hs] at c1
  have HS' := hide hs
  clear hs
  by_cases hb : n ≤ 64 ∧ s ≤ 64
  · obtain ⟨ha, hb⟩ := hb
    have KC := hide (HK.out (by rw [← HN.out]; exact ha) (by rw [← HS'.out]; exact hb) W1 V1.out)
    have GR := hide (HM.out (by rw [← HN.out]; exact ha) (by rw [← HS'.out]; exact hb))
    clear HK HM HS
    go_enter Tryd.func33, Tryd.ntmps33
    go_wp2_with (simp only [HW1.out])
    refine KC.out.mono ?_
    rintro e w2 ⟨rfl, ⟨v2, hg1, hg2⟩, hbD, hO⟩
    have T2 := hide (T1.out.oth hO nT NT.out)
    have G1 := hide hg1
    have G2 := hide hg2
    have B2 := hide ((BW.out.mono (Nat.le_of_lt hDw)).trans hbD)
    clear KC hbD hO hg1 hg2 T1 V1 c0 c1 d0 d1 d2
    have c2 := G1.out.cell 2
    have f2 := G1.out.free 2
    have d0 := T2.out.cell 0
    have n2 : ¬ w.heap.size = D := nT
    by_cases h5 : k = 5
    · have h5' : (k == 5) = true := beq_iff_eq.2 h5
      have EC' : Hid (C' = co + 1) := hide (by rw [EC.out, if_pos h5])
      have Z1 := hide (G1.out.set2T (.int .i64 (co + 1)))
      have z2 := Z1.out.cell 2
      clear EC h5
      go_wp2
      go_ret
      exact ⟨by rw [EC'.out]; rfl, fun hc => ⟨G', ⟨v2, by rw [← HC'.out, EC'.out]; exact Z1.out, own_set (i := 2) (u := .int .i64 (co + 1)) G2.out (Nat.lt_succ_self D)⟩, GR.out hc⟩, B2.out.setCell (p := ⟨D, 2, none⟩) (Nat.le_refl _) _⟩
    · have h5' : (k == 5) = false := beq_eq_false_iff_ne.2 h5
      have EC' : Hid (C' = 0) := hide (by rw [EC.out, if_neg h5])
      have Z1 := hide (G1.out.set2T (.int .i64 0))
      have z2 := Z1.out.cell 2
      clear EC h5
      go_wp2
      go_ret
      exact ⟨by rw [EC'.out]; rfl, fun hc => ⟨G', ⟨v2, by rw [← HC'.out, EC'.out]; exact Z1.out, own_set (i := 2) (u := .int .i64 0) G2.out (Nat.lt_succ_self D)⟩, GR.out hc⟩, B2.out.setCell (p := ⟨D, 2, none⟩) (Nat.le_refl _) _⟩
  · have GR := hide (HS.out (by rw [← HN.out, ← HS'.out]; exact hb))
    clear HK HM HS
    by_cases ha : n ≤ 64
    · have hb' : ¬ s ≤ 64 := fun q => hb ⟨ha, q⟩
      clear hb
      have c2 := V1.out.1.cell 2
      have f2 := V1.out.1.free 2
      have G1 := hide V1.out.1
      have G2 := hide V1.out.2
      have B2 := hide (BW.out.mono (Nat.le_of_lt hDw))
      clear V1 T1
      by_cases h5 : k = 5
      · have h5' : (k == 5) = true := beq_iff_eq.2 h5
        have EC' : Hid (C' = co + 1) := hide (by rw [EC.out, if_pos h5])
        have Z1 := hide (G1.out.set2T (.int .i64 (co + 1)))
        have z2 := Z1.out.cell 2
        clear EC h5
        go_enter Tryd.func33, Tryd.ntmps33
        go_wp2_with (simp only [HW1.out])
        go_wp2
        go_ret
        exact ⟨by rw [EC'.out]; rfl, fun hc => ⟨G, ⟨_, by rw [← HC'.out, EC'.out]; exact Z1.out, own_set (i := 2) (u := .int .i64 (co + 1)) G2.out (Nat.lt_succ_self D)⟩, GR.out hc⟩, B2.out.setCell (p := ⟨D, 2, none⟩) (Nat.le_refl _) _⟩
      · have h5' : (k == 5) = false := beq_eq_false_iff_ne.2 h5
        have EC' : Hid (C' = 0) := hide (by rw [EC.out, if_neg h5])
        have Z1 := hide (G1.out.set2T (.int .i64 (0)))
        have z2 := Z1.out.cell 2
        clear EC h5
        go_enter Tryd.func33, Tryd.ntmps33
        go_wp2_with (simp only [HW1.out])
        go_wp2
        go_ret
        exact ⟨by rw [EC'.out]; rfl, fun hc => ⟨G, ⟨_, by rw [← HC'.out, EC'.out]; exact Z1.out, own_set (i := 2) (u := .int .i64 (0)) G2.out (Nat.lt_succ_self D)⟩, GR.out hc⟩, B2.out.setCell (p := ⟨D, 2, none⟩) (Nat.le_refl _) _⟩
    · clear hb
      have c2 := V1.out.1.cell 2
      have f2 := V1.out.1.free 2
      have G1 := hide V1.out.1
      have G2 := hide V1.out.2
      have B2 := hide (BW.out.mono (Nat.le_of_lt hDw))
      clear V1 T1
      by_cases h5 : k = 5
      · have h5' : (k == 5) = true := beq_iff_eq.2 h5
        have EC' : Hid (C' = co + 1) := hide (by rw [EC.out, if_pos h5])
        have Z1 := hide (G1.out.set2T (.int .i64 (co + 1)))
        have z2 := Z1.out.cell 2
        clear EC h5
        go_enter Tryd.func33, Tryd.ntmps33
        go_wp2_with (simp only [HW1.out])
        go_wp2
        go_ret
        exact ⟨by rw [EC'.out]; rfl, fun hc => ⟨G, ⟨_, by rw [← HC'.out, EC'.out]; exact Z1.out, own_set (i := 2) (u := .int .i64 (co + 1)) G2.out (Nat.lt_succ_self D)⟩, GR.out hc⟩, B2.out.setCell (p := ⟨D, 2, none⟩) (Nat.le_refl _) _⟩
      · have h5' : (k == 5) = false := beq_eq_false_iff_ne.2 h5
        have EC' : Hid (C' = 0) := hide (by rw [EC.out, if_neg h5])
        have Z1 := hide (G1.out.set2T (.int .i64 (0)))
        have z2 := Z1.out.cell 2
        clear EC h5
        go_enter Tryd.func33, Tryd.ntmps33
        go_wp2_with (simp only [HW1.out])
        go_wp2
        go_ret
        exact ⟨by rw [EC'.out]; rfl, fun hc => ⟨G, ⟨_, by rw [← HC'.out, EC'.out]; exact Z1.out, own_set (i := 2) (u := .int .i64 (0)) G2.out (Nat.lt_succ_self D)⟩, GR.out hc⟩, B2.out.setCell (p := ⟨D, 2, none⟩) (Nat.le_refl _) _⟩

end Go.Proofs.YtobcbffakldfcaaDoor

namespace Go.Proofs.YtobcbffakldfcaaDoor
open Go.RowKit

theorem bys_cut (s : ByteArray) (i n : Nat) : bys (s.extract i (i + n)) = ((bys s).drop i).take n := by
  show (s.extract i (i + n)).data.toList = _
  rw [ByteArray.data_extract, Array.toList_extract]
  show (s.data.toList.drop i).take (i + n - i) = _
  rw [Nat.add_sub_cancel_left]
  rfl
theorem mk_cut (s : ByteArray) (i n : Nat) : s.extract i (i + n) = mkB (((bys s).drop i).take n) := by
  rw [← mkB_bys (s.extract i (i + n)), bys_cut]

def ParA (w w' : World) (v : Value) (ts : List Tok) : Prop := w'.ownsRow w.heap.size 32 3 v ts.length (cellsT ts)

theorem own_base {w : World} {B B' n : Nat} {v : Value} {xs : List Value} (h : w.ownsRow B 32 3 v n xs) (hb : B' ≤ B) : w.ownsRow B' 32 3 v n xs := by
  refine ⟨h.1, ?_⟩
  rcases h.2 with q | ⟨g, cap, cur, h1, h2, h3⟩
  · exact .inl q
  · exact .inr ⟨g, cap, cur, h1, Nat.le_trans hb h2, h3⟩
theorem TSl.of_own {w : World} {B : Nat} {v : Value} {ts : List Tok} (h : w.ownsRow B 32 3 v ts.length (cellsT ts)) : TSl w v ts := by
  by_cases hn : ts = []
  · subst hn
    obtain ⟨ao, cap, rfl⟩ := own_slice h
    exact ⟨ao, cap, rfl, Nat.zero_le _, .inl rfl⟩
  · have hc : ∃ g cap, v = .slice (some ⟨g, 0, none⟩) ts.length cap ∧ ts.length ≤ cap := by
      rcases h.2 with ⟨_, q⟩ | ⟨g, cap, cur, hv, _, _, hc, _⟩
      · exact absurd (List.eq_nil_of_length_eq_zero q) hn
      · exact ⟨g, cap, hv, hc⟩
    obtain ⟨g, cap, rfl, hle⟩ := hc
    refine ⟨_, cap, rfl, hle, .inr ⟨g, 0, rfl, fun i hi => ?_⟩⟩
    obtain ⟨a, b, c⟩ := cells_at ts i hi
    rw [Nat.zero_add]
    exact ⟨(h.cellAt _ (by omega)).trans a, (h.cellAt _ (by omega)).trans b, (h.cellAt _ (by omega)).trans c⟩
theorem size_tok : ∀ (ts : List Tok) (i : Nat), (tokN ts i).text.size ≤ sizeT ts
  | [], i => by
    rw [show tokN [] i = Tok.zero from by unfold tokN; simp]
    exact Nat.zero_le _
  | t :: ts, 0 => by
    show t.text.size ≤ _
    unfold sizeT
    rw [List.map_cons, List.sum_cons]
    omega
  | t :: ts, i + 1 => by
    have := size_tok ts i
    show (tokN ts i).text.size ≤ _
    unfold sizeT at *
    rw [List.map_cons, List.sum_cons]
    omega
theorem chkT_is (ts : List Tok) : chkT ts = 0 ∨ chkT ts = 131 ∨ chkT ts = 132 := by
  unfold chkT
  repeat' split
  all_goals simp
theorem may_txt {r : List UInt8} (h : IsR r) : mayTok (txtT r) = true := by
  unfold mayTok
  rw [if_pos (show (txtT r).kind = 0 from rfl)]
  have h1 : (mkB r).size = r.length := by rw [← bys_len]; rfl
  have h2 : (runesL r).isSome = true := by
    have := runesL_cons h []
    rw [List.append_nil] at this
    rw [this]; rfl
  show (decide ((mkB r).size ≠ 0) && ((runesL r).isSome && decide ((0 : Int) = 0))) = true
  rw [h1, h2, decide_eq_true h.len]
  rfl
theorem may_pln {r : List UInt8} (h : IsR r) : mayTok (plnT r) = true ∧ (plnT r).text.size ≤ 4 ∧ ((plnT r).kind = 5 → (plnT r).many = 1) := by
  have h1 : (mkB r).size = r.length := by rw [← bys_len]; rfl
  have h4 : r.length ≤ 4 := by rw [← h.1]; exact (runeL_le r).2
  unfold plnT
  split
  · refine ⟨may_txt h, ?_, fun e => ?_⟩
    · show (mkB r).size ≤ 4
      omega
    · exact absurd e (by show ¬ (0 : Int) = 5; decide)
  · next hk =>
    have hr : kindB r = 1 ∨ kindB r = 2 ∨ kindB r = 3 ∨ kindB r = 4 ∨ kindB r = 5 := by
      unfold kindB at hk ⊢
      repeat' split
      all_goals first | omega | (exfalso; simp_all)
    rcases hr with e | e | e | e | e <;> rw [e] <;> decide
theorem txt_size {r : List UInt8} (h : IsR r) : (txtT r).text.size ≤ 4 := by
  have h1 : (mkB r).size = r.length := by rw [← bys_len]; rfl
  have h4 : r.length ≤ 4 := by rw [← h.1]; exact (runeL_le r).2
  show (mkB r).size ≤ 4
  omega

theorem runsP_bind (st : Nat) (l : List Tok) (r : List UInt8) (rs : List (List UInt8)) : runsP st l (r :: rs) = (stepP st l r).bind fun q => runsP q.1 q.2 rs := by
  rw [runsP_cons]
  cases stepP st l r <;> rfl
def endR (R : Option (Nat × List Tok)) (V : Bool) : Nat × List Tok := match R with
  | none => (131, [])
  | some q => if V = false then (131, []) else if q.1 = 1 ∨ q.1 = 2 then (130, []) else if chkT q.2 = 0 then (0, q.2) else (chkT q.2, [])
theorem parseR_end (l : List UInt8) : parseR l = endR (runsP 0 [] (rns l)) (runesL l).isSome := by
  unfold parseR endR
  cases runsP 0 [] (rns l) with
  | none => rfl
  | some q => cases runesL l <;> rfl

set_option maxRecDepth 100000 in
set_option maxHeartbeats 4000000 in
theorem Parse_any (s : ByteArray) (w : World) (hs : s.size ≤ 1000000000000000000) (hT : Wd w) :
    Calls Tryd.prog 19 #[.string s] w fun e w' => ∃ v, e = .returned (.tuple #[v, .int .i64 ((parseR (bys s)).1 : Int)]) ∧ ParA w w' v (parseR (bys s)).2 ∧ Below w.heap.size w w' := by
  obtain ⟨R, hR⟩ : ∃ R, R = runsP 0 [] (rns (bys s)) := ⟨_, rfl⟩
  obtain ⟨V, hV⟩ : ∃ V, V = (runesL (bys s)).isSome := ⟨_, rfl⟩
  obtain ⟨A, hA⟩ : ∃ A, A = parseR (bys s) := ⟨_, rfl⟩
  have EA : Hid (A = endR R V) := hide (by rw [hA, hR, hV, parseR_end])
  rw [← hA]
  have HR := hide hR
  have HV := hide hV
  clear hR hV hA
  have HT := hide hT
  clear hT
  have B1 : Hid (Below w.heap.size w (w.alloc (.cells #[.slice none 0 0, .int .i64 0, .int .i64 0] 56))) := hide ((Below.refl _ _).alloc (Nat.le_refl _) _)
  have G1 : Hid (GatF (w.alloc (.cells #[.slice none 0 0, .int .i64 0, .int .i64 0] 56)) w.heap.size []) := hide (by
    exact ⟨[], ⟨_, Blk.newAt w w.heap.size rfl _ _, World.ownsRow_nil _ _ _ _⟩, GRel.nil⟩)
  go_enter Tryd.func19, Tryd.ntmps19
  go_wp2
  go_step3
  go_wp2
  go_step3
  go_wp2
  go_loopw [5, 6, 7] (fun x p z wr => ∃ (st pos : Nat) (n : Int) (F : List Tok), st ≤ 3 ∧ pos ≤ s.size ∧ x = .int .i64 (st : Int) ∧ p = .int .i64 (pos : Int) ∧ z = .int .i64 n ∧ Hid (GatF wr w.heap.size F ∧ runsP st F (rns ((bys s).drop pos)) = R ∧ (runesL ((bys s).drop pos)).isSome = V) ∧ Hid (Below w.heap.size w wr)) (fun _ p _ _ => s.size - (intOf p).toNat)
  case atStart => exact ⟨0, 0, 0, [], Nat.zero_le _, Nat.zero_le _, rfl, rfl, rfl, hide ⟨G1.out, by rw [HR.out, List.drop_zero], by rw [HV.out, List.drop_zero]⟩, B1⟩
  case round =>
    obtain ⟨st, pos, n, F, hst, hpos, rfl, rfl, rfl, HF, HB⟩ := hrel
    have TW := hide (HT.out.below HB.out)
    by_cases hlt : pos < s.size
    · have hlt' : (pos : Int) < (s.size : Int) := by omega
      have hra : runeAt s (pos : Int) = runeL ((bys s).drop pos) := by
        unfold runeAt
        rw [if_neg (by omega), Int.toNat_natCast]
      have hle := runeL_le ((bys s).drop pos)
      rw [List.length_drop, bys_len] at hle
      have H1 := hide (Rune_any s (pos : Int) wr TW.out.u8)
      rw [hra] at H1
      obtain ⟨m, hm⟩ : ∃ m, m = runeL ((bys s).drop pos) := ⟨_, rfl⟩
      rw [← hm] at H1 hle
      obtain ⟨hle1, hle2⟩ := hle
      have hmk := mk_cut s pos m
      obtain ⟨r, hr⟩ : ∃ r, r = s.extract pos (pos + m) := ⟨_, rfl⟩
      have Hr := hide hr.symm
      have HM := hide hm
      have E1 : Hid (bys r = ((bys s).drop pos).take m) := hide (by rw [hr, bys_cut])
      clear hr hm hra hmk
      go_wp2_with fail
      refine H1.out.mono ?_
      rintro e w1 ⟨rfl, hb1⟩
      have TW1 := hide (TW.out.below hb1)
      have GF1 := hide (HF.out.1.below hb1)
      have HB1 := hide (HB.out.trans (hb1.mono HB.out.size))
      have H2 := hide (after_any st r w1 hst TW1.out)
      have hx0 : (0 : Int) ≤ (pos : Int) := by omega
      have hx1 : (pos : Int) + (m : Int) ≤ (s.size : Int) := by omega
      clear hb1 H1 TW
      go_wp2_with (simp only [Hr.out])
      refine H2.out.mono ?_
      rintro e w2 ⟨rfl, rfl⟩
      clear H2
      have hq3 := aft_lt st (bys r)
      obtain ⟨q, hq⟩ : ∃ q, q = aft st (bys r) := ⟨_, rfl⟩
      rw [← hq] at hq3 ⊢
      have HQ := hide hq.symm
      clear hq
      rcases Nat.eq_zero_or_pos m with hm0 | hmp
      · have EE : Hid (A = (131, [])) := hide (by
          have hz : runeL ((bys s).drop pos) = 0 := by rw [← HM.out]; exact hm0
          have hne : (bys s).drop pos ≠ [] := by
            intro e
            have := congrArg List.length e
            rw [List.length_drop, bys_len] at this
            simp at this; omega
          have e1 := HF.out.2.1
          have e2 := HF.out.2.2
          rw [rns_bad _ hz] at e1
          rw [runesL_step _ hne, if_pos hz] at e2
          rw [EA.out, ← e1, ← e2]
          rfl)
        have hm' : ((m : Int) == 0) = true := by rw [hm0]; rfl
        have HBX := HB1
        clear HF EA HM E1 hm0 hle1 hle2 TW1 GF1 HQ HR HV
        go_wp2
        rw [Exit.noGoto_ret]
        refine bodyPost_ret (results_tmp2 rfl _ _ _) rfl ?_
        exact ⟨_, by rw [EE.out]; rfl, by rw [EE.out]; exact World.ownsRow_nil _ _ _ _, HBX.out⟩
      · have hm' : ((m : Int) == 0) = false := beq_eq_false_iff_ne.2 (by omega)
        have hne0 : runeL ((bys s).drop pos) ≠ 0 := by rw [← HM.out]; omega
        have RR : Hid (IsR (bys r)) := hide (by rw [E1.out, HM.out]; exact isR_take _ hne0)
        have ER : Hid (rns ((bys s).drop pos) = bys r :: rns ((bys s).drop (pos + m))) := hide (by rw [rns_step _ hne0, E1.out, ← HM.out, List.drop_drop])
        have EV : Hid ((runesL ((bys s).drop (pos + m))).isSome = V) := hide (by
          have e2 := HF.out.2.2
          have hne : (bys s).drop pos ≠ [] := by
            intro e
            rw [e] at hne0
            exact hne0 rfl
          rw [runesL_step _ hne, if_neg hne0, ← HM.out, Option.isSome_map, List.drop_drop] at e2
          exact e2)
        have ES : Hid (R = (stepP st F (bys r)).bind fun z => runsP z.1 z.2 (rns ((bys s).drop (pos + m)))) := hide (by rw [← HF.out.2.1, ER.out, runsP_bind])
        have hc : q = 1 ∨ q = 3 ∨ q = 2 ∨ q = 0 := by omega
        clear HF HM ER hne0 E1
        rcases hc with rfl | rfl | rfl | rfl
        · have EX : Hid (runsP 1 F (rns ((bys s).drop (pos + m))) = R) := hide (by
            rw [ES.out]
            have : stepP st F (bys r) = some (1, F) := by unfold stepP; rw [HQ.out, if_pos (.inl rfl)]
            rw [this]
            rfl)
          have GX := GF1
          have HBX := HB1
          clear ES HQ RR
          go_wp2
          exact ⟨⟨1, pos + m, (m : Int), F, by omega, by omega, by first | rfl | go_num, by go_num, by first | rfl | go_num, hide ⟨GX.out, EX.out, EV.out⟩, HBX⟩, by simp [intOf]; omega⟩
        · have EX : Hid (runsP 3 F (rns ((bys s).drop (pos + m))) = R) := hide (by
            rw [ES.out]
            have : stepP st F (bys r) = some (3, F) := by unfold stepP; rw [HQ.out, if_pos (.inr rfl)]
            rw [this]
            rfl)
          have GX := GF1
          have HBX := HB1
          clear ES HQ RR
          go_wp2
          exact ⟨⟨3, pos + m, (m : Int), F, by omega, by omega, by first | rfl | go_num, by go_num, by first | rfl | go_num, hide ⟨GX.out, EX.out, EV.out⟩, HBX⟩, by simp [intOf]; omega⟩
        · have EX : Hid (runsP 2 (addT F (txtT (bys r))) (rns ((bys s).drop (pos + m))) = R) := hide (by
            rw [ES.out]
            have : stepP st F (bys r) = some (2, addT F (txtT (bys r))) := by unfold stepP; rw [HQ.out, if_neg (by decide), if_pos rfl]
            rw [this]
            rfl)
          have HC := hide (gadd_any (txtT (bys r)) GF1.out (may_txt RR.out) (txt_size RR.out) (fun e => absurd e (by show ¬ (0 : Int) = 5; decide)))
          rw [show tokV (txtT (bys r)) = .agg #[.int .i64 0, .int .i64 0, .string r] from rfl] at HC
          have hco : coinsT (addT F (txtT (bys r))) ≤ 3 := by rw [coins_txt]; decide
          rw [decide_eq_true hco] at HC
          have HCO := hide hco
          clear ES HQ RR hco
          go_wp2_with fail
          refine HC.out.mono ?_
          rintro e w3 ⟨rfl, hg, hb3⟩
          have GX := hide (hg HCO.out)
          have HBX := hide (HB1.out.trans hb3)
          clear HC hg hb3
          go_wp2
          exact ⟨⟨2, pos + m, (m : Int), _, by omega, by omega, by first | rfl | go_num, by go_num, by first | rfl | go_num, hide ⟨GX.out, EX.out, EV.out⟩, HBX⟩, by simp [intOf]; omega⟩
        · have HL := hide (isLetter_any r w1 RR.out TW1.out)
          have hst0 : ¬ ((0 : Nat) = 1 ∨ (0 : Nat) = 3) := by decide
          have hst2 : ¬ ((0 : Nat) = 2) := by decide
          cases hlb : letB (bys r) with
          | true =>
            rw [hlb] at HL
            have EE : Hid (A = (131, [])) := hide (by
              rw [EA.out, ES.out]
              have : stepP st F (bys r) = none := by unfold stepP; rw [HQ.out, if_neg hst0, if_neg hst2, if_pos hlb]
              rw [this]
              rfl)
            have HBX := HB1
            clear ES EA EV HQ RR hlb hst0 hst2 TW1 GF1
            go_wp2_with fail
            refine HL.out.mono ?_
            rintro e w3 ⟨rfl, rfl⟩
            go_wp2
            rw [Exit.noGoto_ret]
            refine bodyPost_ret (results_tmp2 rfl _ _ _) rfl ?_
            exact ⟨_, by rw [EE.out]; rfl, by rw [EE.out]; exact World.ownsRow_nil _ _ _ _, HBX.out⟩
          | false =>
            rw [hlb] at HL
            have HP := hide (plain_any r w1 TW1.out)
            obtain ⟨m1, m2, m3⟩ := may_pln RR.out
            have HC : Hid (∀ X, Below w1.heap.size w1 X → Calls Tryd.prog 33 #[.pointer (some ⟨w.heap.size, 0, none⟩), tokV (plnT (bys r))] X fun e w' => e = .returned (.bool (decide (coinsT (addT F (plnT (bys r))) ≤ 3))) ∧ (coinsT (addT F (plnT (bys r))) ≤ 3 → GatF w' w.heap.size (addT F (plnT (bys r)))) ∧ Below w.heap.size X w') := hide (fun X hX => gadd_any (plnT (bys r)) (GF1.out.below hX) m1 m2 m3)
            have E0 : Hid (stepP st F (bys r) = if coinsT (addT F (plnT (bys r))) ≤ 3 then some (0, addT F (plnT (bys r))) else none) := hide (by
              unfold stepP
              rw [HQ.out, if_neg hst0, if_neg hst2, if_neg (by rw [hlb]; decide)])
            obtain ⟨T, hT⟩ : ∃ T, T = tokV (plnT (bys r)) := ⟨_, rfl⟩
            rw [← hT] at HP HC
            obtain ⟨F2, hF2⟩ : ∃ F2, F2 = addT F (plnT (bys r)) := ⟨_, rfl⟩
            rw [← hF2] at E0 HC
            clear hT hF2 m1 m2 m3 HQ RR hlb hst0 hst2 TW1
            go_wp2_with fail
            refine HL.out.mono ?_
            rintro e w3 ⟨rfl, rfl⟩
            go_wp2_with fail
            refine HP.out.mono ?_
            rintro e w3 ⟨rfl, hb3⟩
            have HC2 := hide (HC.out w3 hb3)
            have HB3 := hide (HB1.out.trans (hb3.mono HB1.out.size))
            clear HL HP HC hb3
            by_cases hco : coinsT F2 ≤ 3
            · have EX : Hid (runsP 0 F2 (rns ((bys s).drop (pos + m))) = R) := hide (by rw [ES.out, E0.out, if_pos hco]; rfl)
              rw [decide_eq_true hco] at HC2
              have HCO := hide hco
              clear hco ES E0
              go_wp2_with fail
              refine HC2.out.mono ?_
              rintro e w4 ⟨rfl, hg, hb4⟩
              have GX := hide (hg HCO.out)
              have HBX := hide (HB3.out.trans hb4)
              clear HC2 hg hb4
              go_wp2
              exact ⟨⟨0, pos + m, (m : Int), F2, by omega, by omega, by first | rfl | go_num, by go_num, by first | rfl | go_num, hide ⟨GX.out, EX.out, EV.out⟩, HBX⟩, by simp [intOf]; omega⟩
            · have EE : Hid (A = (131, [])) := hide (by rw [EA.out, ES.out, E0.out, if_neg hco]; rfl)
              rw [decide_eq_false hco] at HC2
              clear hco ES E0 EA EV
              go_wp2_with fail
              refine HC2.out.mono ?_
              rintro e w4 ⟨rfl, hg, hb4⟩
              have HBX := hide (HB3.out.trans hb4)
              clear HC2 hg hb4
              go_wp2
              rw [Exit.noGoto_ret]
              refine bodyPost_ret (results_tmp2 rfl _ _ _) rfl ?_
              exact ⟨_, by rw [EE.out]; rfl, by rw [EE.out]; exact World.ownsRow_nil _ _ _ _, HBX.out⟩
    · obtain rfl : pos = s.size := by omega
      have hlt' : ¬ (s.size : Int) < (s.size : Int) := by omega
      have e1 := HF.out.2.1
      have e2 := HF.out.2.2
      rw [List.drop_eq_nil_of_le (by rw [bys_len]; exact Nat.le_refl _)] at e1 e2
      have EQ : Hid (A = if st = 1 ∨ st = 2 then (130, []) else if chkT F = 0 then (0, F) else (chkT F, [])) := hide (by
        rw [EA.out, ← e1, ← e2]
        show endR (some (st, F)) true = _
        unfold endR
        simp only [Bool.true_eq_false, if_false])
      obtain ⟨G, ⟨v, g1, g2⟩, gr⟩ := HF.out.1
      have TS := hide (TSl.of_own g2)
      have hG65 := gr.len
      have SZ : Hid (SzT G) := hide (fun i => Nat.le_trans (size_tok G i) (by have := gr.size; omega))
      have CK := hide (Check_any TS.out (by omega) SZ.out TW.out.u8)
      rw [gr.chk] at CK
      have EG := hide gr.eq
      have c0 := g1.cell 0
      have K1 := hide g1
      have K2 := hide g2
      clear e1 e2 HF EA hlt hpos g1 g2 gr TS SZ TW HR HV
      have hc : st = 1 ∨ st = 2 ∨ st = 0 ∨ st = 3 := by omega
      clear hst
      rcases hc with rfl | rfl | hc
      · have EE : Hid (A = (130, [])) := hide (by rw [EQ.out, if_pos (.inl rfl)])
        clear EQ CK EG
        go_wp2
        refine bodyPost_ret (results_tmp2 rfl _ _ _) rfl ?_
        exact ⟨_, by rw [EE.out]; rfl, by rw [EE.out]; exact World.ownsRow_nil _ _ _ _, HB.out⟩
      · have EE : Hid (A = (130, [])) := hide (by rw [EQ.out, if_pos (.inr rfl)])
        clear EQ CK EG
        go_wp2
        refine bodyPost_ret (results_tmp2 rfl _ _ _) rfl ?_
        exact ⟨_, by rw [EE.out]; rfl, by rw [EE.out]; exact World.ownsRow_nil _ _ _ _, HB.out⟩
      · have EE : Hid (A = if chkT F = 0 then (0, F) else (chkT F, [])) := hide (by rw [EQ.out, if_neg (by omega)])
        have hci := chkT_is F
        obtain ⟨C, hC⟩ : ∃ C, C = chkT F := ⟨_, rfl⟩
        rw [← hC] at EE CK hci
        have EG' : Hid (C = 0 → G = F) := hide (fun h => EG.out (by rw [← hC]; exact h))
        clear EQ hC EG
        rcases hci with rfl | hci
        · have E2 : Hid (A = (0, F)) := hide (by rw [EE.out, if_pos rfl])
          have E3 := hide (EG'.out rfl)
          have ex : Hid (∀ wz, Below wr.heap.size wr wz → ∃ v', Ending.returned (Value.tuple #[v, .int .i64 0]) = .returned (.tuple #[v', .int .i64 (A.1 : Int)]) ∧ ParA w wz v' A.2 ∧ Below w.heap.size w wz) := hide (fun wz hz => ⟨v, by rw [E2.out]; rfl, by
            rw [E2.out]
            show wz.ownsRow w.heap.size _ 3 v F.length (cellsT F)
            rw [← E3.out]
            exact own_base (own_below K2.out hz) (Nat.le_succ _), HB.out.trans (hz.mono HB.out.size)⟩)
          have KC : Hid (∀ wz, Below wr.heap.size wr wz → wz.cell? ⟨w.heap.size, 0, none⟩ = some v) := hide (fun wz hz => cell_on hz c0)
          clear EE E2 E3 EG' K1 K2 HB
          rcases hc with rfl | rfl
          all_goals
            go_wp2_with fail
            refine CK.out.mono ?_
            rintro e w2 ⟨rfl, hb⟩
            have d0 := KC.out w2 hb
            have FIN := hide (ex.out w2 hb)
            clear hb CK
            go_wp2
            rw [Exit.noGoto_ret]
            refine bodyPost_ret (results_tmp2 rfl _ _ _) rfl ?_
            exact FIN.out
        · have E2 : Hid (A = (C, [])) := hide (by rw [EE.out, if_neg (by omega)])
          have HBX : Hid (∀ wz, Below wr.heap.size wr wz → Below w.heap.size w wz) := hide (fun wz hz => HB.out.trans (hz.mono HB.out.size))
          clear EE EG' K1 K2 HB
          rcases hci with rfl | rfl
          all_goals
            rcases hc with rfl | rfl
            all_goals
              go_wp2_with fail
              refine CK.out.mono ?_
              rintro e w2 ⟨rfl, hb⟩
              have FIN := hide (HBX.out w2 hb)
              clear hb CK
              go_wp2
              rw [Exit.noGoto_ret]
              refine bodyPost_ret (results_tmp2 rfl _ _ _) rfl ?_
              exact ⟨_, by rw [E2.out]; rfl, by rw [E2.out]; exact World.ownsRow_nil _ _ _ _, FIN.out⟩

end Go.Proofs.YtobcbffakldfcaaDoor

namespace Go.Proofs.YtobcbffakldfcaaDoor
open Go.RowKit

theorem cellsT_one : ∀ (ts : List Tok) (u : Value), u ∈ cellsT ts → u.oneCell' = true
  | [], u, h => by cases h
  | t :: ts, u, h => by
    have e : cellsT (t :: ts) = .int .i64 t.kind :: .int .i64 t.many :: .string t.text :: cellsT ts := rfl
    rw [e] at h
    simp only [List.mem_cons] at h
    rcases h with rfl | rfl | rfl | h
    · rfl
    · rfl
    · rfl
    · exact cellsT_one ts u h
def SrcT (w : World) (v : Value) (us : List Tok) : Prop := v = .slice none 0 0 ∧ us = [] ∨ ∃ ad c, v = .slice (some ad) us.length c ∧ ∀ j u, (cellsT us)[j]? = some u → w.cell? (ad.add j) = some u
theorem wpT_append {w : World} {ops : Array Oper} {rest : List Oper} {o : Oper} {a : Act} {Q : Exit → Act → World → Prop} (hgd : o.guard = none) (s x : Operand)
    (ho : o.op = .call { callee := .builtin .append, args := #[s, x], argTypes := #[22, 22] })
    (base : Nat) (v : Value) (n : Nat) (xs : List Value) (hs : a.eval s = v) (hown : w.ownsRow base 32 3 v n xs)
    (v2 : Value) (us : List Tok) (hx : a.eval x = v2) (hsrc : SrcT w v2 us) (N : Nat) (hN : n + us.length = N) (XS : List Value) (hX : xs ++ cellsT us = XS) (hb : N * 32 ≤ 140737488355328) (hbase : base ≤ w.heap.size)
    (h : ∀ uo uc w', w'.ownsRow base 32 3 (.slice uo N uc) N XS → w.grownBy w' v.ownBlock → wpList Tryd.prog ops Q rest (a.put o.dst (.slice uo N uc)) w') : wpList Tryd.prog ops Q (o :: rest) a w := by
  obtain ⟨i0, hi, hz0, hz1, hz2⟩ := info_parts infoT
  subst hN hX
  have h' : ∀ v' w', w'.ownsRow base 32 3 v' (n + us.length) (xs ++ cellsT us) → w.grownBy w' v.ownBlock → wpList Tryd.prog ops Q rest (a.put o.dst v') w' := fun v' w' h1 h2 => by
    obtain ⟨uo, uc, rfl⟩ := own_slice h1
    exact h uo uc w' h1 h2
  rcases hsrc with ⟨h1, rfl⟩ | ⟨ad, c, h1, h2⟩
  · refine wpList_append_own_none hgd s x _ ho base _ i0 3 Tryd.underlying22 hi v n xs hs hown (hx.trans h1) (h' v w ?_ ?_)
    · simpa [cellsT] using hown
    · exact ⟨rfl, rfl, rfl, Nat.le_refl _, fun _ _ _ => rfl⟩
  · exact wpList_append_own w hgd s x _ ho base _ i0 (.agg #[.int .i64 0, .int .i64 0, .string ⟨#[]⟩]) 3 32 Tryd.underlying22 hi hz0 hz1 hz2 rfl (by decide) v n xs hs hown ad us.length c (cellsT us) (hx.trans h1) (cellsT_len us) h2 (cellsT_one us) (by unfold maxLen; omega) hb hbase (fun v' w' h3 h4 _ => h' v' w' h3 h4)

end Go.Proofs.YtobcbffakldfcaaDoor

namespace Go.Proofs.YtobcbffakldfcaaDoor
open Go.RowKit

set_option maxRecDepth 100000 in
set_option maxHeartbeats 2000000 in
theorem rone_any (t : Tok) (w : World) (hs : t.text.size ≤ 140737488355328) : Calls Tryd.prog 28 #[tokV t] w fun e w' => e = .returned (.bool (mayTok t)) ∧ Below w.heap.size w w' := by
  obtain ⟨k, n, x⟩ := t
  have AL : Hid (∀ o, Below w.heap.size w (w.alloc o)) := hide fun o => (Below.refl _ _).alloc (Nat.le_refl _) _
  unfold tokV
  simp only at hs ⊢
  by_cases k0 : k = 0
  · subst k0
    by_cases hx : x.size = 0
    · have em : mayTok ⟨0, n, x⟩ = false := by unfold mayTok; simp [hx]
      rw [em]
      rw [mk_empty3 hx]
      clear em hx
      go_enter Tryd.func28, Tryd.ntmps28
      go_wp2
      go_ret
      exact ⟨rfl, AL.out _⟩
    · have i1 := tl_ne3 hx
      have i2 := tl_ie3 hx
      have i3 := tl_nb3 hx
      by_cases hn : n = 0
      · subst hn
        have em : mayTok ⟨0, 0, x⟩ = (runesL (bys x)).isSome := by unfold mayTok; simp [hx]
        rw [em]
        have HV : Hid (∀ W, Calls Tryd.prog 51 #[.string x] W fun e w' => e = .returned (.int .i64 (runesI (bys x))) ∧ W = w') := hide (fun W => rRunes_any x W hs)
        have ER : Hid (decide (0 ≤ runesI (bys x)) = (runesL (bys x)).isSome) := hide (by
          unfold runesI
          cases runesL (bys x) with
          | none => rfl
          | some m => exact decide_eq_true (show (0 : Int) ≤ (m : Int) by omega))
        obtain ⟨Z, hZ⟩ : ∃ Z, Z = runesI (bys x) := ⟨_, rfl⟩
        rw [← hZ] at HV ER
        clear em hx hZ
        go_enter Tryd.func28, Tryd.ntmps28
        go_wp2_with fail
        refine (HV.out _).mono ?_
        rintro e w1 ⟨rfl, rfl⟩
        go_wp2
        go_ret
        exact ⟨by rw [← ER.out]; rfl, AL.out _⟩
      · have em : mayTok ⟨0, n, x⟩ = false := by unfold mayTok; simp [hx, hn]
        rw [em]
        have hn' : (n == 0) = false := beq_eq_false_iff_ne.2 hn
        clear em hx
        go_enter Tryd.func28, Tryd.ntmps28
        go_wp2
        go_ret
        exact ⟨rfl, AL.out _⟩
  · have hk' : (k = 1 ∨ k = 2 ∨ k = 3 ∨ k = 4) ∨ k = 5 ∨ (¬ k = 1 ∧ ¬ k = 2 ∧ ¬ k = 3 ∧ ¬ k = 4 ∧ ¬ k = 5) := by omega
    rcases hk' with hk | rfl | hk
    · have em : Hid (mayTok ⟨k, n, x⟩ = (decide (x.size = 0) && decide (n = 0))) := hide (by unfold mayTok; rw [if_neg k0, if_pos hk])
      rw [em.out]
      clear em
      by_cases hx : x.size = 0
      · rw [mk_empty3 hx]
        by_cases hn : n = 0
        · subst hn
          rcases hk with rfl | rfl | rfl | rfl
          all_goals
            go_enter Tryd.func28, Tryd.ntmps28
            go_wp2
            go_ret
            exact ⟨rfl, AL.out _⟩
        · rw [decide_eq_false hn]
          have hn' : (n == 0) = false := beq_eq_false_iff_ne.2 hn
          rcases hk with rfl | rfl | rfl | rfl
          all_goals
            go_enter Tryd.func28, Tryd.ntmps28
            go_wp2
            go_ret
            exact ⟨rfl, AL.out _⟩
      · rw [decide_eq_false hx]
        have i1 := tl_ne3 hx
        have i2 := tl_ie3 hx
        have i3 := tl_nb3 hx
        clear hx
        rcases hk with rfl | rfl | rfl | rfl
        all_goals
          go_enter Tryd.func28, Tryd.ntmps28
          go_wp2
          go_ret
          exact ⟨rfl, AL.out _⟩
    · have em : Hid (mayTok ⟨5, n, x⟩ = (decide (x.size = 0) && (decide (1 ≤ n) && decide (n ≤ 3)))) := hide (by unfold mayTok; simp)
      rw [em.out]
      clear em
      by_cases hx : x.size = 0
      · rw [mk_empty3 hx]
        by_cases h1 : 1 ≤ n
        · by_cases h3 : n ≤ 3
          · rw [decide_eq_true h1, decide_eq_true h3]
            go_enter Tryd.func28, Tryd.ntmps28
            go_wp2
            go_ret
            exact ⟨rfl, AL.out _⟩
          · rw [decide_eq_true h1, decide_eq_false h3]
            go_enter Tryd.func28, Tryd.ntmps28
            go_wp2
            go_ret
            exact ⟨rfl, AL.out _⟩
        · rw [decide_eq_false h1]
          go_enter Tryd.func28, Tryd.ntmps28
          go_wp2
          go_ret
          exact ⟨rfl, AL.out _⟩
      · rw [decide_eq_false hx]
        have i1 := tl_ne3 hx
        have i2 := tl_ie3 hx
        have i3 := tl_nb3 hx
        clear hx
        go_enter Tryd.func28, Tryd.ntmps28
        go_wp2
        go_ret
        exact ⟨rfl, AL.out _⟩
    · have em : mayTok ⟨k, n, x⟩ = false := by unfold mayTok; simp only; rw [if_neg k0, if_neg (by omega), if_neg (by omega)]
      rw [em]
      obtain ⟨a1, a2, a3, a4, a5⟩ := hk
      clear em
      go_enter Tryd.func28, Tryd.ntmps28
      go_wp2
      go_ret
      exact ⟨rfl, AL.out _⟩

end Go.Proofs.YtobcbffakldfcaaDoor
