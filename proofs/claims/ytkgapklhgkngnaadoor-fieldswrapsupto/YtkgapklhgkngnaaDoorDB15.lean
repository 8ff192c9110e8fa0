/-
  FieldsWraps answers true, whatever it is handed: the law's walk.
  What the rows' list of package variables gives, and a world that holds them (a dump without DecodeRuneInString).
-/
import Derived.Test.YtkgapklhgkngnaaDoorDB14
import Derived.Test.YtkgapklhgkngnaaDoorRows
import Derived.Test.YtkgapklhgkngnaaDoorDB3
import Derived.Lib.LaidU8
import Derived.Deep.DeepHandedRow
namespace Go.Proofs.YtkgapklhgkngnaaDoor
open Go.RowKit

def wokB (t : ByteArray) (l : List Sp) (s : Sp) : Bool := mayB t l && mayB t (wrapL l s)
def wT (t : ByteArray) (l : List Sp) (s : Sp) : ByteArray := if wokB t l s = true then t else ⟨#[]⟩
def wS (t : ByteArray) (l : List Sp) (s : Sp) : List Sp := if wokB t l s = true then wrapL l s else []
def wE (t : ByteArray) (l : List Sp) (s : Sp) : Int := if wokB t l s = true then 0 else 170
theorem wok_iff (t : ByteArray) (l : List Sp) (s : Sp) : wokB t l s = true ↔ WrOk t l s := by
  unfold wokB WrOk
  rw [Bool.and_eq_true]
  constructor
  · rintro ⟨h1, h2⟩; exact ⟨h1, (wrap_iff t l s h1).1 h2⟩
  · rintro ⟨h1, h2⟩; exact ⟨h1, (wrap_iff t l s h1).2 h2⟩
theorem wrapL_len (l : List Sp) (s : Sp) : (wrapL l s).length = l.length + 1 := by unfold wrapL; rw [ordS_len]; rfl
theorem wrapL_put {t : ByteArray} {l : List Sp} {s : Sp} (h : mayB t l = true) : putS s l = wrapL l s := by
  unfold wrapL
  rw [ordS, ordS_of ((may_iff t l).1 h).2.2.1]
theorem wrp_c (t : ByteArray) (v : Value) (l : List Sp) (s : Sp) (X : World) (hT : U8 X) (ht : t.size ≤ 9223372036854775807) (hv : SpV X v l) (hno : NilOr v) (hl : (l.length + 2) * 32 ≤ 140737488355328) :
    Calls Tryd.prog 13 #[.agg #[.string t, v], .int .i64 s.f, .int .i64 s.a, .int .i64 s.b] X fun e w' => (∃ uo uc, e = .returned (.tuple #[.agg #[.string (wT t l s), .slice uo (wS t l s).length uc], .int .i64 (wE t l s)]) ∧ Hid (OwnS X.heap.size w' (.slice uo (wS t l s).length uc) (wS t l s))) ∧ Hid (Below X.heap.size X w') := by
  unfold wT wS wE wokB
  cases h1 : mayB t l with
  | false =>
    refine (Wrap_no t v l s X hT ht hv hno hl h1).mono ?_
    rintro e w' ⟨rfl, hb⟩
    exact ⟨⟨none, 0, rfl, hide ⟨rfl, .inl ⟨rfl, rfl⟩⟩⟩, hide hb⟩
  | true =>
    cases h2 : mayB t (wrapL l s) with
    | false =>
      refine (Wrap_no2 t v l s X hT ht hv hno hl h1 h2).mono ?_
      rintro e w' ⟨rfl, hb⟩
      exact ⟨⟨none, 0, rfl, hide ⟨rfl, .inl ⟨rfl, rfl⟩⟩⟩, hide hb⟩
    | true =>
      refine (Wrap_yes t v l s X hT ht hv hno hl h1 h2).mono ?_
      rintro e w' ⟨HE, hb⟩
      obtain ⟨uo, uc, rfl, ho⟩ := HE.out
      simp only [Bool.and_self, if_true]
      refine ⟨⟨uo, uc, by rw [wrapL_len], hide ?_⟩, hide hb⟩
      rw [wrapL_len]
      exact ho
theorem rwrp_c (t : ByteArray) (v : Value) (l : List Sp) (s : Sp) (X : World) (hT : U8 X) (ht : t.size ≤ 140737488355328) (hv : SpV X v l) (hl : (l.length + 2) * 32 ≤ 140737488355328) :
    Calls Tryd.prog 14 #[.agg #[.string t, v], .int .i64 s.f, .int .i64 s.a, .int .i64 s.b] X fun e w' => (∃ uo uc, e = .returned (.tuple #[.agg #[.string (wT t l s), .slice uo (wS t l s).length uc], .int .i64 (wE t l s)]) ∧ Hid (OwnS X.heap.size w' (.slice uo (wS t l s).length uc) (wS t l s))) ∧ Hid (Below X.heap.size X w') := by
  refine (rWrap_any t v l s X hT ht hv hl).mono ?_
  rintro e w' ⟨HE, hb⟩
  unfold wT wS wE
  rcases HE.out with ⟨hm, rfl⟩ | ⟨hm, uo, uc, rfl, ho⟩
  · have q : wokB t l s = false := by
      cases k : wokB t l s with
      | false => rfl
      | true => exact absurd ((wok_iff t l s).1 k) hm
    rw [q]
    exact ⟨⟨none, 0, rfl, hide ⟨rfl, .inl ⟨rfl, rfl⟩⟩⟩, hide hb⟩
  · rw [(wok_iff t l s).2 hm]
    simp only [if_true]
    rw [wrapL_put hm.1] at ho
    refine ⟨⟨uo, uc, by rw [wrapL_len], hide ?_⟩, hide hb⟩
    rw [wrapL_len]
    exact ho
theorem wS_len (t : ByteArray) (l : List Sp) (s : Sp) : (wS t l s).length ≤ l.length + 1 := by
  unfold wS
  split
  · rw [wrapL_len]; exact Nat.le_refl _
  · exact Nat.zero_le _

set_option maxRecDepth 100000 in
set_option maxHeartbeats 32000000 in
theorem wrl_row (w : World) (hT : U8 w) (t : ByteArray) (v : Value) (l : List Sp) (hv : SpV w v l) (hno : NilOr v) (ht : t.size ≤ 1048576) (hl : l.length ≤ 1048576) (f a b : Int) :
    Calls Tryd.prog 4 #[.agg #[.string t, v], .agg #[.int .i64 f, .int .i64 a, .int .i64 b]] w fun e w' => e = .returned (.bool true) ∧ Below w.heap.size w w' := by
  have HV := hide hv
  have HNO := hide hno
  have HT := hide hT
  have hmb := wS_len t l ⟨f, a, b⟩
  have CO := hide (fun (X : World) (hX : SpV X v l) => own_c t v l X hX hno (by omega))
  have CW := hide (fun (X : World) (vv : Value) (hX : U8 X) (hs : SpV X vv l) (hn : NilOr vv) => wrp_c t vv l ⟨f, a, b⟩ X hX (by omega) hs hn (by omega))
  have CR := hide (fun (X : World) (hX : U8 X) (hs : SpV X v l) => rwrp_c t v l ⟨f, a, b⟩ X hX (by omega) hs (by omega))
  have CK := hide (fun (X : World) (g c B : Nat) (h1 : OwnS B X (.slice (some ⟨g, 0, none⟩) (l.length + 1) c) (l ++ [sp77])) (h2 : l.length + 1 ≤ c) (h3 : SpV X v l) => kept_c t g c v l X B h1 h2 h3 (by omega))
  have CC := hide (fun (X : World) (vv : Value) (hX : U8 X) (hs : SpV X vv l) => Check_any t vv l X hX (by omega) hs (by omega))
  have CM := hide (fun (X : World) (hX : U8 X) (hs : SpV X v l) => rMay_any t v l X hX (by omega) hs (by omega))
  obtain ⟨S, hS⟩ : ∃ S, S = wS t l ⟨f, a, b⟩ := ⟨_, rfl⟩
  obtain ⟨T, hTT⟩ : ∃ T, T = wT t l ⟨f, a, b⟩ := ⟨_, rfl⟩
  obtain ⟨E, hE⟩ : ∃ E, E = wE t l ⟨f, a, b⟩ := ⟨_, rfl⟩
  rw [← hS, ← hTT, ← hE] at CW CR
  rw [← hS] at hmb
  have CS := hide (fun (X : World) (v v' : Value) (h : SpV X v S) (h' : SpV X v' S) => Same_true T v v' S X h h' (by omega))
  obtain ⟨m, hm⟩ : ∃ m, m = S.length := ⟨_, rfl⟩
  rw [← hm] at CW CR hmb
  have HM := hide hm
  have hmm : m ≤ 1048577 := by omega
  have hee : (E != E) = false := by simp
  obtain ⟨mb, hmb2⟩ : ∃ mb, mb = mayB t l := ⟨_, rfl⟩
  rw [← hmb2] at CC CM
  obtain ⟨ao, cap, rfl⟩ := hv.len
  obtain ⟨n, hn⟩ : ∃ n, n = l.length := ⟨_, rfl⟩
  rw [← hn] at HV HNO CO CR CK CM ⊢
  have HN := hide hn
  have hnb : n ≤ 1048576 := by omega
  obtain ⟨W1, hW1⟩ : ∃ W1, W1 = (w.alloc (.cells #[.string t, .slice ao n cap] 25)).alloc (.cells #[.int .i64 f, .int .i64 a, .int .i64 b] 34) := ⟨_, rfl⟩
  have b1 : Below w.heap.size w (w.alloc (.cells #[.string t, .slice ao n cap] 25)) := (Below.refl _ _).alloc (Nat.le_refl _) _
  have b2 : Below (w.alloc (.cells #[.string t, .slice ao n cap] 25)).heap.size (w.alloc (.cells #[.string t, .slice ao n cap] 25)) W1 := by rw [hW1]; exact (Below.refl _ _).alloc (Nat.le_refl _) _
  have k1 : Blk (w.alloc (.cells #[.string t, .slice ao n cap] 25)) w.heap.size #[.string t, .slice ao n cap] 25 := Blk.newAt w _ rfl _ _
  have XO1 := hide (k1.below b2 k1.lt)
  have XA1 : Hid (Blk W1 (w.heap.size + 1) #[.int .i64 f, .int .i64 a, .int .i64 b] 34) := hide (by rw [hW1]; exact Blk.newAt _ _ (allocW_size _ _) _ _)
  have B1 := hide (b1.trans (b2.mono b1.size))
  have C1 := hide (CO.out W1 (HV.out.below B1.out))
  have HW := hide hW1.symm
  have x0 := XO1.out.cell 0
  have x1 := XO1.out.cell 1
  clear hv hno hT ht hl hmb hS hTT hE hm hn hmb2 hW1 b1 b2 k1 CO
  go_enter Tryd.func4, Tryd.ntmps4
  go_wp2_with (simp only [HW.out])
  refine C1.out.mono ?_
  rintro e y2 ⟨⟨g, c, rfl, hgc, O2⟩, b2⟩
  obtain ⟨W3, hW3⟩ : ∃ W3, W3 = y2.alloc (.cells #[.string t, .slice (some ⟨g, 0, none⟩) n c] 25) := ⟨_, rfl⟩
  have b3 : Below y2.heap.size y2 W3 := by rw [hW3]; exact (Below.refl _ _).alloc (Nat.le_refl _) _
  have XD3 : Hid (Blk W3 y2.heap.size #[.string t, .slice (some ⟨g, 0, none⟩) n c] 25) := hide (by rw [hW3]; exact Blk.newAt _ _ rfl _ _)
  have B2 := hide (B1.out.trans (b2.out.mono B1.out.size))
  have B3 := hide (B2.out.trans (b3.mono B2.out.size))
  have XO3 := hide ((XO1.out.below b2.out XO1.out.lt).below b3 (Nat.lt_of_lt_of_le XO1.out.lt b2.out.size))
  have XA3 := hide ((XA1.out.below b2.out XA1.out.lt).below b3 (Nat.lt_of_lt_of_le XA1.out.lt b2.out.size))
  have O3 := hide (ownF_below O2.out b3)
  have SA3 : Hid (SpV W3 (.slice (some ⟨g, 0, none⟩) n c) l) := hide (by
    have q0 : OwnS W1.heap.size W3 (.slice (some ⟨g, 0, none⟩) (l.length + 1) c) (l ++ [sp77]) := by rw [← HN.out]; exact O3.out
    have q := OwnS.cut q0 rfl
    rw [HN.out]; exact q.spv)
  have C2 := hide (CW.out W3 _ (HT.out.below B3.out) SA3.out (.inr ⟨_, _, _, rfl⟩))
  have HW3 := hide hW3.symm
  obtain ⟨D, hD⟩ : ∃ D, D = y2.heap.size := ⟨_, rfl⟩
  have d0 := XD3.out.cell 0
  have d1 := XD3.out.cell 1
  have e0 := XA3.out.cell 0
  have e1 := XA3.out.cell 1
  have e2 := XA3.out.cell 2
  clear hW3 b3 b2 O2 C1 HW x0 x1 XO1 XA1 B1 B2 CW
  go_wp2_with (simp only [HW3.out])
  rw [← hD] at XD3 ⊢
  clear hD HW3 d0 d1 e0 e1 e2
  refine C2.out.mono ?_
  rintro e y4 ⟨⟨uo, uc, rfl, O4⟩, b4⟩
  obtain ⟨W5, hW5⟩ : ∃ W5, W5 = y4.alloc (.cells #[.string T, .slice uo m uc] 25) := ⟨_, rfl⟩
  have b5 : Below y4.heap.size y4 W5 := by rw [hW5]; exact (Below.refl _ _).alloc (Nat.le_refl _) _
  have B35 := hide (b4.out.trans (b5.mono b4.out.size))
  have XW5 : Hid (Blk W5 y4.heap.size #[.string T, .slice uo m uc] 25) := hide (by rw [hW5]; exact Blk.newAt _ _ rfl _ _)
  have OW5 := hide (ownF_below O4.out b5)
  have LT5 : Hid (∀ q, (Value.slice uo m uc).ownBlock = some q → q < y4.heap.size) := hide (fun q hq => (World.ownsRow.lt O4.out q hq).2)
  have LE5 := hide (show W3.heap.size ≤ y4.heap.size from b4.out.size)
  have HW5 := hide hW5.symm
  have B5 := hide (B3.out.trans (B35.out.mono B3.out.size))
  have C3 := hide (CR.out W5 (HT.out.below B5.out) (HV.out.below B5.out))
  have XO5 := hide (XO3.out.below B35.out XO3.out.lt)
  have XA5 := hide (XA3.out.below B35.out XA3.out.lt)
  have x0 := XO5.out.cell 0
  have x1 := XO5.out.cell 1
  have e0 := XA5.out.cell 0
  have e1 := XA5.out.cell 1
  have e2 := XA5.out.cell 2
  obtain ⟨D6, hD6⟩ : ∃ D6, D6 = y4.heap.size := ⟨_, rfl⟩
  clear hW5 b5 b4 O4 C2 CR
  go_wp2_with (simp only [HW5.out])
  rw [← hD6] at XW5 LT5 LE5 ⊢
  clear hD6 HW5 x0 x1 e0 e1 e2 XO5 XA5 XA3
  refine C3.out.mono ?_
  rintro e y6 ⟨⟨vo, vc, rfl, O6⟩, b6⟩
  obtain ⟨W7, hW7⟩ : ∃ W7, W7 = y6.alloc (.cells #[.string T, .slice vo m vc] 25) := ⟨_, rfl⟩
  have b7 : Below y6.heap.size y6 W7 := by rw [hW7]; exact (Below.refl _ _).alloc (Nat.le_refl _) _
  have B57 := hide (b6.out.trans (b7.mono b6.out.size))
  have B37 := hide (B35.out.trans (B57.out.mono B35.out.size))
  have B7 := hide (B3.out.trans (B37.out.mono B3.out.size))
  have XW7 := hide (XW5.out.below B57.out XW5.out.lt)
  have OW7 := hide (ownF_below OW5.out B57.out)
  have XX7 : Hid (Blk W7 y6.heap.size #[.string T, .slice vo m vc] 25) := hide (by rw [hW7]; exact Blk.newAt _ _ rfl _ _)
  have OX7 := hide (ownF_below O6.out b7)
  have XD7 := hide (XD3.out.below B37.out XD3.out.lt)
  have XO7 := hide (XO3.out.below B37.out XO3.out.lt)
  have SA7 := hide (SA3.out.below B37.out)
  have SO7 := hide (HV.out.below B7.out)
  have s1 : Hid (SpV W7 (.slice uo m uc) S) := hide (OwnS.spv (B := W3.heap.size) OW7.out)
  have s2 : Hid (SpV W7 (.slice vo m vc) S) := hide (OwnS.spv (B := W5.heap.size) OX7.out)
  have HW7 := hide hW7.symm
  obtain ⟨D8, hD8⟩ : ∃ D8, D8 = y6.heap.size := ⟨_, rfl⟩
  clear hW7 b7 b6 O6 C3 XW5 OW5 B5 B35 B57 OX7
  go_wp2_with (simp only [HW7.out])
  rw [← hD8] at XX7 ⊢
  clear hD8 HW7
  have KA := hide (fun (X : World) (hX : Below W7.heap.size W7 X) => awake17_any X (HT.out.below (B7.out.trans (hX.mono B7.out.size))))
  have KS := hide (fun (X : World) (hX : Below W7.heap.size W7 X) => CS.out X _ _ (s1.out.below hX) (s2.out.below hX))
  have KC := hide (fun (X : World) (hX : Below W7.heap.size W7 X) => CC.out X _ (HT.out.below (B7.out.trans (hX.mono B7.out.size))) (SA7.out.below hX))
  have KM := hide (fun (X : World) (hX : Below W7.heap.size W7 X) => CM.out X (HT.out.below (B7.out.trans (hX.mono B7.out.size))) (SO7.out.below hX))
  clear CS CC CM s1 s2 SA7 SO7 SA3
  go_cut [65] (fun vx wx => vx = .bool false ∧ Hid (Below W7.heap.size W7 wx))
  case first =>
    cases mb with
    | false =>
      have e7 : errM false = 170 := rfl
      rw [e7] at KC
      go_wp2_with fail
      refine wp_region_held_drew (S := fun Y => Below W7.heap.size W7 Y) (by kernel_rfl) ?_ (fun hHeld => ?_)
      · exact (Below.refl _ _).drew
      refine wpAnyH_ready (rs := [0]) (by kernel_rfl) (by simp) ?_
      refine AllReadyH.cons (o := Oper.mk (some 35) _ _ _ _ _) rfl (fun K hK => ?_) AllReadyH.nil
      go_simp
      refine (KA.out _ hHeld).mono ?_
      rintro e z0 ⟨rfl, hb⟩
      refine hK.out _ _ ?_ (fun hHeld => ?_)
      · exact hHeld.trans (hb.mono hHeld.size)
      clear hK K
      refine wpAnyH_take (i := 1) (oi := Oper.mk (some 36) _ _ _ _ _) (v := .bool false) rfl (by kernel_rfl) (by kernel_rfl) (by kernel_rfl) (fun _ _ _ h => h) (Or.inl ⟨by rfl, ?_⟩) (by assumption) ?_
      · intro wX hSw
        (try dsimp only at hSw)
        go_simp
      simp only [Act.put, List.setIfInBounds_toArray, List.set_cons_succ, List.set_cons_zero]
      refine wpAnyH_take (i := 2) (oi := Oper.mk (some 37) _ _ _ _ _) (v := .bool false) rfl (by kernel_rfl) (by kernel_rfl) (by kernel_rfl) (fun _ _ _ h => h) (Or.inl ⟨by rfl, ?_⟩) (by assumption) ?_
      · intro wX hSw
        (try dsimp only at hSw)
        go_simp
      simp only [Act.put, List.setIfInBounds_toArray, List.set_cons_succ, List.set_cons_zero]
      refine wpAnyH_take (i := 3) (oi := Oper.mk (some 38) _ _ _ _ _) (v := .int .i64 E) rfl (by kernel_rfl) (by kernel_rfl) (by kernel_rfl) (fun _ _ _ h => h) (Or.inl ⟨by rfl, ?_⟩) (by assumption) ?_
      · intro wX hSw
        (try dsimp only at hSw)
        go_simp
      simp only [Act.put, List.setIfInBounds_toArray, List.set_cons_succ, List.set_cons_zero]
      refine wpAnyH_take (i := 4) (oi := Oper.mk (some 39) _ _ _ _ _) (v := .int .i64 E) rfl (by kernel_rfl) (by kernel_rfl) (by kernel_rfl) (fun _ _ _ h => h) (Or.inl ⟨by rfl, ?_⟩) (by assumption) ?_
      · intro wX hSw
        (try dsimp only at hSw)
        go_simp
      simp only [Act.put, List.setIfInBounds_toArray, List.set_cons_succ, List.set_cons_zero]
      refine wpAnyH_take (i := 5) (oi := Oper.mk (some 40) _ _ _ _ _) (v := .bool false) rfl (by kernel_rfl) (by kernel_rfl) (by kernel_rfl) (fun _ _ _ h => h) (Or.inl ⟨by rfl, ?_⟩) (by assumption) ?_
      · intro wX hSw
        (try dsimp only at hSw)
        go_simp
      simp only [Act.put, List.setIfInBounds_toArray, List.set_cons_succ, List.set_cons_zero]
      refine wpAnyH_take (i := 6) (oi := Oper.mk (some 41) _ _ _ _ _) (v := .bool false) rfl (by kernel_rfl) (by kernel_rfl) (by kernel_rfl) (fun _ _ _ h => h) (Or.inl ⟨by rfl, ?_⟩) (by assumption) ?_
      · intro wX hSw
        (try dsimp only at hSw)
        go_simp
      simp only [Act.put, List.setIfInBounds_toArray, List.set_cons_succ, List.set_cons_zero]
      refine wpAnyH_take (i := 7) (oi := Oper.mk (some 42) _ _ _ _ _) (v := .bool false) rfl (by kernel_rfl) (by kernel_rfl) (by kernel_rfl) (fun _ _ _ h => h) (Or.inl ⟨by rfl, ?_⟩) (by assumption) ?_
      · intro wX hSw
        (try dsimp only at hSw)
        go_simp
      simp only [Act.put, List.setIfInBounds_toArray, List.set_cons_succ, List.set_cons_zero]
      refine wpAnyH_take (i := 8) (oi := Oper.mk (some 43) _ _ _ _ _) (v := .agg #[.string T, .slice uo m uc]) rfl (by kernel_rfl) (by kernel_rfl) (by kernel_rfl) (fun _ _ _ h => h) (Or.inl ⟨by rfl, ?_⟩) (by assumption) ?_
      · intro wX hSw
        (try dsimp only at hSw)
        have q0 := (XW7.out.below hSw XW7.out.lt).cell 0; have q1 := (XW7.out.below hSw XW7.out.lt).cell 1
        go_simp
      simp only [Act.put, List.setIfInBounds_toArray, List.set_cons_succ, List.set_cons_zero]
      refine wpAnyH_take (i := 9) (oi := Oper.mk (some 44) _ _ _ _ _) (v := .agg #[.string T, .slice vo m vc]) rfl (by kernel_rfl) (by kernel_rfl) (by kernel_rfl) (fun _ _ _ h => h) (Or.inl ⟨by rfl, ?_⟩) (by assumption) ?_
      · intro wX hSw
        (try dsimp only at hSw)
        have q0 := (XX7.out.below hSw XX7.out.lt).cell 0; have q1 := (XX7.out.below hSw XX7.out.lt).cell 1
        go_simp
      simp only [Act.put, List.setIfInBounds_toArray, List.set_cons_succ, List.set_cons_zero]
      refine wpAnyH_ready (rs := [10]) (by kernel_rfl) (by simp) ?_
      refine AllReadyH.cons (o := Oper.mk (some 45) _ _ _ _ _) rfl (fun K hK => ?_) AllReadyH.nil
      go_simp
      refine (KS.out _ hHeld).mono ?_
      rintro e z1 ⟨rfl, hb⟩
      refine hK.out _ _ ?_ (fun hHeld => ?_)
      · exact hHeld.trans (hb.mono hHeld.size)
      clear hK K
      refine wpAnyH_take (i := 11) (oi := Oper.mk (some 46) _ _ _ _ _) (v := .bool false) rfl (by kernel_rfl) (by kernel_rfl) (by kernel_rfl) (fun _ _ _ h => h) (Or.inl ⟨by rfl, ?_⟩) (by assumption) ?_
      · intro wX hSw
        (try dsimp only at hSw)
        go_simp
      simp only [Act.put, List.setIfInBounds_toArray, List.set_cons_succ, List.set_cons_zero]
      refine wpAnyH_take (i := 12) (oi := Oper.mk (some 47) _ _ _ _ _) (v := .bool false) rfl (by kernel_rfl) (by kernel_rfl) (by kernel_rfl) (fun _ _ _ h => h) (Or.inl ⟨by rfl, ?_⟩) (by assumption) ?_
      · intro wX hSw
        (try dsimp only at hSw)
        go_simp
      simp only [Act.put, List.setIfInBounds_toArray, List.set_cons_succ, List.set_cons_zero]
      refine wpAnyH_take (i := 13) (oi := Oper.mk (some 48) _ _ _ _ _) (v := .bool false) rfl (by kernel_rfl) (by kernel_rfl) (by kernel_rfl) (fun _ _ _ h => h) (Or.inl ⟨by rfl, ?_⟩) (by assumption) ?_
      · intro wX hSw
        (try dsimp only at hSw)
        go_simp
      simp only [Act.put, List.setIfInBounds_toArray, List.set_cons_succ, List.set_cons_zero]
      refine wpAnyH_take (i := 14) (oi := Oper.mk (some 49) _ _ _ _ _) (v := .agg #[.string t, .slice (some ⟨g, 0, none⟩) n c]) rfl (by kernel_rfl) (by kernel_rfl) (by kernel_rfl) (fun _ _ _ h => h) (Or.inl ⟨by rfl, ?_⟩) (by assumption) ?_
      · intro wX hSw
        (try dsimp only at hSw)
        have q0 := (XD7.out.below hSw XD7.out.lt).cell 0; have q1 := (XD7.out.below hSw XD7.out.lt).cell 1
        go_simp
      simp only [Act.put, List.setIfInBounds_toArray, List.set_cons_succ, List.set_cons_zero]
      refine wpAnyH_take (i := 17) (oi := Oper.mk (some 52) _ _ _ _ _) (v := .agg #[.string t, .slice ao n cap]) rfl (by kernel_rfl) (by kernel_rfl) (by kernel_rfl) (fun _ _ _ h => h) (Or.inl ⟨by rfl, ?_⟩) (by assumption) ?_
      · intro wX hSw
        (try dsimp only at hSw)
        have q0 := (XO7.out.below hSw XO7.out.lt).cell 0; have q1 := (XO7.out.below hSw XO7.out.lt).cell 1
        go_simp
      simp only [Act.put, List.setIfInBounds_toArray, List.set_cons_succ, List.set_cons_zero]
      refine wpAnyH_ready (rs := [15]) (by kernel_rfl) (by simp) ?_
      refine AllReadyH.cons (o := Oper.mk (some 50) _ _ _ _ _) rfl (fun K hK => ?_) AllReadyH.nil
      go_simp
      refine (KC.out _ hHeld).mono ?_
      rintro e z2 ⟨rfl, hb⟩
      refine hK.out _ _ ?_ (fun hHeld => ?_)
      · exact hHeld.trans (hb.mono hHeld.size)
      clear hK K
      refine wpAnyH_take (i := 16) (oi := Oper.mk (some 51) _ _ _ _ _) (v := .bool false) rfl (by kernel_rfl) (by kernel_rfl) (by kernel_rfl) (fun _ _ _ h => h) (Or.inl ⟨by rfl, ?_⟩) (by assumption) ?_
      · intro wX hSw
        (try dsimp only at hSw)
        go_simp
      simp only [Act.put, List.setIfInBounds_toArray, List.set_cons_succ, List.set_cons_zero]
      refine wpAnyH_ready (rs := [18]) (by kernel_rfl) (by simp) ?_
      refine AllReadyH.cons (o := Oper.mk (some 53) _ _ _ _ _) rfl (fun K hK => ?_) AllReadyH.nil
      go_simp
      refine (KM.out _ hHeld).mono ?_
      rintro e z3 ⟨rfl, hb⟩
      refine hK.out _ _ ?_ (fun hHeld => ?_)
      · exact hHeld.trans (hb.mono hHeld.size)
      clear hK K
      refine wpAnyH_take (i := 19) (oi := Oper.mk (some 54) _ _ _ _ _) (v := .bool false) rfl (by kernel_rfl) (by kernel_rfl) (by kernel_rfl) (fun _ _ _ h => h) (Or.inl ⟨by rfl, ?_⟩) (by assumption) ?_
      · intro wX hSw
        (try dsimp only at hSw)
        go_simp
      simp only [Act.put, List.setIfInBounds_toArray, List.set_cons_succ, List.set_cons_zero]
      refine wpAnyH_take (i := 20) (oi := Oper.mk (some 55) _ _ _ _ _) (v := .bool false) rfl (by kernel_rfl) (by kernel_rfl) (by kernel_rfl) (fun _ _ _ h => h) (Or.inl ⟨by rfl, ?_⟩) (by assumption) ?_
      · intro wX hSw
        (try dsimp only at hSw)
        go_simp
      simp only [Act.put, List.setIfInBounds_toArray, List.set_cons_succ, List.set_cons_zero]
      refine wpAnyH_take (i := 21) (oi := Oper.mk (some 56) _ _ _ _ _) (v := .bool false) rfl (by kernel_rfl) (by kernel_rfl) (by kernel_rfl) (fun _ _ _ h => h) (Or.inl ⟨by rfl, ?_⟩) (by assumption) ?_
      · intro wX hSw
        (try dsimp only at hSw)
        go_simp
      simp only [Act.put, List.setIfInBounds_toArray, List.set_cons_succ, List.set_cons_zero]
      refine wpAnyH_take (i := 22) (oi := Oper.mk (some 57) _ _ _ _ _) (v := .agg #[.string t, .slice (some ⟨g, 0, none⟩) n c]) rfl (by kernel_rfl) (by kernel_rfl) (by kernel_rfl) (fun _ _ _ h => h) (Or.inl ⟨by rfl, ?_⟩) (by assumption) ?_
      · intro wX hSw
        (try dsimp only at hSw)
        have q0 := (XD7.out.below hSw XD7.out.lt).cell 0; have q1 := (XD7.out.below hSw XD7.out.lt).cell 1
        go_simp
      simp only [Act.put, List.setIfInBounds_toArray, List.set_cons_succ, List.set_cons_zero]
      refine wpAnyH_ready (rs := [23]) (by kernel_rfl) (by simp) ?_
      refine AllReadyH.cons (o := Oper.mk (some 58) _ _ _ _ _) rfl (fun K hK => ?_) AllReadyH.nil
      go_simp
      refine (KC.out _ hHeld).mono ?_
      rintro e z4 ⟨rfl, hb⟩
      refine hK.out _ _ ?_ (fun hHeld => ?_)
      · exact hHeld.trans (hb.mono hHeld.size)
      clear hK K
      refine wpAnyH_take (i := 24) (oi := Oper.mk (some 59) _ _ _ _ _) (v := .bool true) rfl (by kernel_rfl) (by kernel_rfl) (by kernel_rfl) (fun _ _ _ h => h) (Or.inl ⟨by rfl, ?_⟩) (by assumption) ?_
      · intro wX hSw
        (try dsimp only at hSw)
        go_simp
      simp only [Act.put, List.setIfInBounds_toArray, List.set_cons_succ, List.set_cons_zero]
      refine wpAnyH_take (i := 25) (oi := Oper.mk (some 60) _ _ _ _ _) (v := .bool true) rfl (by kernel_rfl) (by kernel_rfl) (by kernel_rfl) (fun _ _ _ h => h) (Or.inl ⟨by rfl, ?_⟩) (by assumption) ?_
      · intro wX hSw
        (try dsimp only at hSw)
        go_simp
      simp only [Act.put, List.setIfInBounds_toArray, List.set_cons_succ, List.set_cons_zero]
      refine wpAnyH_take (i := 26) (oi := Oper.mk (some 61) _ _ _ _ _) (v := .agg #[.string t, .slice (some ⟨g, 0, none⟩) n c]) rfl (by kernel_rfl) (by kernel_rfl) (by kernel_rfl) (fun _ _ _ h => h) (Or.inl ⟨by rfl, ?_⟩) (by assumption) ?_
      · intro wX hSw
        (try dsimp only at hSw)
        have q0 := (XD7.out.below hSw XD7.out.lt).cell 0; have q1 := (XD7.out.below hSw XD7.out.lt).cell 1
        go_simp
      simp only [Act.put, List.setIfInBounds_toArray, List.set_cons_succ, List.set_cons_zero]
      refine wpAnyH_ready (rs := [27]) (by kernel_rfl) (by simp) ?_
      refine AllReadyH.cons (o := Oper.mk (some 62) _ _ _ _ _) rfl (fun K hK => ?_) AllReadyH.nil
      go_simp
      refine (KC.out _ hHeld).mono ?_
      rintro e z5 ⟨rfl, hb⟩
      refine hK.out _ _ ?_ (fun hHeld => ?_)
      · exact hHeld.trans (hb.mono hHeld.size)
      clear hK K
      refine wpAnyH_take (i := 28) (oi := Oper.mk (some 63) _ _ _ _ _) (v := .bool false) rfl (by kernel_rfl) (by kernel_rfl) (by kernel_rfl) (fun _ _ _ h => h) (Or.inl ⟨by rfl, ?_⟩) (by assumption) ?_
      · intro wX hSw
        (try dsimp only at hSw)
        go_simp
      simp only [Act.put, List.setIfInBounds_toArray, List.set_cons_succ, List.set_cons_zero]
      refine wpAnyH_take (i := 29) (oi := Oper.mk (some 64) _ _ _ _ _) (v := .bool false) rfl (by kernel_rfl) (by kernel_rfl) (by kernel_rfl) (fun _ _ _ h => h) (Or.inl ⟨by rfl, ?_⟩) (by assumption) ?_
      · intro wX hSw
        (try dsimp only at hSw)
        go_simp
      simp only [Act.put, List.setIfInBounds_toArray, List.set_cons_succ, List.set_cons_zero]
      refine wpAnyH_take (i := 30) (oi := Oper.mk (some 65) _ _ _ _ _) (v := .bool false) rfl (by kernel_rfl) (by kernel_rfl) (by kernel_rfl) (fun _ _ _ h => h) (Or.inl ⟨by rfl, ?_⟩) (by assumption) ?_
      · intro wX hSw
        (try dsimp only at hSw)
        go_simp
      simp only [Act.put, List.setIfInBounds_toArray, List.set_cons_succ, List.set_cons_zero]
      refine wpAnyH_done (by kernel_rfl) ?_ _
      go_wp2_with fail
      go_meet
      exact ⟨rfl, hide hHeld⟩
    | true =>
      have e7 : errM true = 0 := rfl
      rw [e7] at KC
      go_wp2_with fail
      refine wp_region_held_drew (S := fun Y => Below W7.heap.size W7 Y) (by kernel_rfl) ?_ (fun hHeld => ?_)
      · exact (Below.refl _ _).drew
      refine wpAnyH_ready (rs := [0]) (by kernel_rfl) (by simp) ?_
      refine AllReadyH.cons (o := Oper.mk (some 35) _ _ _ _ _) rfl (fun K hK => ?_) AllReadyH.nil
      go_simp
      refine (KA.out _ hHeld).mono ?_
      rintro e z0 ⟨rfl, hb⟩
      refine hK.out _ _ ?_ (fun hHeld => ?_)
      · exact hHeld.trans (hb.mono hHeld.size)
      clear hK K
      refine wpAnyH_take (i := 1) (oi := Oper.mk (some 36) _ _ _ _ _) (v := .bool false) rfl (by kernel_rfl) (by kernel_rfl) (by kernel_rfl) (fun _ _ _ h => h) (Or.inl ⟨by rfl, ?_⟩) (by assumption) ?_
      · intro wX hSw
        (try dsimp only at hSw)
        go_simp
      simp only [Act.put, List.setIfInBounds_toArray, List.set_cons_succ, List.set_cons_zero]
      refine wpAnyH_take (i := 2) (oi := Oper.mk (some 37) _ _ _ _ _) (v := .bool false) rfl (by kernel_rfl) (by kernel_rfl) (by kernel_rfl) (fun _ _ _ h => h) (Or.inl ⟨by rfl, ?_⟩) (by assumption) ?_
      · intro wX hSw
        (try dsimp only at hSw)
        go_simp
      simp only [Act.put, List.setIfInBounds_toArray, List.set_cons_succ, List.set_cons_zero]
      refine wpAnyH_take (i := 3) (oi := Oper.mk (some 38) _ _ _ _ _) (v := .int .i64 E) rfl (by kernel_rfl) (by kernel_rfl) (by kernel_rfl) (fun _ _ _ h => h) (Or.inl ⟨by rfl, ?_⟩) (by assumption) ?_
      · intro wX hSw
        (try dsimp only at hSw)
        go_simp
      simp only [Act.put, List.setIfInBounds_toArray, List.set_cons_succ, List.set_cons_zero]
      refine wpAnyH_take (i := 4) (oi := Oper.mk (some 39) _ _ _ _ _) (v := .int .i64 E) rfl (by kernel_rfl) (by kernel_rfl) (by kernel_rfl) (fun _ _ _ h => h) (Or.inl ⟨by rfl, ?_⟩) (by assumption) ?_
      · intro wX hSw
        (try dsimp only at hSw)
        go_simp
      simp only [Act.put, List.setIfInBounds_toArray, List.set_cons_succ, List.set_cons_zero]
      refine wpAnyH_take (i := 5) (oi := Oper.mk (some 40) _ _ _ _ _) (v := .bool false) rfl (by kernel_rfl) (by kernel_rfl) (by kernel_rfl) (fun _ _ _ h => h) (Or.inl ⟨by rfl, ?_⟩) (by assumption) ?_
      · intro wX hSw
        (try dsimp only at hSw)
        go_simp
      simp only [Act.put, List.setIfInBounds_toArray, List.set_cons_succ, List.set_cons_zero]
      refine wpAnyH_take (i := 6) (oi := Oper.mk (some 41) _ _ _ _ _) (v := .bool false) rfl (by kernel_rfl) (by kernel_rfl) (by kernel_rfl) (fun _ _ _ h => h) (Or.inl ⟨by rfl, ?_⟩) (by assumption) ?_
      · intro wX hSw
        (try dsimp only at hSw)
        go_simp
      simp only [Act.put, List.setIfInBounds_toArray, List.set_cons_succ, List.set_cons_zero]
      refine wpAnyH_take (i := 7) (oi := Oper.mk (some 42) _ _ _ _ _) (v := .bool false) rfl (by kernel_rfl) (by kernel_rfl) (by kernel_rfl) (fun _ _ _ h => h) (Or.inl ⟨by rfl, ?_⟩) (by assumption) ?_
      · intro wX hSw
        (try dsimp only at hSw)
        go_simp
      simp only [Act.put, List.setIfInBounds_toArray, List.set_cons_succ, List.set_cons_zero]
      refine wpAnyH_take (i := 8) (oi := Oper.mk (some 43) _ _ _ _ _) (v := .agg #[.string T, .slice uo m uc]) rfl (by kernel_rfl) (by kernel_rfl) (by kernel_rfl) (fun _ _ _ h => h) (Or.inl ⟨by rfl, ?_⟩) (by assumption) ?_
      · intro wX hSw
        (try dsimp only at hSw)
        have q0 := (XW7.out.below hSw XW7.out.lt).cell 0; have q1 := (XW7.out.below hSw XW7.out.lt).cell 1
        go_simp
      simp only [Act.put, List.setIfInBounds_toArray, List.set_cons_succ, List.set_cons_zero]
      refine wpAnyH_take (i := 9) (oi := Oper.mk (some 44) _ _ _ _ _) (v := .agg #[.string T, .slice vo m vc]) rfl (by kernel_rfl) (by kernel_rfl) (by kernel_rfl) (fun _ _ _ h => h) (Or.inl ⟨by rfl, ?_⟩) (by assumption) ?_
      · intro wX hSw
        (try dsimp only at hSw)
        have q0 := (XX7.out.below hSw XX7.out.lt).cell 0; have q1 := (XX7.out.below hSw XX7.out.lt).cell 1
        go_simp
      simp only [Act.put, List.setIfInBounds_toArray, List.set_cons_succ, List.set_cons_zero]
      refine wpAnyH_ready (rs := [10]) (by kernel_rfl) (by simp) ?_
      refine AllReadyH.cons (o := Oper.mk (some 45) _ _ _ _ _) rfl (fun K hK => ?_) AllReadyH.nil
      go_simp
      refine (KS.out _ hHeld).mono ?_
      rintro e z1 ⟨rfl, hb⟩
      refine hK.out _ _ ?_ (fun hHeld => ?_)
      · exact hHeld.trans (hb.mono hHeld.size)
      clear hK K
      refine wpAnyH_take (i := 11) (oi := Oper.mk (some 46) _ _ _ _ _) (v := .bool false) rfl (by kernel_rfl) (by kernel_rfl) (by kernel_rfl) (fun _ _ _ h => h) (Or.inl ⟨by rfl, ?_⟩) (by assumption) ?_
      · intro wX hSw
        (try dsimp only at hSw)
        go_simp
      simp only [Act.put, List.setIfInBounds_toArray, List.set_cons_succ, List.set_cons_zero]
      refine wpAnyH_take (i := 12) (oi := Oper.mk (some 47) _ _ _ _ _) (v := .bool false) rfl (by kernel_rfl) (by kernel_rfl) (by kernel_rfl) (fun _ _ _ h => h) (Or.inl ⟨by rfl, ?_⟩) (by assumption) ?_
      · intro wX hSw
        (try dsimp only at hSw)
        go_simp
      simp only [Act.put, List.setIfInBounds_toArray, List.set_cons_succ, List.set_cons_zero]
      refine wpAnyH_take (i := 13) (oi := Oper.mk (some 48) _ _ _ _ _) (v := .bool false) rfl (by kernel_rfl) (by kernel_rfl) (by kernel_rfl) (fun _ _ _ h => h) (Or.inl ⟨by rfl, ?_⟩) (by assumption) ?_
      · intro wX hSw
        (try dsimp only at hSw)
        go_simp
      simp only [Act.put, List.setIfInBounds_toArray, List.set_cons_succ, List.set_cons_zero]
      refine wpAnyH_take (i := 14) (oi := Oper.mk (some 49) _ _ _ _ _) (v := .agg #[.string t, .slice (some ⟨g, 0, none⟩) n c]) rfl (by kernel_rfl) (by kernel_rfl) (by kernel_rfl) (fun _ _ _ h => h) (Or.inl ⟨by rfl, ?_⟩) (by assumption) ?_
      · intro wX hSw
        (try dsimp only at hSw)
        have q0 := (XD7.out.below hSw XD7.out.lt).cell 0; have q1 := (XD7.out.below hSw XD7.out.lt).cell 1
        go_simp
      simp only [Act.put, List.setIfInBounds_toArray, List.set_cons_succ, List.set_cons_zero]
      refine wpAnyH_take (i := 17) (oi := Oper.mk (some 52) _ _ _ _ _) (v := .agg #[.string t, .slice ao n cap]) rfl (by kernel_rfl) (by kernel_rfl) (by kernel_rfl) (fun _ _ _ h => h) (Or.inl ⟨by rfl, ?_⟩) (by assumption) ?_
      · intro wX hSw
        (try dsimp only at hSw)
        have q0 := (XO7.out.below hSw XO7.out.lt).cell 0; have q1 := (XO7.out.below hSw XO7.out.lt).cell 1
        go_simp
      simp only [Act.put, List.setIfInBounds_toArray, List.set_cons_succ, List.set_cons_zero]
      refine wpAnyH_ready (rs := [15]) (by kernel_rfl) (by simp) ?_
      refine AllReadyH.cons (o := Oper.mk (some 50) _ _ _ _ _) rfl (fun K hK => ?_) AllReadyH.nil
      go_simp
      refine (KC.out _ hHeld).mono ?_
      rintro e z2 ⟨rfl, hb⟩
      refine hK.out _ _ ?_ (fun hHeld => ?_)
      · exact hHeld.trans (hb.mono hHeld.size)
      clear hK K
      refine wpAnyH_take (i := 16) (oi := Oper.mk (some 51) _ _ _ _ _) (v := .bool true) rfl (by kernel_rfl) (by kernel_rfl) (by kernel_rfl) (fun _ _ _ h => h) (Or.inl ⟨by rfl, ?_⟩) (by assumption) ?_
      · intro wX hSw
        (try dsimp only at hSw)
        go_simp
      simp only [Act.put, List.setIfInBounds_toArray, List.set_cons_succ, List.set_cons_zero]
      refine wpAnyH_ready (rs := [18]) (by kernel_rfl) (by simp) ?_
      refine AllReadyH.cons (o := Oper.mk (some 53) _ _ _ _ _) rfl (fun K hK => ?_) AllReadyH.nil
      go_simp
      refine (KM.out _ hHeld).mono ?_
      rintro e z3 ⟨rfl, hb⟩
      refine hK.out _ _ ?_ (fun hHeld => ?_)
      · exact hHeld.trans (hb.mono hHeld.size)
      clear hK K
      refine wpAnyH_take (i := 19) (oi := Oper.mk (some 54) _ _ _ _ _) (v := .bool false) rfl (by kernel_rfl) (by kernel_rfl) (by kernel_rfl) (fun _ _ _ h => h) (Or.inl ⟨by rfl, ?_⟩) (by assumption) ?_
      · intro wX hSw
        (try dsimp only at hSw)
        go_simp
      simp only [Act.put, List.setIfInBounds_toArray, List.set_cons_succ, List.set_cons_zero]
      refine wpAnyH_take (i := 20) (oi := Oper.mk (some 55) _ _ _ _ _) (v := .bool false) rfl (by kernel_rfl) (by kernel_rfl) (by kernel_rfl) (fun _ _ _ h => h) (Or.inl ⟨by rfl, ?_⟩) (by assumption) ?_
      · intro wX hSw
        (try dsimp only at hSw)
        go_simp
      simp only [Act.put, List.setIfInBounds_toArray, List.set_cons_succ, List.set_cons_zero]
      refine wpAnyH_take (i := 21) (oi := Oper.mk (some 56) _ _ _ _ _) (v := .bool false) rfl (by kernel_rfl) (by kernel_rfl) (by kernel_rfl) (fun _ _ _ h => h) (Or.inl ⟨by rfl, ?_⟩) (by assumption) ?_
      · intro wX hSw
        (try dsimp only at hSw)
        go_simp
      simp only [Act.put, List.setIfInBounds_toArray, List.set_cons_succ, List.set_cons_zero]
      refine wpAnyH_take (i := 22) (oi := Oper.mk (some 57) _ _ _ _ _) (v := .agg #[.string t, .slice (some ⟨g, 0, none⟩) n c]) rfl (by kernel_rfl) (by kernel_rfl) (by kernel_rfl) (fun _ _ _ h => h) (Or.inl ⟨by rfl, ?_⟩) (by assumption) ?_
      · intro wX hSw
        (try dsimp only at hSw)
        have q0 := (XD7.out.below hSw XD7.out.lt).cell 0; have q1 := (XD7.out.below hSw XD7.out.lt).cell 1
        go_simp
      simp only [Act.put, List.setIfInBounds_toArray, List.set_cons_succ, List.set_cons_zero]
      refine wpAnyH_ready (rs := [23]) (by kernel_rfl) (by simp) ?_
      refine AllReadyH.cons (o := Oper.mk (some 58) _ _ _ _ _) rfl (fun K hK => ?_) AllReadyH.nil
      go_simp
      refine (KC.out _ hHeld).mono ?_
      rintro e z4 ⟨rfl, hb⟩
      refine hK.out _ _ ?_ (fun hHeld => ?_)
      · exact hHeld.trans (hb.mono hHeld.size)
      clear hK K
      refine wpAnyH_take (i := 24) (oi := Oper.mk (some 59) _ _ _ _ _) (v := .bool false) rfl (by kernel_rfl) (by kernel_rfl) (by kernel_rfl) (fun _ _ _ h => h) (Or.inl ⟨by rfl, ?_⟩) (by assumption) ?_
      · intro wX hSw
        (try dsimp only at hSw)
        go_simp
      simp only [Act.put, List.setIfInBounds_toArray, List.set_cons_succ, List.set_cons_zero]
      refine wpAnyH_take (i := 25) (oi := Oper.mk (some 60) _ _ _ _ _) (v := .bool false) rfl (by kernel_rfl) (by kernel_rfl) (by kernel_rfl) (fun _ _ _ h => h) (Or.inl ⟨by rfl, ?_⟩) (by assumption) ?_
      · intro wX hSw
        (try dsimp only at hSw)
        go_simp
      simp only [Act.put, List.setIfInBounds_toArray, List.set_cons_succ, List.set_cons_zero]
      refine wpAnyH_take (i := 26) (oi := Oper.mk (some 61) _ _ _ _ _) (v := undef) rfl (by kernel_rfl) (by kernel_rfl) (by kernel_rfl) (fun _ _ _ h => h) (Or.inr ⟨by rfl, rfl⟩) (by assumption) ?_
      simp only [Act.put, List.setIfInBounds_toArray, List.set_cons_succ, List.set_cons_zero]
      refine wpAnyH_take (i := 27) (oi := Oper.mk (some 62) _ _ _ _ _) (v := undef) rfl (by kernel_rfl) (by kernel_rfl) (by kernel_rfl) (fun _ _ _ h => h) (Or.inr ⟨by rfl, rfl⟩) (by assumption) ?_
      simp only [Act.put, List.setIfInBounds_toArray, List.set_cons_succ, List.set_cons_zero]
      refine wpAnyH_take (i := 28) (oi := Oper.mk (some 63) _ _ _ _ _) (v := undef) rfl (by kernel_rfl) (by kernel_rfl) (by kernel_rfl) (fun _ _ _ h => h) (Or.inr ⟨by rfl, rfl⟩) (by assumption) ?_
      simp only [Act.put, List.setIfInBounds_toArray, List.set_cons_succ, List.set_cons_zero]
      refine wpAnyH_take (i := 29) (oi := Oper.mk (some 64) _ _ _ _ _) (v := .bool false) rfl (by kernel_rfl) (by kernel_rfl) (by kernel_rfl) (fun _ _ _ h => h) (Or.inl ⟨by rfl, ?_⟩) (by assumption) ?_
      · intro wX hSw
        (try dsimp only at hSw)
        go_simp
      simp only [Act.put, List.setIfInBounds_toArray, List.set_cons_succ, List.set_cons_zero]
      refine wpAnyH_take (i := 30) (oi := Oper.mk (some 65) _ _ _ _ _) (v := .bool false) rfl (by kernel_rfl) (by kernel_rfl) (by kernel_rfl) (fun _ _ _ h => h) (Or.inl ⟨by rfl, ?_⟩) (by assumption) ?_
      · intro wX hSw
        (try dsimp only at hSw)
        go_simp
      simp only [Act.put, List.setIfInBounds_toArray, List.set_cons_succ, List.set_cons_zero]
      refine wpAnyH_done (by kernel_rfl) ?_ _
      go_wp2_with fail
      go_meet
      exact ⟨rfl, hide hHeld⟩
  case rest =>
    obtain ⟨rfl, BC⟩ := hcut
    have R7 : Hid (OvR W3.heap.size D6 W3 T uo m uc wc) := hide ⟨B37.out.trans (BC.out.mono B37.out.size), by have q := OW7.out; rw [← HM.out] at q; exact ⟨_, ownF_below q BC.out⟩, XW7.out.below BC.out XW7.out.lt, LT5.out, LE5.out⟩
    have x1 := R7.out.out.cell 1
    clear KA KS KC KM BC XX7 XW7 OW7 LT5 LE5 B37 B7 XD7 XO7
    go_wp2
    clear x1
    go_loopw [10] (fun x10 wr => ∃ k : Nat, k ≤ m ∧ x10 = .int .i64 (k : Int) ∧ Hid (OvR W3.heap.size D6 W3 T uo m uc wr)) (fun x10 _ => m - (intOf x10).toNat)
    case atStart => exact ⟨0, Nat.zero_le _, rfl, R7⟩
    case round =>
      clear R7
      obtain ⟨k, hk, rfl, R6⟩ := hrel
      have x1 := R6.out.out.cell 1
      by_cases hkm : k < m
      · have hkm' : (k : Int) < (m : Int) := by omega
        obtain ⟨gg, rfl, huc, hcl⟩ := R6.out.cells (by omega)
        obtain ⟨⟨u0, c0⟩, f0⟩ := hcl (k * 3) (by omega)
        obtain ⟨⟨u1, c1⟩, f1⟩ := hcl (k * 3 + 1) (by omega)
        obtain ⟨⟨u2, c2⟩, f2⟩ := hcl (k * 3 + 2) (by omega)
        clear hcl huc
        go_wp2
        exact ⟨⟨k + 1, by omega, by go_num, hide (((R6.out.put _ _).put _ _).put _ _)⟩, by simp [intOf]; omega⟩
      · obtain rfl : k = m := by omega
        have hkm' : ¬ (k : Int) < (k : Int) := by omega
        have B9 := hide R6.out.bel
        have XD9 := hide (XD3.out.below B9.out XD3.out.lt)
        have XO9 := hide (XO3.out.below B9.out XO3.out.lt)
        have BF := hide (B3.out.trans (B9.out.mono B3.out.size))
        have C9 := hide (CK.out wr g c W1.heap.size (ownF_below O3.out B9.out) hgc (HV.out.below BF.out))
        have d0 := XD9.out.cell 0
        have d1 := XD9.out.cell 1
        have p0 := XO9.out.cell 0
        have p1 := XO9.out.cell 1
        clear CK
        go_wp2_with fail
        refine C9.out.mono ?_
        rintro e y9 ⟨rfl, hb9⟩
        have BG := hide (BF.out.trans (hb9.mono BF.out.size))
        clear hb9 C9
        go_wp2
        go_ret
        exact ⟨rfl, BG.out⟩

end Go.Proofs.YtkgapklhgkngnaaDoor

namespace Go.Proofs.YtkgapklhgkngnaaDoor
open Go.RowKit

theorem laid_first : (Rows.laid_unicode_utf8_first : DataW Unit) = Lib.firstData := by kernel_rfl
theorem laid_accept : (Rows.laid_unicode_utf8_acceptRanges : DataW Unit) = Lib.acceptData := by kernel_rfl
theorem cellsAR : Tryd.prog.cellsOf 97 = 2 := by kernel_rfl
theorem cellsU8 : Tryd.prog.cellsOf 5 = 1 := by kernel_rfl
theorem cellsFT : Tryd.prog.cellsOf 95 = 256 := by kernel_rfl

theorem first_of {W : World} (h : Lib.VarReads Tryd.prog W "unicode/utf8.first" Lib.firstData) : ∀ c, c < 256 → W.cell? ⟨0, c, none⟩ = some (.int .u8 (Lib.firstT c : Int)) := by
  intro c hc
  obtain ⟨g, t, cs, fuel, p, hg, hty, hvar, hd⟩ := h
  have eg : g = 0 := Option.some.inj (hg.symm.trans (by kernel_rfl))
  subst eg
  have et : t = 95 := Option.some.inj (hty.symm.trans (by kernel_rfl))
  subst et
  have hcs := Lib.cells_of_tab Tryd.underlying95 Tryd.underlying5 cellsU8 cellsFT hd
  rw [World.var?_cell hg hvar c, ← Array.getElem?_toList, hcs]
  simp [Lib.firstTab, hc]

theorem accept_of {W : World} (h : Lib.VarReads Tryd.prog W "unicode/utf8.acceptRanges" Lib.acceptData) : ∀ i, i < 16 → W.cell? ⟨1, 2 * i, none⟩ = some (.int .u8 (Lib.accLo i : Int)) ∧ W.cell? ⟨1, 2 * i + 1, none⟩ = some (.int .u8 (Lib.accHi i : Int)) := by
  intro i hi
  obtain ⟨g, t, cs, fuel, p, hg, hty, hvar, hd⟩ := h
  have eg : g = 1 := Option.some.inj (hg.symm.trans (by kernel_rfl))
  subst eg
  have et : t = 98 := Option.some.inj (hty.symm.trans (by kernel_rfl))
  subst et
  obtain ⟨fu, d, q, hdi, he⟩ := Lib.array_elem Tryd.underlying98 hd i hi
  rw [cellsAR] at he
  have hdv : d = .agg ([(Lib.accLo i : Int), (Lib.accHi i : Int)].map fun z => .lit (.int .u8 z)) := by
    rw [List.getElem?_map, List.getElem?_range hi] at hdi
    exact (Option.some.inj hdi).symm
  subst hdv
  have fields : ∀ (j : Nat) (f : Field), (Tryd.prog.fieldsOf 97)[j]? = some f → Tryd.prog.underlying f.type = some (.int .u8) ∧ f.offset = j ∧ Tryd.prog.cellsOf f.type = 1 := by
    intro j f hj
    have e2 : Tryd.prog.fieldsOf 97 = #[(Tryd.prog.fieldsOf 97)[0]!, (Tryd.prog.fieldsOf 97)[1]!] := by kernel_rfl
    rw [e2] at hj
    match j, hj with
    | 0, hj => simp at hj; subst hj; exact ⟨by kernel_rfl, by kernel_rfl, by kernel_rfl⟩
    | 1, hj => simp at hj; subst hj; exact ⟨by kernel_rfl, by kernel_rfl, by kernel_rfl⟩
    | j + 2, hj => simp at hj
  have hcs := Lib.ints_of_struct (fs := Tryd.prog.fieldsOf 97) (by kernel_rfl) fields (by kernel_rfl) he
  have q0 := congrArg (fun l => l[0]?) hcs
  have q1 := congrArg (fun l => l[1]?) hcs
  simp only [List.getElem?_take, List.getElem?_drop] at q0 q1
  refine ⟨?_, ?_⟩
  · rw [World.var?_cell hg hvar (2 * i), ← Array.getElem?_toList, Nat.mul_comm]
    simpa using q0
  · rw [World.var?_cell hg hvar (2 * i + 1), ← Array.getElem?_toList, Nat.mul_comm]
    simpa using q1

theorem table {W : World} (h : laidMetH Tryd.prog [("unicode/utf8.acceptRanges", Rows.laid_unicode_utf8_acceptRanges), ("unicode/utf8.first", Rows.laid_unicode_utf8_first)] W) : U8 W := by
  have h' : laidMet Tryd.prog [("unicode/utf8.acceptRanges", Rows.laid_unicode_utf8_acceptRanges), ("unicode/utf8.first", Rows.laid_unicode_utf8_first)] W := h
  have h3 := Lib.laidMet.reads h' (n := "unicode/utf8.first") (d := Rows.laid_unicode_utf8_first) (by simp)
  have h4 := Lib.laidMet.reads h' (n := "unicode/utf8.acceptRanges") (d := Rows.laid_unicode_utf8_acceptRanges) (by simp)
  rw [laid_first] at h3
  rw [laid_accept] at h4
  exact ⟨first_of h3, accept_of h4⟩

def tabVals : DataW Unit → Array Value
  | .agg l => (l.flatMap fun
      | .lit (.int k z) => [Value.int k z]
      | .agg l2 => l2.map fun
        | .lit (.int k z) => Value.int k z
        | _ => .int .u8 0
      | _ => []).toArray
  | _ => #[]

def putVals (d : DataW Unit) : Obj → Obj
  | .cells _ t frozen => .cells (tabVals d) t frozen
  | o => o

noncomputable def laidWorld (os : Os) : World :=
  { World.holding Tryd.prog os ⟨#[], #[], []⟩ with
    heap := ((World.holding Tryd.prog os ⟨#[], #[], []⟩).heap.modify 1 (putVals Rows.laid_unicode_utf8_acceptRanges)).modify 0 (putVals Rows.laid_unicode_utf8_first) }

end Go.Proofs.YtkgapklhgkngnaaDoor
