/-
  FieldsLeaves, for any Out.
  What the rows' list of package variables gives, and a world that holds them (a dump without DecodeRuneInString).
-/
import Derived.RangeFuncBox
import Derived.Test.YtkgapklhgkngnaaDoorEB14
import Derived.Test.YtkgapklhgkngnaaDoorRows
import Derived.Test.YtkgapklhgkngnaaDoorEB3
import Derived.Lib.LaidU8
import Derived.Deep.DeepHandedRow
namespace Go.Proofs.YtkgapklhgkngnaaDoor
open Go.RowKit Go.Shelf

attribute [local go_sem] Oper.semAt_some

theorem it_nil (lb : Array Value) (W : World) : (binOp .eql 44 (.func (.func 42) #[] lb) Value.nilFunc).run Tryd.prog W = .ok (.bool false) W := by
  simp only [binOp, Op.equal, Op.maxDepth]
  unfold Op.equalIn
  simp [go_sem]

set_option maxRecDepth 100000 in
set_option maxHeartbeats 8000000 in
theorem lvl_any (t : ByteArray) (v : Value) (l : List Sp) (st : Int) (w : World) (hT : U8 w) (ht : t.size ≤ 1048576) (hv : SpV w v l) (hno : NilOr v) (hl : l.length ≤ 1048576) :
    Calls Tryd.prog 5 #[.agg #[.string t, v], .int .i64 st] w fun e w' => e = .returned (.bool true) ∧ Below w.heap.size w w' := by
  obtain ⟨LV, er, CL, CR⟩ := lev_c t v l w hT ht hv hl
  obtain ⟨T, L, HT, HF, CA⟩ := all_c t v l w hT ht hv hno hl
  have CL := hide CL
  have CR := hide CR
  have CA := hide CA
  have CM : Hid (∀ X, Below w.heap.size w X → Calls Tryd.prog 16 #[.agg #[.string t, v]] X fun e w' => e = .returned (.bool (mayB t l)) ∧ Below X.heap.size X w') := hide (fun X hX => rMay_any t v l X (hT.below hX) (by omega) (hv.below hX) (by omega))
  have CW : Hid (∀ X, Below w.heap.size w X → Calls Tryd.prog 11 #[] X fun e w' => e = .returned (.bool true) ∧ Below X.heap.size X w') := hide (fun X hX => awake17_any X (hT.below hX))
  have HT := hide HT
  have HF := hide HF
  have HV := hide hv
  have HL := hide hl
  have Ht := hide ht
  obtain ⟨ao, cap, rfl⟩ := hv.len
  obtain ⟨n, hn⟩ : ∃ n, n = l.length := ⟨_, rfl⟩
  obtain ⟨mm, hmm⟩ : ∃ mm, mm = mayB t l := ⟨_, rfl⟩
  rw [← hmm] at CM HT HF
  rw [← hn] at CL CR CA CM HV
  have HN := hide hn
  have HM := hide hmm
  clear hT ht hv hno hl hmm
  rw [← hn]
  clear hn
  obtain ⟨W1, hW1⟩ : ∃ W1, W1 = ((w.alloc (.cells #[.string t, .slice ao n cap] 25)).alloc (.cells #[.int .i64 st] 3)).alloc (.cells #[.bool false] 4) := ⟨_, rfl⟩
  have z0 : (w.alloc (.cells #[.string t, .slice ao n cap] 25)).heap.size = w.heap.size + 1 := allocW_size _ _
  have z1 : ((w.alloc (.cells #[.string t, .slice ao n cap] 25)).alloc (.cells #[.int .i64 st] 3)).heap.size = w.heap.size + 2 := by rw [allocW_size, z0]
  have bA : Below (w.heap.size + 1) (w.alloc (.cells #[.string t, .slice ao n cap] 25)) W1 := by
    rw [hW1]; exact ((Below.refl _ _).alloc (Nat.le_of_eq z0.symm) _).alloc (by rw [z1]; omega) _
  have bS : Below (w.heap.size + 2) ((w.alloc (.cells #[.string t, .slice ao n cap] 25)).alloc (.cells #[.int .i64 st] 3)) W1 := by
    rw [hW1]; exact (Below.refl _ _).alloc (Nat.le_of_eq z1.symm) _
  have B1 := hide (show Below w.heap.size w W1 from ((Below.refl w.heap.size w).alloc (Nat.le_refl _) _).trans (bA.mono (Nat.le_succ _)))
  have KO : Hid (Blk W1 w.heap.size #[.string t, .slice ao n cap] 25) := hide ((Blk.newAt w _ rfl _ _).below (z0 ▸ bA) (by rw [z0]; exact Nat.lt_succ_self _))
  have KS : Hid (Blk W1 (w.heap.size + 1) #[.int .i64 st] 3) := hide ((Blk.newAt _ _ z0 _ _).below (z1 ▸ bS) (by rw [z1]; exact Nat.lt_succ_self _))
  have KR : Hid (Blk W1 (w.heap.size + 2) #[.bool false] 4) := hide (by rw [hW1]; exact Blk.newAt _ _ z1 _ _)
  have HW := hide hW1.symm
  clear z0 z1 bA bS hW1
  refine (callsIn_wide (n := 9)).1 ?_
  refine callsIn_of_wp_marks Tryd.func5 rfl trivial ?_ rfl
  simp only [Tryd.ntmps5, List.size_toArray, List.length_cons, List.length_nil, Nat.reduceAdd, Nat.reduceSub, Array.replicate_succ, Array.replicate_zero, List.push_toArray, List.append_toArray, List.nil_append, List.cons_append]
  have c0 := KO.out.cell 0
  have c1 := KO.out.cell 1
  gi_wp2_with (simp only [HW.out])
  refine ⟨trivial, (callsIn_wide.2 (CL.out W1 B1.out)).mono ?_⟩
  rintro e w2 ⟨H2, hb2⟩
  obtain ⟨uo, uc, rfl, hp, hmx⟩ := H2.out
  have P2 := hide hp
  have MX := hide hmx
  have B2 := hide (B1.out.trans (hb2.mono B1.out.size))
  have KO2 := hide (KO.out.below hb2 KO.out.lt)
  have KS2 := hide (KS.out.below hb2 KS.out.lt)
  have KR2 := hide (KR.out.below hb2 KR.out.lt)
  clear H2 hp hmx hb2 KO KS KR B1 HW c0 c1 CL
  have c0 := KO2.out.cell 0
  have c1 := KO2.out.cell 1
  gi_wp2
  refine ⟨trivial, (callsIn_wide.2 (CR.out w2 B2.out)).mono ?_⟩
  rintro e w3 ⟨H3, hb3⟩
  obtain ⟨uo', uc', rfl, hp, _⟩ := H3.out
  have P3 := hide hp
  have P32 := hide (P2.out.below hb3)
  have B3 := hide (B2.out.trans (hb3.mono B2.out.size))
  have KO3 := hide (KO2.out.below hb3 KO2.out.lt)
  have KS3 := hide (KS2.out.below hb3 KS2.out.lt)
  have KR3 := hide (KR2.out.below hb3 KR2.out.lt)
  clear H3 hp hb3 KO2 KS2 KR2 B2 c0 c1 CR P2
  have hee : (er != er) = false := by simp
  gi_wp2
  refine ⟨trivial, (callsIn_wide.2 (CW.out w3 B3.out)).mono ?_⟩
  rintro e w4 ⟨rfl, hb4⟩
  have P4 := hide (P3.out.below hb4)
  have P42 := hide (P32.out.below hb4)
  have B4 := hide (B3.out.trans (hb4.mono B3.out.size))
  have KO4 := hide (KO3.out.below hb4 KO3.out.lt)
  have KS4 := hide (KS3.out.below hb4 KS3.out.lt)
  have KR4 := hide (KR3.out.below hb4 KR3.out.lt)
  clear hb4 KO3 KS3 KR3 B3 CW P3 P32
  gi_wp2
  refine ⟨trivial, (callsIn_wide.2 (SameP_true _ _ LV w4 P42.out P4.out MX.out)).mono ?_⟩
  rintro e w5 ⟨rfl, hb5⟩
  have B5 := hide (B4.out.trans (hb5.mono B4.out.size))
  have KO5 := hide (KO4.out.below hb5 KO4.out.lt)
  have KS5 := hide (KS4.out.below hb5 KS4.out.lt)
  have KR5 := hide (KR4.out.below hb5 KR4.out.lt)
  clear hb5 KO4 KS4 KR4 B4 P4 P42 MX
  have c0 := KO5.out.cell 0
  have c1 := KO5.out.cell 1
  gi_wp2
  refine ⟨trivial, (callsIn_wide.2 (CA.out w5 B5.out)).mono ?_⟩
  rintro e w6 ⟨H6, hb6⟩
  obtain ⟨bt, bs, va, rfl, hI⟩ := H6.out
  have I6 := hide hI
  have B6 := hide (B5.out.trans (hb6.mono B5.out.size))
  have KO6 := hide (KO5.out.below hb6 KO5.out.lt)
  have KS6 := hide (KS5.out.below hb6 KS5.out.lt)
  have KR6 := hide (KR5.out.below hb6 KR5.out.lt)
  clear H6 hI hb6 KO5 KS5 KR5 B5 CA c0 c1
  have hnil := it_nil #[.pointer (some ⟨bs, 0, none⟩), .pointer (some ⟨bt, 0, none⟩)]
  gi_wp2
  clear hnil hee
  have HIN : Hid (∀ s ∈ L, 0 ≤ s.a ∧ s.a ≤ s.b ∧ s.b ≤ (T.size : Int)) := hide (by
    cases q : mm with
    | true => obtain ⟨e1, e2⟩ := HT.out q; rw [e1, e2]; exact may_in (HM.out ▸ q)
    | false => rw [HF.out q]; intro s hs; cases hs)
  have LL : Hid (L.length ≤ 140737488355328) := hide (by
    cases q : mm with
    | true => rw [(HT.out q).2]; have := HL.out; omega
    | false => rw [HF.out q]; exact Nat.zero_le _)
  have b7 : Below w6.heap.size w6 (w6.alloc (.cells #[.int .i64 0] 3)) := (Below.refl _ _).alloc (Nat.le_refl _) _
  have R0 : Hid (LoR w #[.string t, .slice ao n cap] st w5.heap.size bt bs T L va 0 w6.heap.size [] (w6.alloc (.cells #[.int .i64 0] 3))) := hide ⟨B6.out.trans (b7.mono B6.out.size), KO6.out.below b7 KO6.out.lt, KS6.out.below b7 KS6.out.lt, KR6.out.below b7 KR6.out.lt, Blk.newAt _ _ rfl _ _, I6.out.below b7, Marks.nil _, fun D hD => by cases hD⟩
  clear b7 B6 KO6 KS6 KR6 I6
  refine wpIn_loop (fun a W => ∃ (tn K : Nat) (Ds : List Nat) (u11 u41 u42 u43 u44 u45 u87 u88 u89 u90 u91 u92 u93 u94 u95 u96 u97 u98 u99 u100 : Value), tn ≤ 2 ∧ Hid (a.tmps.getD 10 undef = .pointer (some ⟨K, 0, none⟩)) ∧ Hid (LoR w #[.string t, .slice ao n cap] st w5.heap.size bt bs T L va tn K Ds W) ∧ a = { tmps := ((.agg #[.string t, .slice ao n cap]) :: (.int .i64 st) :: (.pointer (some ⟨w.heap.size, 0, none⟩)) :: (.pointer (some ⟨w.heap.size + 1, 0, none⟩)) :: (.pointer (some ⟨w.heap.size + 1 + 1, 0, none⟩)) :: (.slice uo LV.length uc) :: (.int .i64 er) :: (.slice uo' LV.length uc') :: (.int .i64 er) :: (.func (.func 42) #[] #[.pointer (some ⟨bs, 0, none⟩), .pointer (some ⟨bt, 0, none⟩)]) :: (.pointer (some ⟨K, 0, none⟩)) :: (u11) :: (undef) :: (undef) :: (.tuple #[.slice uo LV.length uc, .int .i64 er]) :: (.agg #[.string t, .slice ao n cap]) :: (.tuple #[.slice uo LV.length uc, .int .i64 er]) :: (.slice uo LV.length uc) :: (.int .i64 er) :: (.tuple #[.slice uo' LV.length uc', .int .i64 er]) :: (.agg #[.string t, .slice ao n cap]) :: (.tuple #[.slice uo' LV.length uc', .int .i64 er]) :: (.slice uo' LV.length uc') :: (.int .i64 er) :: (.bool true) :: (.bool false) :: (.bool false) :: (.int .i64 er) :: (.int .i64 er) :: (.bool false) :: (.bool false) :: (.bool false) :: (.slice uo LV.length uc) :: (.slice uo' LV.length uc') :: (.bool true) :: (.bool false) :: (.bool false) :: (.agg #[.string t, .slice ao n cap]) :: (.func (.func 42) #[] #[.pointer (some ⟨bs, 0, none⟩), .pointer (some ⟨bt, 0, none⟩)]) :: (.func (.func 42) #[] #[.pointer (some ⟨bs, 0, none⟩), .pointer (some ⟨bt, 0, none⟩)]) :: (.bool false) :: (u41) :: (u42) :: (u43) :: (u44) :: (u45) :: (undef) :: (undef) :: (undef) :: (undef) :: (undef) :: (undef) :: (undef) :: (undef) :: (undef) :: (undef) :: (undef) :: (undef) :: (undef) :: (undef) :: (undef) :: (undef) :: (undef) :: (undef) :: (undef) :: (undef) :: (undef) :: (undef) :: (undef) :: (undef) :: (undef) :: (undef) :: (undef) :: (undef) :: (undef) :: (undef) :: (undef) :: (undef) :: (undef) :: (undef) :: (undef) :: (undef) :: (undef) :: (undef) :: (undef) :: (undef) :: (undef) :: (u87) :: (u88) :: (u89) :: (u90) :: (u91) :: (u92) :: (u93) :: (u94) :: (u95) :: (u96) :: (u97) :: (u98) :: (u99) :: (u100) :: []).toArray, defers := Ds.map markD }) turnM ?_ ?_
  · exact ⟨0, w6.heap.size, [], _, _, _, _, _, _, _, _, _, _, _, _, _, _, _, _, _, _, _, _, by decide, hide rfl, R0, rfl⟩
  clear R0
  rintro a W ⟨tn, K, Ds, u11, u41, u42, u43, u44, u45, u87, u88, u89, u90, u91, u92, u93, u94, u95, u96, u97, u98, u99, u100, htn, _, IR, rfl⟩
  have k0 := IR.out.kk.cell 0
  by_cases h2 : tn = 2
  · subst h2
    have r0 := IR.out.kr.cell 0
    have r1 := IR.out.kr.free 0
    gi_wp2
    refine leaves_marks (H := w.heap.size + 2) rfl rfl Ds _ (IR.out.kr.setN 0 (.bool true)) (IR.out.mks.set ⟨w.heap.size + 2, 0, none⟩ _ ⟨_, _, IR.out.kr⟩) IR.out.lo (IR.out.bel.setCell (p := ⟨w.heap.size + 2, 0, none⟩) (by show w.heap.size ≤ w.heap.size + 2; omega) _)
  · have h01 : tn = 0 ∨ tn = 1 := by omega
    have k1 := IR.out.ko.cell 0
    have k2 := IR.out.ko.cell 1
    have hlt2 : (tn : Int) < 2 := by omega
    gi_wp2
    obtain ⟨X, hX⟩ : ∃ X, X = W.alloc (.cells #[.int .i64 0] 3) := ⟨_, rfl⟩
    have zX : X.heap.size = W.heap.size + 1 := by rw [hX, allocW_size]
    have bX := hide (show Below W.heap.size W X by rw [hX]; exact (Below.refl _ _).alloc (Nat.le_refl _) _)
    have NX : Hid (Blk X W.heap.size #[.int .i64 0] 3) := hide (by rw [hX]; exact Blk.newAt _ _ rfl _ _)
    rw [← hX]
    clear hX k0 k1 k2
    have IX := hide (IR.out.below bX.out)
    have nW : Hid (W.heap.size ≤ X.heap.size) := hide bX.out.size
    have itl : Hid (bt < W.heap.size ∧ bs < W.heap.size) := hide ⟨IR.out.it.tx.lt, IR.out.it.sp.lt⟩
    refine wpIn_rangeFunc_ownH rfl (by decide) (gf := 42) (lb := #[.pointer (some ⟨bs, 0, none⟩), .pointer (some ⟨bt, 0, none⟩)]) rfl trivial (enters_of Tryd.func42 (by kernel_rfl) rfl)
      (all_stops Fence.wide 8 trivial rfl (by decide) bt bs W.heap.size T L HIN.out va LL.out X nW.out itl.out.1 itl.out.2 (IX.out.it.tx.cell 0) (IX.out.it.sp.cell 0) (fun Y hY => IR.out.it.ls.below (bX.out.trans hY)))
      belowK_t (belowK_b nW.out) (Below.refl _ _) (fun _ => rfl)
      (fun pre V => Blk V W.heap.size #[.int .i64 (pre.length : Int)] 3 ∧ Below W.heap.size X V)
      (fun c pre V => (c = .exit 2 ∧ tn = 0 ∧ Blk V W.heap.size #[.int .i64 (pre.length : Int)] 3 ∧ Below W.heap.size X V) ∨ (c = .ret ∧ ¬ pre.map (·.1) <+: L))
      (OwnFrom.and (Own.from (blk_own _ _ (fun pre : List (InT T) => #[.int .i64 (pre.length : Int)])) _) (ownFrom_below nW.out nW.out))
      (fun c s A B row hs hg hr => by
        rcases hs with ⟨h1, h2, h3, h4⟩ | h
        · exact .inl ⟨h1, h2, (Own.from (blk_own W.heap.size 3 (fun pre : List (InT T) => #[.int .i64 (pre.length : Int)])) _) s A B row h3 hg hr, ownFrom_below (β := Unit) nW.out nW.out () A B row h4 hg hr⟩
        · exact .inr h)
      ⟨NX.out, Below.refl _ _⟩
      (fun x a' V => ∃ Bx, W.heap.size < Bx ∧ Blk V Bx #[.int .i64 x.1.f, .int .i64 x.1.a, .int .i64 x.1.b] 31 ∧ a' = { tmps := ((.agg #[.string t, .slice ao n cap]) :: (.int .i64 st) :: (.pointer (some ⟨w.heap.size, 0, none⟩)) :: (.pointer (some ⟨w.heap.size + 1, 0, none⟩)) :: (.pointer (some ⟨w.heap.size + 1 + 1, 0, none⟩)) :: (.slice uo LV.length uc) :: (.int .i64 er) :: (.slice uo' LV.length uc') :: (.int .i64 er) :: (.func (.func 42) #[] #[.pointer (some ⟨bs, 0, none⟩), .pointer (some ⟨bt, 0, none⟩)]) :: (.pointer (some ⟨K, 0, none⟩)) :: (.pointer (some ⟨W.heap.size, 0, none⟩)) :: (.pointer (some ⟨Bx, 0, none⟩)) :: (.string (T.extract x.1.a.toNat x.1.b.toNat)) :: (.tuple #[.slice uo LV.length uc, .int .i64 er]) :: (.agg #[.string t, .slice ao n cap]) :: (.tuple #[.slice uo LV.length uc, .int .i64 er]) :: (.slice uo LV.length uc) :: (.int .i64 er) :: (.tuple #[.slice uo' LV.length uc', .int .i64 er]) :: (.agg #[.string t, .slice ao n cap]) :: (.tuple #[.slice uo' LV.length uc', .int .i64 er]) :: (.slice uo' LV.length uc') :: (.int .i64 er) :: (.bool true) :: (.bool false) :: (.bool false) :: (.int .i64 er) :: (.int .i64 er) :: (.bool false) :: (.bool false) :: (.bool false) :: (.slice uo LV.length uc) :: (.slice uo' LV.length uc') :: (.bool true) :: (.bool false) :: (.bool false) :: (.agg #[.string t, .slice ao n cap]) :: (.func (.func 42) #[] #[.pointer (some ⟨bs, 0, none⟩), .pointer (some ⟨bt, 0, none⟩)]) :: (.func (.func 42) #[] #[.pointer (some ⟨bs, 0, none⟩), .pointer (some ⟨bt, 0, none⟩)]) :: (.bool false) :: (.int .i64 (tn : Int)) :: (.bool true) :: (u43) :: (u44) :: (.func (.func 42) #[] #[.pointer (some ⟨bs, 0, none⟩), .pointer (some ⟨bt, 0, none⟩)]) :: (.agg #[.int .i64 x.1.f, .int .i64 x.1.a, .int .i64 x.1.b]) :: (.string (T.extract x.1.a.toNat x.1.b.toNat)) :: (undef) :: (undef) :: (undef) :: (undef) :: (undef) :: (undef) :: (undef) :: (undef) :: (undef) :: (undef) :: (undef) :: (undef) :: (undef) :: (undef) :: (undef) :: (undef) :: (undef) :: (undef) :: (undef) :: (undef) :: (undef) :: (undef) :: (undef) :: (undef) :: (undef) :: (undef) :: (undef) :: (undef) :: (undef) :: (undef) :: (undef) :: (undef) :: (undef) :: (undef) :: (undef) :: (undef) :: (undef) :: (undef) :: (undef) :: (u87) :: (u88) :: (u89) :: (u90) :: (u91) :: (u92) :: (u93) :: (u94) :: (u95) :: (u96) :: (u97) :: (u98) :: (u99) :: (u100) :: []).toArray, defers := [] })
      (fun x a' s A B row hs hg hr => by
        obtain ⟨Bx, h1, h2, h3⟩ := hs
        exact ⟨Bx, h1, (Own.from (blk_own Bx 31 (fun _ : Unit => #[.int .i64 x.1.f, .int .i64 x.1.a, .int .i64 x.1.b])) _) () A B row h2 hg hr, h3⟩)
      ?assign ?body ?done ?stop
    case assign =>
      rintro y pre x V Kq ⟨bN, hBV⟩ hK
      unfold encI
      gi_wp2
      have hs2 : W.heap.size < V.heap.size := bN.lt
      exact hK _ _ ((KeepsOthers.alloc _ _).from _) ((Below.refl _ V).alloc (Nat.le_of_lt hs2) _) ⟨bN.below ((Below.refl _ V).alloc (Nat.le_refl _) _) bN.lt, hBV.alloc (Nat.le_of_lt hs2) _⟩ ⟨V.heap.size, hs2, Blk.newAt V _ rfl _ _, rfl⟩
    case body =>
      rintro y pre x a2 V hly _ ⟨bN, hBV⟩ ⟨Bx, hBx, kX, rfl⟩ hlt
      have hmm : mm = true := by
        cases q : mm with
        | true => rfl
        | false => rw [HF.out q] at hlt; exact absurd hlt (Nat.not_lt_zero _)
      obtain ⟨eT, eL⟩ := HT.out hmm
      have VB := hide (bX.out.trans hBV)
      have V1 := hide (IR.out.below VB.out)
      have SV := HV.out.below V1.out.bel
      obtain ⟨q0, hq0⟩ : ∃ q0, q0 = pre.length := ⟨_, rfl⟩
      have HQ := hide hq0
      rw [← hq0] at hlt bN
      clear hq0
      have hlt2 : q0 < l.length := by rw [← eL]; exact hlt
      have hq : q0 < n := by rw [HN.out]; exact hlt2
      have hnb : n ≤ 1048576 := by rw [HN.out]; exact HL.out
      rw [HN.out] at SV
      cases SV with
      | none _ _ _ h => subst h; simp at hlt2
      | some b o cp hv hc hb ha =>
        simp only [Value.slice.injEq] at hv
        obtain ⟨rfl, z1, rfl⟩ := hv
        clear z1
        obtain ⟨d0, d1, d2⟩ := ha q0 hlt2
        have EQ : Hid (gN spZ l q0 = gN spZ L q0) := hide (by rw [eL])
        rw [EQ.out] at d0 d1 d2
        have o0 := V1.out.ko.cell 0
        have o1 := V1.out.ko.cell 1
        have t0 := V1.out.kk.cell 0
        have s0 := V1.out.ks.cell 0
        have b0 := bN.cell 0
        have b1 := bN.free 0
        have x0 := kX.cell 0
        have x1 := kX.cell 1
        have x2 := kX.cell 2
        have hx := x.2
        obtain ⟨ff, hff⟩ : ∃ ff, x.1.f = ff := ⟨_, rfl⟩
        obtain ⟨aa, haa⟩ : ∃ aa : Nat, x.1.a = (aa : Int) := ⟨x.1.a.toNat, (Int.toNat_of_nonneg hx.1).symm⟩
        obtain ⟨bb, hbb⟩ : ∃ bb : Nat, x.1.b = (bb : Int) := ⟨x.1.b.toNat, (Int.toNat_of_nonneg (Int.le_trans hx.1 hx.2.1)).symm⟩
        have h1 : aa ≤ bb := by have := hx.2.1; omega
        have h2 : bb ≤ T.size := by have := hx.2.2; omega
        have hTs : T.size ≤ 1048576 := by rw [eT]; exact Ht.out
        have XE : Hid (x.1 = ⟨ff, (aa : Int), (bb : Int)⟩) := hide (by rw [← hff, ← haa, ← hbb])
        have CMV := hide (CM.out V.drew (V1.out.bel.drew))
        rw [hmm] at CMV
        rw [← eT] at o0 CMV
        have PL : Hid (q0 < L.length) := hide hlt
        clear hx eL hlt hlt2 hc hb ha
        rw [hff, haa, hbb]
        rw [hff] at x0
        rw [haa] at x1
        rw [hbb] at x2
        simp only [Int.toNat_natCast]
        rw [← eT]
        clear hff haa hbb eT hmm
        by_cases hxs : x.1 = gN spZ L q0
        · rw [← hxs, XE.out] at d0 d1 d2
          have nq := sp_neqI ⟨ff, (aa : Int), (bb : Int)⟩ ⟨ff, (aa : Int), (bb : Int)⟩
          simp only [decide_true, Bool.not_true] at nq
          clear hxs
          gi_wp2
          refine wpIn_region_round (S := fun Y => Below V.heap.size V Y) (by kernel_rfl) (by kernel_rfl) (Below.refl _ _).drew (fun hHeld => ?_)
          refine wpAnyH_take (i := 0) (oi := Oper.mk (some 48) _ _ _ _ _) (v := .agg #[.string T, .slice (some ⟨b, o, none⟩) n cap]) rfl (by kernel_rfl) (by kernel_rfl) (by kernel_rfl) (fun _ _ _ h => h) (Or.inl ⟨by rfl, ?_⟩) (by assumption) ?_
          · intro wX hSw
            (try dsimp only at hSw)
            have z0 := cell_on hSw o0; have z1 := cell_on hSw o1; have z2 := cell_on hSw b0; have z3 := cell_on hSw x0; have z4 := cell_on hSw x1; have z5 := cell_on hSw x2; have z6 := cell_on hSw d0; have z7 := cell_on hSw d1; have z8 := cell_on hSw d2
            go_simp
          simp only [Act.put, List.setIfInBounds_toArray, List.set_cons_succ, List.set_cons_zero]
          refine wpAnyH_ready (rs := [1]) (by kernel_rfl) (by simp) ?_
          refine AllReadyH.cons (o := Oper.mk (some 49) _ _ _ _ _) rfl (fun K hK => ?_) AllReadyH.nil
          go_simp
          refine CMV.out.mono ?_
          rintro e Y1 ⟨rfl, hby⟩
          refine hK.out _ _ ?_ (fun hHeld => ?_)
          · exact (show Below V.heap.size V V.drew from (Below.refl _ _).drew).trans hby
          clear hK K
          refine wpAnyH_take (i := 2) (oi := Oper.mk (some 50) _ _ _ _ _) (v := .bool false) rfl (by kernel_rfl) (by kernel_rfl) (by kernel_rfl) (fun _ _ _ h => h) (Or.inl ⟨by rfl, ?_⟩) (by assumption) ?_
          · intro wX hSw
            (try dsimp only at hSw)
            have z0 := cell_on hSw o0; have z1 := cell_on hSw o1; have z2 := cell_on hSw b0; have z3 := cell_on hSw x0; have z4 := cell_on hSw x1; have z5 := cell_on hSw x2; have z6 := cell_on hSw d0; have z7 := cell_on hSw d1; have z8 := cell_on hSw d2
            go_simp
          simp only [Act.put, List.setIfInBounds_toArray, List.set_cons_succ, List.set_cons_zero]
          refine wpAnyH_take (i := 3) (oi := Oper.mk (some 51) _ _ _ _ _) (v := .bool false) rfl (by kernel_rfl) (by kernel_rfl) (by kernel_rfl) (fun _ _ _ h => h) (Or.inl ⟨by rfl, ?_⟩) (by assumption) ?_
          · intro wX hSw
            (try dsimp only at hSw)
            have z0 := cell_on hSw o0; have z1 := cell_on hSw o1; have z2 := cell_on hSw b0; have z3 := cell_on hSw x0; have z4 := cell_on hSw x1; have z5 := cell_on hSw x2; have z6 := cell_on hSw d0; have z7 := cell_on hSw d1; have z8 := cell_on hSw d2
            go_simp
          simp only [Act.put, List.setIfInBounds_toArray, List.set_cons_succ, List.set_cons_zero]
          refine wpAnyH_take (i := 4) (oi := Oper.mk (some 52) _ _ _ _ _) (v := .int .i64 (q0 : Int)) rfl (by kernel_rfl) (by kernel_rfl) (by kernel_rfl) (fun _ _ _ h => h) (Or.inl ⟨by rfl, ?_⟩) (by assumption) ?_
          · intro wX hSw
            (try dsimp only at hSw)
            have z0 := cell_on hSw o0; have z1 := cell_on hSw o1; have z2 := cell_on hSw b0; have z3 := cell_on hSw x0; have z4 := cell_on hSw x1; have z5 := cell_on hSw x2; have z6 := cell_on hSw d0; have z7 := cell_on hSw d1; have z8 := cell_on hSw d2
            go_simp
          simp only [Act.put, List.setIfInBounds_toArray, List.set_cons_succ, List.set_cons_zero]
          refine wpAnyH_take (i := 5) (oi := Oper.mk (some 53) _ _ _ _ _) (v := .pointer (some ⟨w.heap.size, 1, none⟩)) rfl (by kernel_rfl) (by kernel_rfl) (by kernel_rfl) (fun _ _ _ h => h) (Or.inl ⟨by rfl, ?_⟩) (by assumption) ?_
          · intro wX hSw
            (try dsimp only at hSw)
            have z0 := cell_on hSw o0; have z1 := cell_on hSw o1; have z2 := cell_on hSw b0; have z3 := cell_on hSw x0; have z4 := cell_on hSw x1; have z5 := cell_on hSw x2; have z6 := cell_on hSw d0; have z7 := cell_on hSw d1; have z8 := cell_on hSw d2
            go_simp
          simp only [Act.put, List.setIfInBounds_toArray, List.set_cons_succ, List.set_cons_zero]
          refine wpAnyH_take (i := 6) (oi := Oper.mk (some 54) _ _ _ _ _) (v := .slice (some ⟨b, o, none⟩) n cap) rfl (by kernel_rfl) (by kernel_rfl) (by kernel_rfl) (fun _ _ _ h => h) (Or.inl ⟨by rfl, ?_⟩) (by assumption) ?_
          · intro wX hSw
            (try dsimp only at hSw)
            have z0 := cell_on hSw o0; have z1 := cell_on hSw o1; have z2 := cell_on hSw b0; have z3 := cell_on hSw x0; have z4 := cell_on hSw x1; have z5 := cell_on hSw x2; have z6 := cell_on hSw d0; have z7 := cell_on hSw d1; have z8 := cell_on hSw d2
            go_simp
          simp only [Act.put, List.setIfInBounds_toArray, List.set_cons_succ, List.set_cons_zero]
          refine wpAnyH_take (i := 7) (oi := Oper.mk (some 55) _ _ _ _ _) (v := .int .i64 (n : Int)) rfl (by kernel_rfl) (by kernel_rfl) (by kernel_rfl) (fun _ _ _ h => h) (Or.inl ⟨by rfl, ?_⟩) (by assumption) ?_
          · intro wX hSw
            (try dsimp only at hSw)
            have z0 := cell_on hSw o0; have z1 := cell_on hSw o1; have z2 := cell_on hSw b0; have z3 := cell_on hSw x0; have z4 := cell_on hSw x1; have z5 := cell_on hSw x2; have z6 := cell_on hSw d0; have z7 := cell_on hSw d1; have z8 := cell_on hSw d2
            go_simp
          simp only [Act.put, List.setIfInBounds_toArray, List.set_cons_succ, List.set_cons_zero]
          refine wpAnyH_take (i := 8) (oi := Oper.mk (some 56) _ _ _ _ _) (v := .bool false) rfl (by kernel_rfl) (by kernel_rfl) (by kernel_rfl) (fun _ _ _ h => h) (Or.inl ⟨by rfl, ?_⟩) (by assumption) ?_
          · intro wX hSw
            (try dsimp only at hSw)
            have z0 := cell_on hSw o0; have z1 := cell_on hSw o1; have z2 := cell_on hSw b0; have z3 := cell_on hSw x0; have z4 := cell_on hSw x1; have z5 := cell_on hSw x2; have z6 := cell_on hSw d0; have z7 := cell_on hSw d1; have z8 := cell_on hSw d2
            go_simp
          simp only [Act.put, List.setIfInBounds_toArray, List.set_cons_succ, List.set_cons_zero]
          refine wpAnyH_take (i := 9) (oi := Oper.mk (some 57) _ _ _ _ _) (v := .bool false) rfl (by kernel_rfl) (by kernel_rfl) (by kernel_rfl) (fun _ _ _ h => h) (Or.inl ⟨by rfl, ?_⟩) (by assumption) ?_
          · intro wX hSw
            (try dsimp only at hSw)
            have z0 := cell_on hSw o0; have z1 := cell_on hSw o1; have z2 := cell_on hSw b0; have z3 := cell_on hSw x0; have z4 := cell_on hSw x1; have z5 := cell_on hSw x2; have z6 := cell_on hSw d0; have z7 := cell_on hSw d1; have z8 := cell_on hSw d2
            go_simp
          simp only [Act.put, List.setIfInBounds_toArray, List.set_cons_succ, List.set_cons_zero]
          refine wpAnyH_take (i := 10) (oi := Oper.mk (some 58) _ _ _ _ _) (v := .bool false) rfl (by kernel_rfl) (by kernel_rfl) (by kernel_rfl) (fun _ _ _ h => h) (Or.inl ⟨by rfl, ?_⟩) (by assumption) ?_
          · intro wX hSw
            (try dsimp only at hSw)
            have z0 := cell_on hSw o0; have z1 := cell_on hSw o1; have z2 := cell_on hSw b0; have z3 := cell_on hSw x0; have z4 := cell_on hSw x1; have z5 := cell_on hSw x2; have z6 := cell_on hSw d0; have z7 := cell_on hSw d1; have z8 := cell_on hSw d2
            go_simp
          simp only [Act.put, List.setIfInBounds_toArray, List.set_cons_succ, List.set_cons_zero]
          refine wpAnyH_take (i := 11) (oi := Oper.mk (some 59) _ _ _ _ _) (v := .agg #[.int .i64 ff, .int .i64 (aa : Int), .int .i64 (bb : Int)]) rfl (by kernel_rfl) (by kernel_rfl) (by kernel_rfl) (fun _ _ _ h => h) (Or.inl ⟨by rfl, ?_⟩) (by assumption) ?_
          · intro wX hSw
            (try dsimp only at hSw)
            have z0 := cell_on hSw o0; have z1 := cell_on hSw o1; have z2 := cell_on hSw b0; have z3 := cell_on hSw x0; have z4 := cell_on hSw x1; have z5 := cell_on hSw x2; have z6 := cell_on hSw d0; have z7 := cell_on hSw d1; have z8 := cell_on hSw d2
            go_simp
          simp only [Act.put, List.setIfInBounds_toArray, List.set_cons_succ, List.set_cons_zero]
          refine wpAnyH_take (i := 12) (oi := Oper.mk (some 60) _ _ _ _ _) (v := .pointer (some ⟨w.heap.size, 1, none⟩)) rfl (by kernel_rfl) (by kernel_rfl) (by kernel_rfl) (fun _ _ _ h => h) (Or.inl ⟨by rfl, ?_⟩) (by assumption) ?_
          · intro wX hSw
            (try dsimp only at hSw)
            have z0 := cell_on hSw o0; have z1 := cell_on hSw o1; have z2 := cell_on hSw b0; have z3 := cell_on hSw x0; have z4 := cell_on hSw x1; have z5 := cell_on hSw x2; have z6 := cell_on hSw d0; have z7 := cell_on hSw d1; have z8 := cell_on hSw d2
            go_simp
          simp only [Act.put, List.setIfInBounds_toArray, List.set_cons_succ, List.set_cons_zero]
          refine wpAnyH_take (i := 13) (oi := Oper.mk (some 61) _ _ _ _ _) (v := .slice (some ⟨b, o, none⟩) n cap) rfl (by kernel_rfl) (by kernel_rfl) (by kernel_rfl) (fun _ _ _ h => h) (Or.inl ⟨by rfl, ?_⟩) (by assumption) ?_
          · intro wX hSw
            (try dsimp only at hSw)
            have z0 := cell_on hSw o0; have z1 := cell_on hSw o1; have z2 := cell_on hSw b0; have z3 := cell_on hSw x0; have z4 := cell_on hSw x1; have z5 := cell_on hSw x2; have z6 := cell_on hSw d0; have z7 := cell_on hSw d1; have z8 := cell_on hSw d2
            go_simp
          simp only [Act.put, List.setIfInBounds_toArray, List.set_cons_succ, List.set_cons_zero]
          refine wpAnyH_take (i := 14) (oi := Oper.mk (some 62) _ _ _ _ _) (v := .int .i64 (q0 : Int)) rfl (by kernel_rfl) (by kernel_rfl) (by kernel_rfl) (fun _ _ _ h => h) (Or.inl ⟨by rfl, ?_⟩) (by assumption) ?_
          · intro wX hSw
            (try dsimp only at hSw)
            have z0 := cell_on hSw o0; have z1 := cell_on hSw o1; have z2 := cell_on hSw b0; have z3 := cell_on hSw x0; have z4 := cell_on hSw x1; have z5 := cell_on hSw x2; have z6 := cell_on hSw d0; have z7 := cell_on hSw d1; have z8 := cell_on hSw d2
            go_simp
          simp only [Act.put, List.setIfInBounds_toArray, List.set_cons_succ, List.set_cons_zero]
          refine wpAnyH_take (i := 15) (oi := Oper.mk (some 63) _ _ _ _ _) (v := .pointer (some ⟨b, o + q0 * 3, none⟩)) rfl (by kernel_rfl) (by kernel_rfl) (by kernel_rfl) (fun _ _ _ h => h) (Or.inl ⟨by rfl, ?_⟩) (by assumption) ?_
          · intro wX hSw
            (try dsimp only at hSw)
            have z0 := cell_on hSw o0; have z1 := cell_on hSw o1; have z2 := cell_on hSw b0; have z3 := cell_on hSw x0; have z4 := cell_on hSw x1; have z5 := cell_on hSw x2; have z6 := cell_on hSw d0; have z7 := cell_on hSw d1; have z8 := cell_on hSw d2
            go_simp
          simp only [Act.put, List.setIfInBounds_toArray, List.set_cons_succ, List.set_cons_zero]
          refine wpAnyH_take (i := 16) (oi := Oper.mk (some 64) _ _ _ _ _) (v := .agg #[.int .i64 ff, .int .i64 (aa : Int), .int .i64 (bb : Int)]) rfl (by kernel_rfl) (by kernel_rfl) (by kernel_rfl) (fun _ _ _ h => h) (Or.inl ⟨by rfl, ?_⟩) (by assumption) ?_
          · intro wX hSw
            (try dsimp only at hSw)
            have z0 := cell_on hSw o0; have z1 := cell_on hSw o1; have z2 := cell_on hSw b0; have z3 := cell_on hSw x0; have z4 := cell_on hSw x1; have z5 := cell_on hSw x2; have z6 := cell_on hSw d0; have z7 := cell_on hSw d1; have z8 := cell_on hSw d2
            go_simp
          simp only [Act.put, List.setIfInBounds_toArray, List.set_cons_succ, List.set_cons_zero]
          refine wpAnyH_take (i := 17) (oi := Oper.mk (some 65) _ _ _ _ _) (v := .bool false) rfl (by kernel_rfl) (by kernel_rfl) (by kernel_rfl) (fun _ _ _ h => h) (Or.inl ⟨by rfl, ?_⟩) (by assumption) ?_
          · intro wX hSw
            (try dsimp only at hSw)
            have z0 := cell_on hSw o0; have z1 := cell_on hSw o1; have z2 := cell_on hSw b0; have z3 := cell_on hSw x0; have z4 := cell_on hSw x1; have z5 := cell_on hSw x2; have z6 := cell_on hSw d0; have z7 := cell_on hSw d1; have z8 := cell_on hSw d2
            go_simp
          simp only [Act.put, List.setIfInBounds_toArray, List.set_cons_succ, List.set_cons_zero]
          refine wpAnyH_take (i := 18) (oi := Oper.mk (some 66) _ _ _ _ _) (v := .bool false) rfl (by kernel_rfl) (by kernel_rfl) (by kernel_rfl) (fun _ _ _ h => h) (Or.inl ⟨by rfl, ?_⟩) (by assumption) ?_
          · intro wX hSw
            (try dsimp only at hSw)
            have z0 := cell_on hSw o0; have z1 := cell_on hSw o1; have z2 := cell_on hSw b0; have z3 := cell_on hSw x0; have z4 := cell_on hSw x1; have z5 := cell_on hSw x2; have z6 := cell_on hSw d0; have z7 := cell_on hSw d1; have z8 := cell_on hSw d2
            go_simp
          simp only [Act.put, List.setIfInBounds_toArray, List.set_cons_succ, List.set_cons_zero]
          refine wpAnyH_take (i := 19) (oi := Oper.mk (some 67) _ _ _ _ _) (v := .bool false) rfl (by kernel_rfl) (by kernel_rfl) (by kernel_rfl) (fun _ _ _ h => h) (Or.inl ⟨by rfl, ?_⟩) (by assumption) ?_
          · intro wX hSw
            (try dsimp only at hSw)
            have z0 := cell_on hSw o0; have z1 := cell_on hSw o1; have z2 := cell_on hSw b0; have z3 := cell_on hSw x0; have z4 := cell_on hSw x1; have z5 := cell_on hSw x2; have z6 := cell_on hSw d0; have z7 := cell_on hSw d1; have z8 := cell_on hSw d2
            go_simp
          simp only [Act.put, List.setIfInBounds_toArray, List.set_cons_succ, List.set_cons_zero]
          refine wpAnyH_take (i := 20) (oi := Oper.mk (some 68) _ _ _ _ _) (v := .string (T.extract aa bb)) rfl (by kernel_rfl) (by kernel_rfl) (by kernel_rfl) (fun _ _ _ h => h) (Or.inl ⟨by rfl, ?_⟩) (by assumption) ?_
          · intro wX hSw
            (try dsimp only at hSw)
            have z0 := cell_on hSw o0; have z1 := cell_on hSw o1; have z2 := cell_on hSw b0; have z3 := cell_on hSw x0; have z4 := cell_on hSw x1; have z5 := cell_on hSw x2; have z6 := cell_on hSw d0; have z7 := cell_on hSw d1; have z8 := cell_on hSw d2
            go_simp
          simp only [Act.put, List.setIfInBounds_toArray, List.set_cons_succ, List.set_cons_zero]
          refine wpAnyH_take (i := 21) (oi := Oper.mk (some 69) _ _ _ _ _) (v := .pointer (some ⟨w.heap.size, 0, none⟩)) rfl (by kernel_rfl) (by kernel_rfl) (by kernel_rfl) (fun _ _ _ h => h) (Or.inl ⟨by rfl, ?_⟩) (by assumption) ?_
          · intro wX hSw
            (try dsimp only at hSw)
            have z0 := cell_on hSw o0; have z1 := cell_on hSw o1; have z2 := cell_on hSw b0; have z3 := cell_on hSw x0; have z4 := cell_on hSw x1; have z5 := cell_on hSw x2; have z6 := cell_on hSw d0; have z7 := cell_on hSw d1; have z8 := cell_on hSw d2
            go_simp
          simp only [Act.put, List.setIfInBounds_toArray, List.set_cons_succ, List.set_cons_zero]
          refine wpAnyH_take (i := 22) (oi := Oper.mk (some 70) _ _ _ _ _) (v := .string T) rfl (by kernel_rfl) (by kernel_rfl) (by kernel_rfl) (fun _ _ _ h => h) (Or.inl ⟨by rfl, ?_⟩) (by assumption) ?_
          · intro wX hSw
            (try dsimp only at hSw)
            have z0 := cell_on hSw o0; have z1 := cell_on hSw o1; have z2 := cell_on hSw b0; have z3 := cell_on hSw x0; have z4 := cell_on hSw x1; have z5 := cell_on hSw x2; have z6 := cell_on hSw d0; have z7 := cell_on hSw d1; have z8 := cell_on hSw d2
            go_simp
          simp only [Act.put, List.setIfInBounds_toArray, List.set_cons_succ, List.set_cons_zero]
          refine wpAnyH_take (i := 23) (oi := Oper.mk (some 71) _ _ _ _ _) (v := .pointer (some ⟨Bx, 1, none⟩)) rfl (by kernel_rfl) (by kernel_rfl) (by kernel_rfl) (fun _ _ _ h => h) (Or.inl ⟨by rfl, ?_⟩) (by assumption) ?_
          · intro wX hSw
            (try dsimp only at hSw)
            have z0 := cell_on hSw o0; have z1 := cell_on hSw o1; have z2 := cell_on hSw b0; have z3 := cell_on hSw x0; have z4 := cell_on hSw x1; have z5 := cell_on hSw x2; have z6 := cell_on hSw d0; have z7 := cell_on hSw d1; have z8 := cell_on hSw d2
            go_simp
          simp only [Act.put, List.setIfInBounds_toArray, List.set_cons_succ, List.set_cons_zero]
          refine wpAnyH_take (i := 24) (oi := Oper.mk (some 72) _ _ _ _ _) (v := .int .i64 (aa : Int)) rfl (by kernel_rfl) (by kernel_rfl) (by kernel_rfl) (fun _ _ _ h => h) (Or.inl ⟨by rfl, ?_⟩) (by assumption) ?_
          · intro wX hSw
            (try dsimp only at hSw)
            have z0 := cell_on hSw o0; have z1 := cell_on hSw o1; have z2 := cell_on hSw b0; have z3 := cell_on hSw x0; have z4 := cell_on hSw x1; have z5 := cell_on hSw x2; have z6 := cell_on hSw d0; have z7 := cell_on hSw d1; have z8 := cell_on hSw d2
            go_simp
          simp only [Act.put, List.setIfInBounds_toArray, List.set_cons_succ, List.set_cons_zero]
          refine wpAnyH_take (i := 25) (oi := Oper.mk (some 73) _ _ _ _ _) (v := .pointer (some ⟨Bx, 2, none⟩)) rfl (by kernel_rfl) (by kernel_rfl) (by kernel_rfl) (fun _ _ _ h => h) (Or.inl ⟨by rfl, ?_⟩) (by assumption) ?_
          · intro wX hSw
            (try dsimp only at hSw)
            have z0 := cell_on hSw o0; have z1 := cell_on hSw o1; have z2 := cell_on hSw b0; have z3 := cell_on hSw x0; have z4 := cell_on hSw x1; have z5 := cell_on hSw x2; have z6 := cell_on hSw d0; have z7 := cell_on hSw d1; have z8 := cell_on hSw d2
            go_simp
          simp only [Act.put, List.setIfInBounds_toArray, List.set_cons_succ, List.set_cons_zero]
          refine wpAnyH_take (i := 26) (oi := Oper.mk (some 74) _ _ _ _ _) (v := .int .i64 (bb : Int)) rfl (by kernel_rfl) (by kernel_rfl) (by kernel_rfl) (fun _ _ _ h => h) (Or.inl ⟨by rfl, ?_⟩) (by assumption) ?_
          · intro wX hSw
            (try dsimp only at hSw)
            have z0 := cell_on hSw o0; have z1 := cell_on hSw o1; have z2 := cell_on hSw b0; have z3 := cell_on hSw x0; have z4 := cell_on hSw x1; have z5 := cell_on hSw x2; have z6 := cell_on hSw d0; have z7 := cell_on hSw d1; have z8 := cell_on hSw d2
            go_simp
          simp only [Act.put, List.setIfInBounds_toArray, List.set_cons_succ, List.set_cons_zero]
          refine wpAnyH_take (i := 27) (oi := Oper.mk (some 75) _ _ _ _ _) (v := .string (T.extract aa bb)) rfl (by kernel_rfl) (by kernel_rfl) (by kernel_rfl) (fun _ _ _ h => h) (Or.inl ⟨by rfl, ?_⟩) (by assumption) ?_
          · intro wX hSw
            (try dsimp only at hSw)
            have z0 := cell_on hSw o0; have z1 := cell_on hSw o1; have z2 := cell_on hSw b0; have z3 := cell_on hSw x0; have z4 := cell_on hSw x1; have z5 := cell_on hSw x2; have z6 := cell_on hSw d0; have z7 := cell_on hSw d1; have z8 := cell_on hSw d2
            go_simp
          simp only [Act.put, List.setIfInBounds_toArray, List.set_cons_succ, List.set_cons_zero]
          refine wpAnyH_take (i := 28) (oi := Oper.mk (some 76) _ _ _ _ _) (v := .bool false) rfl (by kernel_rfl) (by kernel_rfl) (by kernel_rfl) (fun _ _ _ h => h) (Or.inl ⟨by rfl, ?_⟩) (by assumption) ?_
          · intro wX hSw
            (try dsimp only at hSw)
            have z0 := cell_on hSw o0; have z1 := cell_on hSw o1; have z2 := cell_on hSw b0; have z3 := cell_on hSw x0; have z4 := cell_on hSw x1; have z5 := cell_on hSw x2; have z6 := cell_on hSw d0; have z7 := cell_on hSw d1; have z8 := cell_on hSw d2
            go_simp
          simp only [Act.put, List.setIfInBounds_toArray, List.set_cons_succ, List.set_cons_zero]
          refine wpAnyH_take (i := 29) (oi := Oper.mk (some 77) _ _ _ _ _) (v := .bool false) rfl (by kernel_rfl) (by kernel_rfl) (by kernel_rfl) (fun _ _ _ h => h) (Or.inl ⟨by rfl, ?_⟩) (by assumption) ?_
          · intro wX hSw
            (try dsimp only at hSw)
            have z0 := cell_on hSw o0; have z1 := cell_on hSw o1; have z2 := cell_on hSw b0; have z3 := cell_on hSw x0; have z4 := cell_on hSw x1; have z5 := cell_on hSw x2; have z6 := cell_on hSw d0; have z7 := cell_on hSw d1; have z8 := cell_on hSw d2
            go_simp
          simp only [Act.put, List.setIfInBounds_toArray, List.set_cons_succ, List.set_cons_zero]
          refine wpAnyH_done (by kernel_rfl) ?_ _
          dsimp only [onlyN]
          have BY : Hid (Below V.heap.size V Y1) := hide (by assumption)
          have bNY := hide (Blk.below bN BY.out bN.lt)
          clear hHeld
          have y0 := cell_on BY.out b0
          have y1 := bNY.out.free 0
          have y2 := cell_on BY.out t0
          have y3 := cell_on BY.out s0
          clear o0 o1 t0 s0 b0 b1 x0 x1 x2 d0 d1 d2 nq
          have IN : Hid (∀ u, Blk (Y1.setCell ⟨W.heap.size, 0, none⟩ u) W.heap.size #[u] 3 ∧ Below W.heap.size X (Y1.setCell ⟨W.heap.size, 0, none⟩ u) ∧ Below W.heap.size V (Y1.setCell ⟨W.heap.size, 0, none⟩ u) ∧ KeepsOthers V (Y1.setCell ⟨W.heap.size, 0, none⟩ u)) := hide (fun u => ⟨bNY.out.setN 0 u, (hBV.trans (BY.out.mono (Nat.le_of_lt bN.lt))).setCell (p := ⟨W.heap.size, 0, none⟩) (Nat.le_refl _) u, (BY.out.mono (Nat.le_of_lt bN.lt)).setCell (p := ⟨W.heap.size, 0, none⟩) (Nat.le_refl _) u, (keepsOthers_of_below BY.out).trans (KeepsOthers.setCell _ _ _)⟩)
          have LQ : Hid (((pre ++ [x]).length : Int) = (q0 : Int) + 1) := hide (by rw [List.length_append, List.length_singleton, ← HQ.out]; simp)
          have hk1 : ¬ K = W.heap.size := Nat.ne_of_lt IR.out.kk.lt
          have hk2 : ¬ W.heap.size = K := Nat.ne_of_gt IR.out.kk.lt
          have hk3 : ¬ w.heap.size + 1 = W.heap.size := Nat.ne_of_lt IR.out.ks.lt
          have hk4 : ¬ W.heap.size = w.heap.size + 1 := Nat.ne_of_gt IR.out.ks.lt
          rcases h01 with rfl | rfl
          · by_cases hst : (q0 : Int) + 1 = st
            · gi_wp2
              exact ⟨(IN.out _).2.2.2.from _, .inl ⟨rfl, by rw [LQ.out, hst]; exact (IN.out _).1, (IN.out _).2.1⟩⟩
            · gi_wp2
              first | exact ⟨(IN.out _).2.2.2.from _, (IN.out _).2.2.1, by rw [LQ.out]; exact (IN.out _).1, (IN.out _).2.1⟩ | (rw [LQ.out]; exact ⟨(IN.out _).2.2.2.from _, (IN.out _).2.2.1, (IN.out _).1, (IN.out _).2.1⟩)
          · gi_wp2
            first | exact ⟨(IN.out _).2.2.2.from _, (IN.out _).2.2.1, by rw [LQ.out]; exact (IN.out _).1, (IN.out _).2.1⟩ | (rw [LQ.out]; exact ⟨(IN.out _).2.2.2.from _, (IN.out _).2.2.1, (IN.out _).1, (IN.out _).2.1⟩)
        · obtain ⟨sf, hsf⟩ : ∃ u, (gN spZ L q0).f = u := ⟨_, rfl⟩
          obtain ⟨sa, hsa⟩ : ∃ u, (gN spZ L q0).a = u := ⟨_, rfl⟩
          obtain ⟨sb, hsb⟩ : ∃ u, (gN spZ L q0).b = u := ⟨_, rfl⟩
          rw [hsf] at d0
          rw [hsa] at d1
          rw [hsb] at d2
          have nq := sp_neqI ⟨ff, (aa : Int), (bb : Int)⟩ ⟨sf, sa, sb⟩
          rw [show decide ((⟨ff, (aa : Int), (bb : Int)⟩ : Sp) = ⟨sf, sa, sb⟩) = false from decide_eq_false (fun q => hxs (by rw [XE.out, q, ← hsf, ← hsa, ← hsb]))] at nq
          simp only [Bool.not_false] at nq
          have NP : Hid (¬ (pre ++ [x]).map (·.1) <+: L) := hide (fun q => hxs (by
            obtain ⟨tl, htl⟩ := q
            rw [List.map_append] at htl
            unfold gN
            rw [← htl]
            simp [HQ.out]))
          clear hxs hsf hsa hsb
          gi_wp2
          refine wpIn_region_round (S := fun Y => Below V.heap.size V Y) (by kernel_rfl) (by kernel_rfl) (Below.refl _ _).drew (fun hHeld => ?_)
          refine wpAnyH_take (i := 0) (oi := Oper.mk (some 48) _ _ _ _ _) (v := .agg #[.string T, .slice (some ⟨b, o, none⟩) n cap]) rfl (by kernel_rfl) (by kernel_rfl) (by kernel_rfl) (fun _ _ _ h => h) (Or.inl ⟨by rfl, ?_⟩) (by assumption) ?_
          · intro wX hSw
            (try dsimp only at hSw)
            have z0 := cell_on hSw o0; have z1 := cell_on hSw o1; have z2 := cell_on hSw b0; have z3 := cell_on hSw x0; have z4 := cell_on hSw x1; have z5 := cell_on hSw x2; have z6 := cell_on hSw d0; have z7 := cell_on hSw d1; have z8 := cell_on hSw d2
            go_simp
          simp only [Act.put, List.setIfInBounds_toArray, List.set_cons_succ, List.set_cons_zero]
          refine wpAnyH_ready (rs := [1]) (by kernel_rfl) (by simp) ?_
          refine AllReadyH.cons (o := Oper.mk (some 49) _ _ _ _ _) rfl (fun K hK => ?_) AllReadyH.nil
          go_simp
          refine CMV.out.mono ?_
          rintro e Y1 ⟨rfl, hby⟩
          refine hK.out _ _ ?_ (fun hHeld => ?_)
          · exact (show Below V.heap.size V V.drew from (Below.refl _ _).drew).trans hby
          clear hK K
          refine wpAnyH_take (i := 2) (oi := Oper.mk (some 50) _ _ _ _ _) (v := .bool false) rfl (by kernel_rfl) (by kernel_rfl) (by kernel_rfl) (fun _ _ _ h => h) (Or.inl ⟨by rfl, ?_⟩) (by assumption) ?_
          · intro wX hSw
            (try dsimp only at hSw)
            have z0 := cell_on hSw o0; have z1 := cell_on hSw o1; have z2 := cell_on hSw b0; have z3 := cell_on hSw x0; have z4 := cell_on hSw x1; have z5 := cell_on hSw x2; have z6 := cell_on hSw d0; have z7 := cell_on hSw d1; have z8 := cell_on hSw d2
            go_simp
          simp only [Act.put, List.setIfInBounds_toArray, List.set_cons_succ, List.set_cons_zero]
          refine wpAnyH_take (i := 3) (oi := Oper.mk (some 51) _ _ _ _ _) (v := .bool false) rfl (by kernel_rfl) (by kernel_rfl) (by kernel_rfl) (fun _ _ _ h => h) (Or.inl ⟨by rfl, ?_⟩) (by assumption) ?_
          · intro wX hSw
            (try dsimp only at hSw)
            have z0 := cell_on hSw o0; have z1 := cell_on hSw o1; have z2 := cell_on hSw b0; have z3 := cell_on hSw x0; have z4 := cell_on hSw x1; have z5 := cell_on hSw x2; have z6 := cell_on hSw d0; have z7 := cell_on hSw d1; have z8 := cell_on hSw d2
            go_simp
          simp only [Act.put, List.setIfInBounds_toArray, List.set_cons_succ, List.set_cons_zero]
          refine wpAnyH_take (i := 4) (oi := Oper.mk (some 52) _ _ _ _ _) (v := .int .i64 (q0 : Int)) rfl (by kernel_rfl) (by kernel_rfl) (by kernel_rfl) (fun _ _ _ h => h) (Or.inl ⟨by rfl, ?_⟩) (by assumption) ?_
          · intro wX hSw
            (try dsimp only at hSw)
            have z0 := cell_on hSw o0; have z1 := cell_on hSw o1; have z2 := cell_on hSw b0; have z3 := cell_on hSw x0; have z4 := cell_on hSw x1; have z5 := cell_on hSw x2; have z6 := cell_on hSw d0; have z7 := cell_on hSw d1; have z8 := cell_on hSw d2
            go_simp
          simp only [Act.put, List.setIfInBounds_toArray, List.set_cons_succ, List.set_cons_zero]
          refine wpAnyH_take (i := 5) (oi := Oper.mk (some 53) _ _ _ _ _) (v := .pointer (some ⟨w.heap.size, 1, none⟩)) rfl (by kernel_rfl) (by kernel_rfl) (by kernel_rfl) (fun _ _ _ h => h) (Or.inl ⟨by rfl, ?_⟩) (by assumption) ?_
          · intro wX hSw
            (try dsimp only at hSw)
            have z0 := cell_on hSw o0; have z1 := cell_on hSw o1; have z2 := cell_on hSw b0; have z3 := cell_on hSw x0; have z4 := cell_on hSw x1; have z5 := cell_on hSw x2; have z6 := cell_on hSw d0; have z7 := cell_on hSw d1; have z8 := cell_on hSw d2
            go_simp
          simp only [Act.put, List.setIfInBounds_toArray, List.set_cons_succ, List.set_cons_zero]
          refine wpAnyH_take (i := 6) (oi := Oper.mk (some 54) _ _ _ _ _) (v := .slice (some ⟨b, o, none⟩) n cap) rfl (by kernel_rfl) (by kernel_rfl) (by kernel_rfl) (fun _ _ _ h => h) (Or.inl ⟨by rfl, ?_⟩) (by assumption) ?_
          · intro wX hSw
            (try dsimp only at hSw)
            have z0 := cell_on hSw o0; have z1 := cell_on hSw o1; have z2 := cell_on hSw b0; have z3 := cell_on hSw x0; have z4 := cell_on hSw x1; have z5 := cell_on hSw x2; have z6 := cell_on hSw d0; have z7 := cell_on hSw d1; have z8 := cell_on hSw d2
            go_simp
          simp only [Act.put, List.setIfInBounds_toArray, List.set_cons_succ, List.set_cons_zero]
          refine wpAnyH_take (i := 7) (oi := Oper.mk (some 55) _ _ _ _ _) (v := .int .i64 (n : Int)) rfl (by kernel_rfl) (by kernel_rfl) (by kernel_rfl) (fun _ _ _ h => h) (Or.inl ⟨by rfl, ?_⟩) (by assumption) ?_
          · intro wX hSw
            (try dsimp only at hSw)
            have z0 := cell_on hSw o0; have z1 := cell_on hSw o1; have z2 := cell_on hSw b0; have z3 := cell_on hSw x0; have z4 := cell_on hSw x1; have z5 := cell_on hSw x2; have z6 := cell_on hSw d0; have z7 := cell_on hSw d1; have z8 := cell_on hSw d2
            go_simp
          simp only [Act.put, List.setIfInBounds_toArray, List.set_cons_succ, List.set_cons_zero]
          refine wpAnyH_take (i := 8) (oi := Oper.mk (some 56) _ _ _ _ _) (v := .bool false) rfl (by kernel_rfl) (by kernel_rfl) (by kernel_rfl) (fun _ _ _ h => h) (Or.inl ⟨by rfl, ?_⟩) (by assumption) ?_
          · intro wX hSw
            (try dsimp only at hSw)
            have z0 := cell_on hSw o0; have z1 := cell_on hSw o1; have z2 := cell_on hSw b0; have z3 := cell_on hSw x0; have z4 := cell_on hSw x1; have z5 := cell_on hSw x2; have z6 := cell_on hSw d0; have z7 := cell_on hSw d1; have z8 := cell_on hSw d2
            go_simp
          simp only [Act.put, List.setIfInBounds_toArray, List.set_cons_succ, List.set_cons_zero]
          refine wpAnyH_take (i := 9) (oi := Oper.mk (some 57) _ _ _ _ _) (v := .bool false) rfl (by kernel_rfl) (by kernel_rfl) (by kernel_rfl) (fun _ _ _ h => h) (Or.inl ⟨by rfl, ?_⟩) (by assumption) ?_
          · intro wX hSw
            (try dsimp only at hSw)
            have z0 := cell_on hSw o0; have z1 := cell_on hSw o1; have z2 := cell_on hSw b0; have z3 := cell_on hSw x0; have z4 := cell_on hSw x1; have z5 := cell_on hSw x2; have z6 := cell_on hSw d0; have z7 := cell_on hSw d1; have z8 := cell_on hSw d2
            go_simp
          simp only [Act.put, List.setIfInBounds_toArray, List.set_cons_succ, List.set_cons_zero]
          refine wpAnyH_take (i := 10) (oi := Oper.mk (some 58) _ _ _ _ _) (v := .bool false) rfl (by kernel_rfl) (by kernel_rfl) (by kernel_rfl) (fun _ _ _ h => h) (Or.inl ⟨by rfl, ?_⟩) (by assumption) ?_
          · intro wX hSw
            (try dsimp only at hSw)
            have z0 := cell_on hSw o0; have z1 := cell_on hSw o1; have z2 := cell_on hSw b0; have z3 := cell_on hSw x0; have z4 := cell_on hSw x1; have z5 := cell_on hSw x2; have z6 := cell_on hSw d0; have z7 := cell_on hSw d1; have z8 := cell_on hSw d2
            go_simp
          simp only [Act.put, List.setIfInBounds_toArray, List.set_cons_succ, List.set_cons_zero]
          refine wpAnyH_take (i := 11) (oi := Oper.mk (some 59) _ _ _ _ _) (v := .agg #[.int .i64 ff, .int .i64 (aa : Int), .int .i64 (bb : Int)]) rfl (by kernel_rfl) (by kernel_rfl) (by kernel_rfl) (fun _ _ _ h => h) (Or.inl ⟨by rfl, ?_⟩) (by assumption) ?_
          · intro wX hSw
            (try dsimp only at hSw)
            have z0 := cell_on hSw o0; have z1 := cell_on hSw o1; have z2 := cell_on hSw b0; have z3 := cell_on hSw x0; have z4 := cell_on hSw x1; have z5 := cell_on hSw x2; have z6 := cell_on hSw d0; have z7 := cell_on hSw d1; have z8 := cell_on hSw d2
            go_simp
          simp only [Act.put, List.setIfInBounds_toArray, List.set_cons_succ, List.set_cons_zero]
          refine wpAnyH_take (i := 12) (oi := Oper.mk (some 60) _ _ _ _ _) (v := .pointer (some ⟨w.heap.size, 1, none⟩)) rfl (by kernel_rfl) (by kernel_rfl) (by kernel_rfl) (fun _ _ _ h => h) (Or.inl ⟨by rfl, ?_⟩) (by assumption) ?_
          · intro wX hSw
            (try dsimp only at hSw)
            have z0 := cell_on hSw o0; have z1 := cell_on hSw o1; have z2 := cell_on hSw b0; have z3 := cell_on hSw x0; have z4 := cell_on hSw x1; have z5 := cell_on hSw x2; have z6 := cell_on hSw d0; have z7 := cell_on hSw d1; have z8 := cell_on hSw d2
            go_simp
          simp only [Act.put, List.setIfInBounds_toArray, List.set_cons_succ, List.set_cons_zero]
          refine wpAnyH_take (i := 13) (oi := Oper.mk (some 61) _ _ _ _ _) (v := .slice (some ⟨b, o, none⟩) n cap) rfl (by kernel_rfl) (by kernel_rfl) (by kernel_rfl) (fun _ _ _ h => h) (Or.inl ⟨by rfl, ?_⟩) (by assumption) ?_
          · intro wX hSw
            (try dsimp only at hSw)
            have z0 := cell_on hSw o0; have z1 := cell_on hSw o1; have z2 := cell_on hSw b0; have z3 := cell_on hSw x0; have z4 := cell_on hSw x1; have z5 := cell_on hSw x2; have z6 := cell_on hSw d0; have z7 := cell_on hSw d1; have z8 := cell_on hSw d2
            go_simp
          simp only [Act.put, List.setIfInBounds_toArray, List.set_cons_succ, List.set_cons_zero]
          refine wpAnyH_take (i := 14) (oi := Oper.mk (some 62) _ _ _ _ _) (v := .int .i64 (q0 : Int)) rfl (by kernel_rfl) (by kernel_rfl) (by kernel_rfl) (fun _ _ _ h => h) (Or.inl ⟨by rfl, ?_⟩) (by assumption) ?_
          · intro wX hSw
            (try dsimp only at hSw)
            have z0 := cell_on hSw o0; have z1 := cell_on hSw o1; have z2 := cell_on hSw b0; have z3 := cell_on hSw x0; have z4 := cell_on hSw x1; have z5 := cell_on hSw x2; have z6 := cell_on hSw d0; have z7 := cell_on hSw d1; have z8 := cell_on hSw d2
            go_simp
          simp only [Act.put, List.setIfInBounds_toArray, List.set_cons_succ, List.set_cons_zero]
          refine wpAnyH_take (i := 15) (oi := Oper.mk (some 63) _ _ _ _ _) (v := .pointer (some ⟨b, o + q0 * 3, none⟩)) rfl (by kernel_rfl) (by kernel_rfl) (by kernel_rfl) (fun _ _ _ h => h) (Or.inl ⟨by rfl, ?_⟩) (by assumption) ?_
          · intro wX hSw
            (try dsimp only at hSw)
            have z0 := cell_on hSw o0; have z1 := cell_on hSw o1; have z2 := cell_on hSw b0; have z3 := cell_on hSw x0; have z4 := cell_on hSw x1; have z5 := cell_on hSw x2; have z6 := cell_on hSw d0; have z7 := cell_on hSw d1; have z8 := cell_on hSw d2
            go_simp
          simp only [Act.put, List.setIfInBounds_toArray, List.set_cons_succ, List.set_cons_zero]
          refine wpAnyH_take (i := 16) (oi := Oper.mk (some 64) _ _ _ _ _) (v := .agg #[.int .i64 sf, .int .i64 sa, .int .i64 sb]) rfl (by kernel_rfl) (by kernel_rfl) (by kernel_rfl) (fun _ _ _ h => h) (Or.inl ⟨by rfl, ?_⟩) (by assumption) ?_
          · intro wX hSw
            (try dsimp only at hSw)
            have z0 := cell_on hSw o0; have z1 := cell_on hSw o1; have z2 := cell_on hSw b0; have z3 := cell_on hSw x0; have z4 := cell_on hSw x1; have z5 := cell_on hSw x2; have z6 := cell_on hSw d0; have z7 := cell_on hSw d1; have z8 := cell_on hSw d2
            go_simp
          simp only [Act.put, List.setIfInBounds_toArray, List.set_cons_succ, List.set_cons_zero]
          refine wpAnyH_take (i := 17) (oi := Oper.mk (some 65) _ _ _ _ _) (v := .bool true) rfl (by kernel_rfl) (by kernel_rfl) (by kernel_rfl) (fun _ _ _ h => h) (Or.inl ⟨by rfl, ?_⟩) (by assumption) ?_
          · intro wX hSw
            (try dsimp only at hSw)
            have z0 := cell_on hSw o0; have z1 := cell_on hSw o1; have z2 := cell_on hSw b0; have z3 := cell_on hSw x0; have z4 := cell_on hSw x1; have z5 := cell_on hSw x2; have z6 := cell_on hSw d0; have z7 := cell_on hSw d1; have z8 := cell_on hSw d2
            go_simp
          simp only [Act.put, List.setIfInBounds_toArray, List.set_cons_succ, List.set_cons_zero]
          refine wpAnyH_take (i := 18) (oi := Oper.mk (some 66) _ _ _ _ _) (v := .bool true) rfl (by kernel_rfl) (by kernel_rfl) (by kernel_rfl) (fun _ _ _ h => h) (Or.inl ⟨by rfl, ?_⟩) (by assumption) ?_
          · intro wX hSw
            (try dsimp only at hSw)
            have z0 := cell_on hSw o0; have z1 := cell_on hSw o1; have z2 := cell_on hSw b0; have z3 := cell_on hSw x0; have z4 := cell_on hSw x1; have z5 := cell_on hSw x2; have z6 := cell_on hSw d0; have z7 := cell_on hSw d1; have z8 := cell_on hSw d2
            go_simp
          simp only [Act.put, List.setIfInBounds_toArray, List.set_cons_succ, List.set_cons_zero]
          refine wpAnyH_take (i := 19) (oi := Oper.mk (some 67) _ _ _ _ _) (v := .bool true) rfl (by kernel_rfl) (by kernel_rfl) (by kernel_rfl) (fun _ _ _ h => h) (Or.inl ⟨by rfl, ?_⟩) (by assumption) ?_
          · intro wX hSw
            (try dsimp only at hSw)
            have z0 := cell_on hSw o0; have z1 := cell_on hSw o1; have z2 := cell_on hSw b0; have z3 := cell_on hSw x0; have z4 := cell_on hSw x1; have z5 := cell_on hSw x2; have z6 := cell_on hSw d0; have z7 := cell_on hSw d1; have z8 := cell_on hSw d2
            go_simp
          simp only [Act.put, List.setIfInBounds_toArray, List.set_cons_succ, List.set_cons_zero]
          refine wpAnyH_take (i := 20) (oi := Oper.mk (some 68) _ _ _ _ _) (v := undef) rfl (by kernel_rfl) (by kernel_rfl) (by kernel_rfl) (fun _ _ _ h => h) (Or.inr ⟨by rfl, rfl⟩) (by assumption) ?_
          simp only [Act.put, List.setIfInBounds_toArray, List.set_cons_succ, List.set_cons_zero]
          refine wpAnyH_take (i := 21) (oi := Oper.mk (some 69) _ _ _ _ _) (v := undef) rfl (by kernel_rfl) (by kernel_rfl) (by kernel_rfl) (fun _ _ _ h => h) (Or.inr ⟨by rfl, rfl⟩) (by assumption) ?_
          simp only [Act.put, List.setIfInBounds_toArray, List.set_cons_succ, List.set_cons_zero]
          refine wpAnyH_take (i := 22) (oi := Oper.mk (some 70) _ _ _ _ _) (v := undef) rfl (by kernel_rfl) (by kernel_rfl) (by kernel_rfl) (fun _ _ _ h => h) (Or.inr ⟨by rfl, rfl⟩) (by assumption) ?_
          simp only [Act.put, List.setIfInBounds_toArray, List.set_cons_succ, List.set_cons_zero]
          refine wpAnyH_take (i := 23) (oi := Oper.mk (some 71) _ _ _ _ _) (v := undef) rfl (by kernel_rfl) (by kernel_rfl) (by kernel_rfl) (fun _ _ _ h => h) (Or.inr ⟨by rfl, rfl⟩) (by assumption) ?_
          simp only [Act.put, List.setIfInBounds_toArray, List.set_cons_succ, List.set_cons_zero]
          refine wpAnyH_take (i := 24) (oi := Oper.mk (some 72) _ _ _ _ _) (v := undef) rfl (by kernel_rfl) (by kernel_rfl) (by kernel_rfl) (fun _ _ _ h => h) (Or.inr ⟨by rfl, rfl⟩) (by assumption) ?_
          simp only [Act.put, List.setIfInBounds_toArray, List.set_cons_succ, List.set_cons_zero]
          refine wpAnyH_take (i := 25) (oi := Oper.mk (some 73) _ _ _ _ _) (v := undef) rfl (by kernel_rfl) (by kernel_rfl) (by kernel_rfl) (fun _ _ _ h => h) (Or.inr ⟨by rfl, rfl⟩) (by assumption) ?_
          simp only [Act.put, List.setIfInBounds_toArray, List.set_cons_succ, List.set_cons_zero]
          refine wpAnyH_take (i := 26) (oi := Oper.mk (some 74) _ _ _ _ _) (v := undef) rfl (by kernel_rfl) (by kernel_rfl) (by kernel_rfl) (fun _ _ _ h => h) (Or.inr ⟨by rfl, rfl⟩) (by assumption) ?_
          simp only [Act.put, List.setIfInBounds_toArray, List.set_cons_succ, List.set_cons_zero]
          refine wpAnyH_take (i := 27) (oi := Oper.mk (some 75) _ _ _ _ _) (v := undef) rfl (by kernel_rfl) (by kernel_rfl) (by kernel_rfl) (fun _ _ _ h => h) (Or.inr ⟨by rfl, rfl⟩) (by assumption) ?_
          simp only [Act.put, List.setIfInBounds_toArray, List.set_cons_succ, List.set_cons_zero]
          refine wpAnyH_take (i := 28) (oi := Oper.mk (some 76) _ _ _ _ _) (v := undef) rfl (by kernel_rfl) (by kernel_rfl) (by kernel_rfl) (fun _ _ _ h => h) (Or.inr ⟨by rfl, rfl⟩) (by assumption) ?_
          simp only [Act.put, List.setIfInBounds_toArray, List.set_cons_succ, List.set_cons_zero]
          refine wpAnyH_take (i := 29) (oi := Oper.mk (some 77) _ _ _ _ _) (v := .bool true) rfl (by kernel_rfl) (by kernel_rfl) (by kernel_rfl) (fun _ _ _ h => h) (Or.inl ⟨by rfl, ?_⟩) (by assumption) ?_
          · intro wX hSw
            (try dsimp only at hSw)
            have z0 := cell_on hSw o0; have z1 := cell_on hSw o1; have z2 := cell_on hSw b0; have z3 := cell_on hSw x0; have z4 := cell_on hSw x1; have z5 := cell_on hSw x2; have z6 := cell_on hSw d0; have z7 := cell_on hSw d1; have z8 := cell_on hSw d2
            go_simp
          simp only [Act.put, List.setIfInBounds_toArray, List.set_cons_succ, List.set_cons_zero]
          refine wpAnyH_done (by kernel_rfl) ?_ _
          dsimp only [onlyN]
          have BY : Hid (Below V.heap.size V Y1) := hide (by assumption)
          have bNY := hide (Blk.below bN BY.out bN.lt)
          clear hHeld
          have r0 := cell_on BY.out (V1.out.kr.cell 0)
          have r1 := (V1.out.kr.below BY.out V1.out.kr.lt).free 0
          clear o0 o1 t0 s0 b0 b1 x0 x1 x2 d0 d1 d2 nq
          gi_wp2
          exact ⟨((keepsOthers_of_below BY.out).trans (KeepsOthers.setCell _ _ _)).from _, by first | exact .inr ⟨rfl, NP.out⟩ | exact .inr NP.out | exact NP.out⟩
    case done =>
      rintro D ys V hD hS ⟨bN, hBV⟩ hK
      have V1 := hide (IR.out.below (bX.out.trans hBV))
      have DM := hide (Marks.cons IR.out.mks (Nat.le_refl _) (bX.out.trans hBV) (Nat.le_trans nW.out hD) hK)
      have wD : Hid (w.heap.size ≤ D) := hide (Nat.le_trans IX.out.bel.size hD)
      have k9 := hide (IR.out.kk.cell 0)
      have b0 := bN.cell 0
      have k0 := V1.out.kk.cell 0
      have k1 := V1.out.ko.cell 0
      have k2 := V1.out.ko.cell 1
      clear hK hBV IX NX bX
      rcases h01 with rfl | rfl
      · gi_wp2
        refine ⟨by first | trivial | (intros; trivial), ?_⟩
        gi_wp2
        exact ⟨⟨1, V.heap.size, D :: Ds, _, _, _, _, _, _, _, _, _, _, _, _, _, _, _, _, _, _, _, _, by decide, hide rfl, hide (LoR.next V1.out DM.out wD.out 1), rfl⟩, by rw [turnM_eq (K := V.heap.size) (tn := 1) rfl ((Blk.newAt V _ rfl _ _).cell 0), turnM_eq (K := K) (tn := 0) rfl k9.out]; decide⟩
      · gi_wp2
        refine ⟨trivial, (callsIn_wide.2 (CM.out V V1.out.bel)).mono ?_⟩
        rintro e X2 ⟨rfl, hbx⟩
        have V2 := hide (V1.out.below hbx)
        have DM2 := hide (DM.out.below hbx)
        have b2 := cell_on hbx b0
        have k3 := V2.out.ko.cell 0
        have k4 := V2.out.ko.cell 1
        have k5 := V2.out.kk.cell 0
        clear b0 k0 k1 k2 hbx V1 DM
        cases mm with
        | true =>
          have e1 : ys.length = n := by have q := congrArg List.length hS; rw [List.length_map, (HT.out rfl).2, ← HN.out] at q; exact q
          have e2 : ((ys.length : Int) != (n : Int)) = false := by rw [e1]; simp
          clear e1 hS
          gi_wp2
          exact ⟨⟨2, X2.heap.size, D :: Ds, _, _, _, _, _, _, _, _, _, _, _, _, _, _, _, _, _, _, _, _, by decide, hide rfl, hide (LoR.next V2.out DM2.out wD.out 2), rfl⟩, by rw [turnM_eq (K := X2.heap.size) (tn := 2) rfl ((Blk.newAt X2 _ rfl _ _).cell 0), turnM_eq (K := K) (tn := 1) rfl k9.out]; decide⟩
        | false =>
          clear hS
          gi_wp2
          exact ⟨⟨2, X2.heap.size, D :: Ds, _, _, _, _, _, _, _, _, _, _, _, _, _, _, _, _, _, _, _, _, by decide, hide rfl, hide (LoR.next V2.out DM2.out wD.out 2), rfl⟩, by rw [turnM_eq (K := X2.heap.size) (tn := 2) rfl ((Blk.newAt X2 _ rfl _ _).cell 0), turnM_eq (K := K) (tn := 1) rfl k9.out]; decide⟩
    case stop =>
      rintro D c pre V hD hS (⟨rfl, h0, bN, hBV⟩ | ⟨rfl, h⟩) hK
      · have V1 := hide (IR.out.below (bX.out.trans hBV))
        have DM := hide (Marks.cons IR.out.mks (Nat.le_refl _) (bX.out.trans hBV) (Nat.le_trans nW.out hD) hK)
        have wD : Hid (w.heap.size ≤ D) := hide (Nat.le_trans IX.out.bel.size hD)
        have k9 := hide (IR.out.kk.cell 0)
        have b0 := bN.cell 0
        have k0 := V1.out.kk.cell 0
        have k1 := V1.out.ko.cell 0
        have k2 := V1.out.ko.cell 1
        clear hK hBV IX NX bX
        subst h0
        clear h01
        gi_wp2
        refine ⟨by first | trivial | (intros; trivial), ?_⟩
        gi_wp2
        exact ⟨⟨1, V.heap.size, D :: Ds, _, _, _, _, _, _, _, _, _, _, _, _, _, _, _, _, _, _, _, _, by decide, hide rfl, hide (LoR.next V1.out DM.out wD.out 1), rfl⟩, by rw [turnM_eq (K := V.heap.size) (tn := 1) rfl ((Blk.newAt V _ rfl _ _).cell 0), turnM_eq (K := K) (tn := 0) rfl k9.out]; decide⟩
      · exact absurd hS h

theorem lvl_row (w : World) (hT : U8 w) (t : ByteArray) (v : Value) (l : List Sp) (hv : SpV w v l) (hno : NilOr v) (ht : t.size ≤ 1048576) (hl : l.length ≤ 1048576) (st : Int) :
    Calls Tryd.prog 5 #[.agg #[.string t, v], .int .i64 st] w fun e w' => e = .returned (.bool true) ∧ Below w.heap.size w w' := lvl_any t v l st w hT ht hv hno hl
end Go.Proofs.YtkgapklhgkngnaaDoor

namespace Go.Proofs.YtkgapklhgkngnaaDoor
open Go.RowKit

theorem laid_first : (Rows.laid_unicode_utf8_first : DataW Unit) = Lib.firstData := by kernel_rfl
theorem laid_accept : (Rows.laid_unicode_utf8_acceptRanges : DataW Unit) = Lib.acceptData := by kernel_rfl
theorem cellsAR : Tryd.prog.cellsOf 97 = 2 := by kernel_rfl
theorem cellsU8 : Tryd.prog.cellsOf 5 = 1 := by kernel_rfl
theorem cellsFT : Tryd.prog.cellsOf 95 = 256 := by kernel_rfl

theorem first_of {W : World} (h : Lib.VarReads Tryd.prog W "unicode/utf8.first" Lib.firstData) : ∀ c, c < 256 → W.cell? ⟨0, c, none⟩ = some (.int .u8 (Lib.firstT c : Int)) := by
  intro c hc
  obtain ⟨g, t, cs, fuel, p, hg, hty, hvar, hd⟩ := h
  have eg : g = 0 := Option.some.inj (hg.symm.trans (by kernel_rfl))
  subst eg
  have et : t = 95 := Option.some.inj (hty.symm.trans (by kernel_rfl))
  subst et
  have hcs := Lib.cells_of_tab Tryd.underlying95 Tryd.underlying5 cellsU8 cellsFT hd
  rw [World.var?_cell hg hvar c, ← Array.getElem?_toList, hcs]
  simp [Lib.firstTab, hc]

theorem accept_of {W : World} (h : Lib.VarReads Tryd.prog W "unicode/utf8.acceptRanges" Lib.acceptData) : ∀ i, i < 16 → W.cell? ⟨1, 2 * i, none⟩ = some (.int .u8 (Lib.accLo i : Int)) ∧ W.cell? ⟨1, 2 * i + 1, none⟩ = some (.int .u8 (Lib.accHi i : Int)) := by
  intro i hi
  obtain ⟨g, t, cs, fuel, p, hg, hty, hvar, hd⟩ := h
  have eg : g = 1 := Option.some.inj (hg.symm.trans (by kernel_rfl))
  subst eg
  have et : t = 98 := Option.some.inj (hty.symm.trans (by kernel_rfl))
  subst et
  obtain ⟨fu, d, q, hdi, he⟩ := Lib.array_elem Tryd.underlying98 hd i hi
  rw [cellsAR] at he
  have hdv : d = .agg ([(Lib.accLo i : Int), (Lib.accHi i : Int)].map fun z => .lit (.int .u8 z)) := by
    rw [List.getElem?_map, List.getElem?_range hi] at hdi
    exact (Option.some.inj hdi).symm
  subst hdv
  have fields : ∀ (j : Nat) (f : Field), (Tryd.prog.fieldsOf 97)[j]? = some f → Tryd.prog.underlying f.type = some (.int .u8) ∧ f.offset = j ∧ Tryd.prog.cellsOf f.type = 1 := by
    intro j f hj
    have e2 : Tryd.prog.fieldsOf 97 = #[(Tryd.prog.fieldsOf 97)[0]!, (Tryd.prog.fieldsOf 97)[1]!] := by kernel_rfl
    rw [e2] at hj
    match j, hj with
    | 0, hj => simp at hj; subst hj; exact ⟨by kernel_rfl, by kernel_rfl, by kernel_rfl⟩
    | 1, hj => simp at hj; subst hj; exact ⟨by kernel_rfl, by kernel_rfl, by kernel_rfl⟩
    | j + 2, hj => simp at hj
  have hcs := Lib.ints_of_struct (fs := Tryd.prog.fieldsOf 97) (by kernel_rfl) fields (by kernel_rfl) he
  have q0 := congrArg (fun l => l[0]?) hcs
  have q1 := congrArg (fun l => l[1]?) hcs
  simp only [List.getElem?_take, List.getElem?_drop] at q0 q1
  refine ⟨?_, ?_⟩
  · rw [World.var?_cell hg hvar (2 * i), ← Array.getElem?_toList, Nat.mul_comm]
    simpa using q0
  · rw [World.var?_cell hg hvar (2 * i + 1), ← Array.getElem?_toList, Nat.mul_comm]
    simpa using q1

theorem table {W : World} (h : laidMetH Tryd.prog [("unicode/utf8.acceptRanges", Rows.laid_unicode_utf8_acceptRanges), ("unicode/utf8.first", Rows.laid_unicode_utf8_first)] W) : U8 W := by
  have h' : laidMet Tryd.prog [("unicode/utf8.acceptRanges", Rows.laid_unicode_utf8_acceptRanges), ("unicode/utf8.first", Rows.laid_unicode_utf8_first)] W := h
  have h3 := Lib.laidMet.reads h' (n := "unicode/utf8.first") (d := Rows.laid_unicode_utf8_first) (by simp)
  have h4 := Lib.laidMet.reads h' (n := "unicode/utf8.acceptRanges") (d := Rows.laid_unicode_utf8_acceptRanges) (by simp)
  rw [laid_first] at h3
  rw [laid_accept] at h4
  exact ⟨first_of h3, accept_of h4⟩

def tabVals : DataW Unit → Array Value
  | .agg l => (l.flatMap fun
      | .lit (.int k z) => [Value.int k z]
      | .agg l2 => l2.map fun
        | .lit (.int k z) => Value.int k z
        | _ => .int .u8 0
      | _ => []).toArray
  | _ => #[]

def putVals (d : DataW Unit) : Obj → Obj
  | .cells _ t frozen => .cells (tabVals d) t frozen
  | o => o

noncomputable def laidWorld (os : Os) : World :=
  { World.holding Tryd.prog os ⟨#[], #[], []⟩ with
    heap := ((World.holding Tryd.prog os ⟨#[], #[], []⟩).heap.modify 1 (putVals Rows.laid_unicode_utf8_acceptRanges)).modify 0 (putVals Rows.laid_unicode_utf8_first) }

end Go.Proofs.YtkgapklhgkngnaaDoor
