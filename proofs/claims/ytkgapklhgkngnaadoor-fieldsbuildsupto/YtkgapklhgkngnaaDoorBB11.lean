/-
  The reference's Build.
  FieldsBuilds answers true, whatever it is handed: the law's walk.
  What the rows' list of package variables gives, and a world that holds them (a dump without DecodeRuneInString).
-/
import Derived.Test.YtkgapklhgkngnaaDoorBB10
import Derived.Test.YtkgapklhgkngnaaDoorBB7
import Derived.Lib.AppendStr
import Derived.Test.YtkgapklhgkngnaaDoorBB9
import Derived.Test.YtkgapklhgkngnaaDoorRows
import Derived.Test.YtkgapklhgkngnaaDoorBB3
import Derived.Lib.LaidU8
import Derived.Deep.DeepHandedRow
namespace Go.Proofs.YtkgapklhgkngnaaDoor
open Go.RowKit

theorem endS_spN9 (L : List Sp) : endS L spN = L := by unfold endS; rw [if_neg (by decide)]
theorem rput_put (x : Sp) : ∀ l : List Sp, rputL x l = putS x l
  | [] => rfl
  | y :: l => by
    unfold rputL putS
    have e : ahdB x y = true ↔ ¬ LtS y x := by
      unfold ahdB LtS
      simp only [Bool.or_eq_true, Bool.and_eq_true, decide_eq_true_eq]
      omega
    by_cases h : LtS y x
    · rw [if_pos h, if_neg (fun q => e.1 q h), rput_put x l]
    · rw [if_neg h, if_pos (e.2 h)]
theorem rPut_m (so : Option Addr) (m sc : Nat) (L : List Sp) (f a b : Int) (B : Nat) (X : World) (h : OwnS B X (.slice so m sc) L) (hm : L.length = m) (hl : (m + 2) * 32 ≤ 140737488355328) :
    Calls Tryd.prog 29 #[.slice so m sc, .agg #[.int .i64 f, .int .i64 a, .int .i64 b]] X fun e w' => (∃ uo uc, e = .returned (.slice uo (m + 1) uc) ∧ Hid (OwnS X.heap.size w' (.slice uo (m + 1) uc) (putS ⟨f, a, b⟩ L))) ∧ Hid (Below X.heap.size X w') := by
  subst hm
  refine (rPut_any _ L ⟨f, a, b⟩ X h.spv hl).mono ?_
  rintro e w' ⟨HE, hb⟩
  obtain ⟨uo, uc, rfl, ho⟩ := HE.out
  rw [rput_put] at ho
  exact ⟨⟨uo, uc, rfl, hide ho⟩, hide hb⟩

structure RbR (w : World) (l : List Pe) (R : List UInt8 × List Sp) (wr : World) (i : Nat) (bv : Value) (N : Nat) (sv : Value) (m : Nat) (bs : List UInt8) (sp : List Sp) (dg : Sp) (f0 l0 : Int) : Prop where
  hN : bs.length = N
  hm : sp.length = m
  own : wr.ownsRow (w.heap.size + 1) 5 1 bv N (Lib.byteCells bs)
  spn : OwnS (w.heap.size + 1) wr sv (insS sp)
  inv : BlI N sp dg
  no : dg.b ≤ 0 → f0 = -1
  yes : 0 < dg.b → f0 = dg.a ∧ l0 = dg.b
  res : bldF (l.drop i) bs sp dg = R
  may : (l.take i).any unfB = false
  sum : N + sumP (l.drop i) ≤ 140737488355328
  two : m ≤ 2 * i
  blk : Blk wr w.heap.size #[.string ⟨#[]⟩, .slice none 0 0] 25
  bel : Below w.heap.size w wr

def RbA (l : List Pe) (R : List UInt8 × List Sp) (H : Nat) (e : Ending) (w' : World) : Prop :=
  (l.any unfB = true ∧ e = .returned (.tuple #[.agg #[.string ⟨#[]⟩, .slice none 0 0], .int .i64 170])) ∨
  (l.any unfB = false ∧ ∃ uo uc, e = .returned (.tuple #[.agg #[.string ⟨R.1.toArray⟩, .slice uo R.2.length uc], .int .i64 0]) ∧ OwnS H w' (.slice uo R.2.length uc) (insS R.2))

theorem peN_take {l : List Pe} {i : Nat} (h : i < l.length) : l.take (i + 1) = l.take i ++ [gN peZ l i] := by
  rw [List.take_add_one]
  unfold gN
  rw [List.getElem?_eq_getElem h]
  rfl
theorem peN_drop {l : List Pe} {i : Nat} (h : i < l.length) : l.drop i = gN peZ l i :: l.drop (i + 1) := by
  rw [List.drop_eq_getElem_cons h]
  unfold gN
  rw [List.getElem?_eq_getElem h]
  rfl
theorem any_of_gN {l : List Pe} {i : Nat} (h : i < l.length) (hu : unfB (gN peZ l i) = true) : l.any unfB = true := List.any_eq_true.2 ⟨_, gN_mem h, hu⟩
theorem byteAt {w : World} {B g n cap : Nat} {bs : List UInt8} (h : w.ownsRow B 5 1 (.slice (some ⟨g, 0, none⟩) n cap) n (Lib.byteCells bs)) (hn : bs.length = n) : (convert 48 9 (.slice (some ⟨g, 0, none⟩) n cap)).run Tryd.prog w = .ok (.string ⟨bs.toArray⟩) w := by
  subst hn
  refine convB_at fun i hi => ?_
  rw [Nat.zero_add, (own_get h i (by omega)).1]
  unfold Lib.byteCells byt
  simp [hi]

theorem own_keptF {w w' : World} {B B2 n n2 k k2 : Nat} {e e2 : TypeId} {v v2 : Value} {xs ys : List Value} (h : w.ownsRow B e k v n xs) (h2 : w.ownsRow B2 e2 k2 v2 n2 ys) (he : e ≠ e2) (hg : w.grownBy w' v2.ownBlock) : w'.ownsRow B e k v n xs := by
  refine World.ownsRow.kept h hg ?_
  cases q : v.ownBlock with
  | none => exact .inl rfl
  | some g => exact .inr fun e2 => own_apartF h h2 he g q e2.symm
theorem rowB_some {w : World} {B e n : Nat} {v : Value} {xs : List Value} (h : w.ownsRow B e 1 v n xs) (hv : v ≠ .slice none 0 0) : ∃ g cap, v = .slice (some ⟨g, 0, none⟩) n cap := by
  rcases h.2 with ⟨q, _⟩ | ⟨g, cap, cur, q, _⟩
  · exact absurd q hv
  · exact ⟨g, cap, q⟩
theorem blk_kept {w w' : World} {g B n : Nat} {cs : Array Value} {t e : TypeId} {v : Value} {xs : List Value} (h : Blk w g cs t) (ho : w.ownsRow B e 1 v n xs) (hB : g < B) (hg : w.grownBy w' v.ownBlock) : Blk w' g cs t := by
  unfold Blk at *
  rw [hg.block g (lt_of_block h) (fun q => by have := (World.ownsRow.lt ho g q.symm).1; omega)]
  exact h
theorem bel_kept {w0 w w' : World} {H B e n : Nat} {v : Value} {xs : List Value} (h : Below H w0 w) (hw : H ≤ w.heap.size) (ho : w.ownsRow B e 1 v n xs) (hB : H ≤ B) (hg : w.grownBy w' v.ownBlock) : Below H w0 w' := h.grown hg hw (fun q hq => Nat.le_trans hB (World.ownsRow.lt ho q hq).1)

set_option maxRecDepth 100000 in
set_option maxHeartbeats 16000000 in
theorem rBuild_any (v : Value) (l : List Pe) (w : World) (hT : U8 w) (hv : PeV w v l) (hl : (2 * l.length + 4) * 32 ≤ 140737488355328) (hs : SmP l) (hsum : sumP l ≤ 140737488355328) :
    Calls Tryd.prog 9 #[v] w fun e w' => Hid (RbA l (bldP l) w.heap.size e w') ∧ Below w.heap.size w w' := by
  have HV := hide hv
  obtain ⟨ao, cap, hv2⟩ := hv.len
  subst hv2
  obtain ⟨n, hn⟩ : ∃ n, n = l.length := ⟨_, rfl⟩
  obtain ⟨R, hR⟩ : ∃ R, R = bldP l := ⟨_, rfl⟩
  have hnb : n ≤ 140737488355328 := by omega
  rw [← hR]
  rw [← hn] at HV hl ⊢
  have HN := hide hn
  have HL := hide hl
  have HT := hide hT
  have HS := hide hs
  obtain ⟨W1, hW1⟩ : ∃ W1, W1 = ((w.alloc (.cells #[.string ⟨#[]⟩, .slice none 0 0] 25)).alloc (.cells #[] 5)).alloc (.cells #[] 31) := ⟨_, rfl⟩
  obtain ⟨A1, hA1⟩ : ∃ A1, A1 = w.alloc (.cells #[.string ⟨#[]⟩, .slice none 0 0] 25) := ⟨_, rfl⟩
  obtain ⟨A2, hA2⟩ : ∃ A2, A2 = A1.alloc (.cells #[] 5) := ⟨_, rfl⟩
  have z1 : A1.heap.size = w.heap.size + 1 := by rw [hA1, allocW_size]
  have z2 : A2.heap.size = w.heap.size + 1 + 1 := by rw [hA2, allocW_size, z1]
  have a1 : Below w.heap.size w A1 := by rw [hA1]; exact (Below.refl _ _).alloc (Nat.le_refl _) _
  have a2 : Below A1.heap.size A1 A2 := by rw [hA2]; exact (Below.refl _ _).alloc (Nat.le_refl _) _
  have a3 : Below A2.heap.size A2 W1 := by rw [hW1, ← hA1, ← hA2]; exact (Below.refl _ _).alloc (Nat.le_refl _) _
  have k1 : Blk A1 w.heap.size #[.string ⟨#[]⟩, .slice none 0 0] 25 := by rw [hA1]; exact Blk.newAt w _ rfl _ _
  have k2 : A2.ownsRow (w.heap.size + 1) 5 1 (.slice (some ⟨w.heap.size + 1, 0, none⟩) 0 0) 0 (Lib.byteCells []) := by
    have q := World.ownsRow_made A1 (base := w.heap.size + 1) #[] 0 (by omega) (by decide) (e := 5) (size := 1) rfl
    rw [z1] at q; rw [hA2]; exact q
  have k3 : OwnS (w.heap.size + 1) W1 (.slice (some ⟨w.heap.size + 1 + 1, 0, none⟩) 0 0) (insS []) := by
    have q := World.ownsRow_made A2 (base := w.heap.size + 1) #[] 0 (by omega) (by decide) (e := 31) (size := 3) rfl
    rw [z2] at q; rw [hW1, ← hA1, ← hA2]; exact q
  have L0 : Hid (RbR w l R W1 0 (.slice (some ⟨w.heap.size + 1, 0, none⟩) 0 0) 0 (.slice (some ⟨w.heap.size + 1 + 1, 0, none⟩) 0 0) 0 [] [] spN (-1) (-1)) := hide
    ⟨rfl, rfl, ownF_below k2 a3, k3, BlI.nil, fun _ => rfl, fun h => absurd h (by decide), by rw [List.drop_zero, hR]; rfl, rfl, by rw [List.drop_zero, Nat.zero_add]; exact hsum, Nat.zero_le _, (k1.below a2 k1.lt).below a3 (Nat.lt_of_lt_of_le k1.lt a2.size), (a1.trans (a2.mono a1.size)).trans (a3.mono (Nat.le_trans a1.size a2.size))⟩
  have HW := hide hW1.symm
  clear hv hn hl hR hT hs hsum hW1 hA1 hA2 z1 z2 a1 a2 a3 k1 k2 k3 A1 A2
  obtain ⟨i0, hi0, hz0, hz1, hz2⟩ := info_parts byte_info
  have IN := hide (And.intro hi0 (And.intro hz0 (And.intro hz1 hz2)))
  clear hi0 hz0 hz1 hz2
  go_enter Tryd.func9, Tryd.ntmps9
  go_wp2_with (simp only [HW.out])
  go_loopw [4, 5, 6, 7, 8] (fun x4 x5 x6 x7 x8 wr => ∃ (i gb N bc m sc : Nat) (so : Option Addr) (f0 l0 : Int) (bs : List UInt8) (sp : List Sp) (dg : Sp), i ≤ n ∧ x4 = .slice (some ⟨gb, 0, none⟩) N bc ∧ x5 = .slice so m sc ∧ x6 = .int .i64 f0 ∧ x7 = .int .i64 l0 ∧ x8 = .int .i64 (i : Int) ∧ Hid (RbR w l R wr i (.slice (some ⟨gb, 0, none⟩) N bc) N (.slice so m sc) m bs sp dg f0 l0)) (fun _ _ _ _ x8 _ => n + 1 - (intOf x8).toNat)
  case atStart => exact ⟨0, _, 0, 0, 0, 0, _, -1, -1, [], [], spN, Nat.zero_le _, rfl, rfl, rfl, rfl, rfl, L0⟩
  case round =>
    clear L0 HW
    obtain ⟨i, gb, N, bc, m, sc, so, f0, l0, bs, sp, dg, hi, rfl, rfl, rfl, rfl, rfl, RR⟩ := hrel
    have hle : (i : Int) ≤ (n : Int) := by omega
    have BW := hide RR.out.blk
    have hNb : N ≤ 140737488355328 := Nat.le_trans (Nat.le_add_right _ _) RR.out.sum
    have LB : Hid ((m + 1 + 2) * 32 ≤ 140737488355328 ∧ (m + 2) * 32 ≤ 140737488355328) := hide (by have := RR.out.two; have := HL.out; omega)
    by_cases hlt : i < n
    · have hlt' : (i : Int) < (n : Int) := by omega
      have hne' : ((i : Int) == (n : Int)) = false := beq_eq_false_iff_ne.2 (by omega)
      have hil : i < l.length := by rw [← HN.out]; exact hlt
      have HP := HV.out
      rw [HN.out] at HP
      cases HP with
      | none _ _ _ h => subst h; simp at hil
      | some b o cp hv hc hb ha =>
        simp only [Value.slice.injEq] at hv
        obtain ⟨rfl, hx, rfl⟩ := hv
        clear hx
        obtain ⟨d0, d1⟩ := ha i hil
        have ED := hide (peN_drop hil)
        have ET := hide (peN_take hil)
        have UA := hide (any_of_gN hil)
        have hts0 := HS.out _ (gN_mem (d := peZ) hil)
        obtain ⟨P, hP⟩ : ∃ P, P = gN peZ l i := ⟨_, rfl⟩
        rw [← hP] at d0 d1 ED ET UA hts0
        clear hP ha hc hil
        obtain ⟨t, f⟩ := P
        simp only [] at d0 d1 hts0
        have HC : Hid (∀ X, Below w.heap.size w X → X.cell? ⟨b, o + i * 2, none⟩ = some (.string t) ∧ X.cell? ⟨b, o + i * 2 + 1, none⟩ = some (.int .i64 f)) := hide (fun X hX => ⟨(hX.cell (p := ⟨b, o + i * 2, none⟩) hb).trans d0, (hX.cell (p := ⟨b, o + i * 2 + 1, none⟩) hb).trans d1⟩)
        clear d0 d1 hb
        obtain ⟨c0, c1⟩ := HC.out _ RR.out.bel
        have r0 := BW.out.cell 0
        have r1 := BW.out.cell 1
        have q0 := BW.out.free 0
        have q1 := BW.out.free 1
        by_cases h0 : f < 0
        · have EU : unfB ⟨t, f⟩ = true := by unfold unfB knB; rw [decide_eq_false (by omega : ¬ (0 : Int) ≤ f)]; rfl
          have EA : Hid (l.any unfB = true) := hide (UA.out EU)
          clear EU c0 HC ED ET UA LB
          (try simp only []); repeat (first | go_values | go_skip | go_guarded | go_step | go_upon)
          have BK := (BW.out.setN 0 (.string ⟨#[]⟩)).setN 1 (.slice none 0 0)
          exact bodyPost_ret (results_out rfl _ _ _ _ _ rfl BK) rfl ⟨hide (.inl ⟨EA.out, rfl⟩), (RR.out.bel.setCell (p := ⟨w.heap.size, 0, none⟩) (Nat.le_refl _) _).setCell (p := ⟨w.heap.size, 1, none⟩) (Nat.le_refl _) _⟩
        by_cases h1 : 17 < f
        · have EU : unfB ⟨t, f⟩ = true := by unfold unfB knB; rw [decide_eq_false (by omega : ¬ f < 18)]; simp
          have EA : Hid (l.any unfB = true) := hide (UA.out EU)
          clear EU c0 HC ED ET UA LB
          (try simp only []); repeat (first | go_values | go_skip | go_guarded | go_step | go_upon)
          have BK := (BW.out.setN 0 (.string ⟨#[]⟩)).setN 1 (.slice none 0 0)
          exact bodyPost_ret (results_out rfl _ _ _ _ _ rfl BK) rfl ⟨hide (.inl ⟨EA.out, rfl⟩), (RR.out.bel.setCell (p := ⟨w.heap.size, 0, none⟩) (Nat.le_refl _) _).setCell (p := ⟨w.heap.size, 1, none⟩) (Nat.le_refl _) _⟩
        have KN : knB f = true := by unfold knB; rw [decide_eq_true (by omega : 0 ≤ f), decide_eq_true (by omega : f < 18)]; rfl
        have CV := hide (fun X (hX : U8 X) => Valid_any t X (by omega) hX)
        cases hva : Lib.validD (bys t) with
        | false =>
          have EU : unfB ⟨t, f⟩ = true := by unfold unfB; simp only []; rw [hva]; simp
          rw [hva] at CV
          have EA : Hid (l.any unfB = true) := hide (UA.out EU)
          clear EU hva KN
          go_wp2_with fail
          refine (CV.out _ (HT.out.below RR.out.bel)).mono ?_
          rintro e w2 ⟨rfl, hb2⟩
          have B2 := hide hb2
          clear hb2 CV c0 c1 r0 r1 q0 q1
          have BW2 := hide (BW.out.below B2.out BW.out.lt)
          have r0 := BW2.out.cell 0
          have r1 := BW2.out.cell 1
          have q0 := BW2.out.free 0
          have q1 := BW2.out.free 1
          have bel2 := hide (RR.out.bel.trans (B2.out.mono RR.out.bel.size))
          clear HC ED ET UA LB
          (try simp only []); repeat (first | go_values | go_skip | go_guarded | go_step | go_upon)
          have BK := (BW2.out.setN 0 (.string ⟨#[]⟩)).setN 1 (.slice none 0 0)
          exact bodyPost_ret (results_out rfl _ _ _ _ _ rfl BK) rfl ⟨hide (.inl ⟨EA.out, rfl⟩), (bel2.out.setCell (p := ⟨w.heap.size, 0, none⟩) (Nat.le_refl _) _).setCell (p := ⟨w.heap.size, 1, none⟩) (Nat.le_refl _) _⟩
        | true =>
          have EU : unfB ⟨t, f⟩ = false := by unfold unfB; simp only []; rw [hva, KN]; rfl
          have EM : Hid ((l.take (i + 1)).any unfB = false) := hide (by rw [ET.out, List.any_append, RR.out.may, List.any_cons, EU]; rfl)
          rw [hva] at CV
          clear hva EU UA ET KN
          go_wp2_with fail
          refine (CV.out _ (HT.out.below RR.out.bel)).mono ?_
          rintro e w2 ⟨rfl, hb2⟩
          have B2 := hide hb2
          clear hb2 CV c0 c1 r0 r1 q0 q1
          have R2 : Hid (RbR w l R w2 i (.slice (some ⟨gb, 0, none⟩) N bc) N (.slice so m sc) m bs sp dg f0 l0) := hide ⟨RR.out.hN, RR.out.hm, ownF_below RR.out.own B2.out, ownF_below RR.out.spn B2.out, RR.out.inv, RR.out.no, RR.out.yes, RR.out.res, RR.out.may, RR.out.sum, RR.out.two, BW.out.below B2.out BW.out.lt, RR.out.bel.trans (B2.out.mono RR.out.bel.size)⟩
          clear RR B2 BW
          obtain ⟨c0, c1⟩ := HC.out _ R2.out.bel
          by_cases hz : t.size = 0
          · have ht0 := emptyF hz
            subst ht0
            have R3 : Hid (RbR w l R w2 (i + 1) (.slice (some ⟨gb, 0, none⟩) N bc) N (.slice so m sc) m bs sp dg f0 l0) := hide ⟨R2.out.hN, R2.out.hm, R2.out.own, R2.out.spn, R2.out.inv, R2.out.no, R2.out.yes, by
              have q := R2.out.res
              rw [ED.out] at q
              unfold bldF at q
              rw [if_pos (show (⟨⟨#[]⟩, f⟩ : Pe).t.size = 0 from rfl)] at q
              exact q, EM.out, by
              have q := R2.out.sum
              rw [ED.out, show sumP (_ :: l.drop (i + 1)) = (⟨#[]⟩ : ByteArray).size + sumP (l.drop (i + 1)) from rfl] at q
              omega, by have := R2.out.two; omega, R2.out.blk, R2.out.bel⟩
            clear R2 ED EM HC LB hz hts0
            go_wp2
            exact ⟨⟨i + 1, gb, N, bc, m, sc, so, f0, l0, bs, sp, dg, by omega, rfl, rfl, rfl, rfl, by go_num, R3⟩, by simp [intOf]; omega⟩
          have t1 := tlF_ne hz
          have t2 := tlF_ie hz
          have t3 := tlF_nb hz
          have ZS : Hid (N + t.size + sumP (l.drop (i + 1)) ≤ 140737488355328) := hide (by
            have q := R2.out.sum
            rw [ED.out, show sumP ((⟨t, f⟩ : Pe) :: l.drop (i + 1)) = t.size + sumP (l.drop (i + 1)) from rfl] at q
            omega)
          have hNz : N + t.size ≤ 140737488355328 := Nat.le_trans (Nat.le_add_right _ _) ZS.out
          obtain ⟨M, hM⟩ : ∃ M, M = N + t.size := ⟨_, rfl⟩
          have hMi : (N : Int) + (t.size : Int) = (M : Int) := by omega
          have HM := hide hM
          have IV := hide (R2.out.inv.pie f t.size (Nat.pos_of_ne_zero hz))
          have ER : Hid (bldF (l.drop (i + 1)) (bs ++ bys t) (pieS f ⟨f, (N : Int), (N : Int) + (t.size : Int)⟩ sp dg) (pieG f ⟨f, (N : Int), (N : Int) + (t.size : Int)⟩ dg) = R) := hide (by
            have q := R2.out.res
            rw [ED.out] at q
            unfold bldF at q
            rw [if_neg hz, R2.out.hN] at q
            exact q)
          have OB := hide R2.out.own
          have OS := hide R2.out.spn
          have HB := hide R2.out.bel
          have HK := hide R2.out.blk
          have hNl := hide R2.out.hN
          have hml := hide R2.out.hm
          have h2i := hide R2.out.two
          have NL : Hid ((insS sp).length = m) := hide (by rw [insS_len]; exact R2.out.hm)
          have DN := hide R2.out.no
          have DY := hide R2.out.yes
          have DI := hide R2.out.inv
          clear R2 ED
          rw [hMi, ← hM] at IV
          rw [hMi] at ER
          have hMb : M ≤ 140737488355328 := by omega
          have hMp : 0 < M := by omega
          clear hMi hM
          have hfx : f = 2 ∨ f = 3 ∨ f = 0 ∨ (f ≠ 2 ∧ f ≠ 3 ∧ f ≠ 0) := by omega
          by_cases hd : dg.b ≤ 0
          · have hf0 := DN.out hd
            subst hf0
            have hdg := DI.out.dgn hd
            subst hdg
            clear DN DY DI hd
            rcases hfx with rfl | rfl | rfl | ⟨f2, f3, f00⟩
            · have OS0 := OS
              have NL0 := NL
              have OB0 := OB
              have HB0 := HB
              have HK0 := HK
              clear OS NL OB HB HK
              obtain ⟨c0, c1⟩ := HC.out _ HB0.out
              go_wp2_with (at_builtin; refine Lib.wpList_append_own_string _ rfl _ _ 48 9 rfl (w.heap.size + 1) 5 i0 Tryd.underlying48 Tryd.underlying9 IN.out.1 IN.out.2.1 IN.out.2.2.1 IN.out.2.2.2 _ N (Lib.byteCells bs) rfl OB0.out t rfl (by unfold maxLen; omega) (by omega) HK0.out.lt ?_; intro v1 y1 hown hgr hnil; (obtain ⟨gb1, bc1, rfl⟩ := rowB_some hown (fun q => by have := (hnil.1 q).1; cases this)); (rw [← HM.out] at hown ⊢); (have OS1 : Hid (OwnS (w.heap.size + 1) y1 (.slice so (m) sc) (insS sp)) := hide (own_keptF OS0.out OB0.out (by decide) hgr)); (have NL1 := NL0); (have OB1 : Hid (y1.ownsRow (w.heap.size + 1) 5 1 (.slice (some ⟨gb1, 0, none⟩) M bc1) M (Lib.byteCells (bs ++ bys t))) := hide (by rw [Lib.byteCells_append, HM.out]; rw [HM.out] at hown; exact hown)); (have HB1 := hide (bel_kept HB0.out (Nat.le_of_lt HK0.out.lt) OB0.out (Nat.le_succ _) hgr)); (have HK1 := hide (blk_kept HK0.out OB0.out (Nat.lt_succ_self _) hgr)); (clear OS0 NL0 OB0 HB0 HK0 hown hgr hnil))
              have eS : pieS 2 ⟨2, (N : Int), (M : Int)⟩ sp spN = sp := by unfold pieS; rw [if_pos rfl]
              have eG : pieG 2 ⟨2, (N : Int), (M : Int)⟩ spN = (⟨2, (N : Int), (M : Int)⟩ : Sp) := by unfold pieG; rw [if_pos rfl]; unfold digS; rw [if_pos (show spN.b = 0 from rfl)]
              rw [eS, eG] at IV ER
              have RF : Hid (RbR w l R y1 (i + 1) (.slice (some ⟨gb1, 0, none⟩) M bc1) M (.slice so (m) sc) (m) (bs ++ bys t) sp (⟨2, (N : Int), (M : Int)⟩ : Sp) (N : Int) (M : Int)) := hide ⟨by rw [List.length_append, bys_len, hNl.out, HM.out], by rw [← insS_len]; exact NL1.out, OB1.out, OS1.out, IV.out, fun q => absurd q (by show ¬ (M : Int) ≤ 0; omega), fun _ => ⟨rfl, rfl⟩, ER.out, EM.out, by rw [HM.out]; exact ZS.out, by have := h2i.out; omega, HK1.out, HB1.out⟩
              clear IV ER EM ZS HC LB eS eG
              go_wp2
              exact ⟨⟨i + 1, gb1, M, bc1, (m), sc, so, (N : Int), (M : Int), bs ++ bys t, sp, (⟨2, (N : Int), (M : Int)⟩ : Sp), by omega, rfl, rfl, rfl, rfl, by go_num, RF⟩, by simp [intOf]; omega⟩
            · have OS0 := OS
              have NL0 := NL
              have OB0 := OB
              have HB0 := HB
              have HK0 := HK
              clear OS NL OB HB HK
              obtain ⟨c0, c1⟩ := HC.out _ HB0.out
              go_wp2_with (at_builtin; refine Lib.wpList_append_own_string _ rfl _ _ 48 9 rfl (w.heap.size + 1) 5 i0 Tryd.underlying48 Tryd.underlying9 IN.out.1 IN.out.2.1 IN.out.2.2.1 IN.out.2.2.2 _ N (Lib.byteCells bs) rfl OB0.out t rfl (by unfold maxLen; omega) (by omega) HK0.out.lt ?_; intro v1 y1 hown hgr hnil; (obtain ⟨gb1, bc1, rfl⟩ := rowB_some hown (fun q => by have := (hnil.1 q).1; cases this)); (rw [← HM.out] at hown ⊢); (have OS1 : Hid (OwnS (w.heap.size + 1) y1 (.slice so (m) sc) (insS sp)) := hide (own_keptF OS0.out OB0.out (by decide) hgr)); (have NL1 := NL0); (have OB1 : Hid (y1.ownsRow (w.heap.size + 1) 5 1 (.slice (some ⟨gb1, 0, none⟩) M bc1) M (Lib.byteCells (bs ++ bys t))) := hide (by rw [Lib.byteCells_append, HM.out]; rw [HM.out] at hown; exact hown)); (have HB1 := hide (bel_kept HB0.out (Nat.le_of_lt HK0.out.lt) OB0.out (Nat.le_succ _) hgr)); (have HK1 := hide (blk_kept HK0.out OB0.out (Nat.lt_succ_self _) hgr)); (clear OS0 NL0 OB0 HB0 HK0 hown hgr hnil))
              go_wp2_with fail
              refine (rPut_m so (m) sc (insS sp) 3 (N : Int) (M : Int) (w.heap.size + 1) _ OS1.out NL1.out LB.out.2).mono ?_
              rintro e y2 ⟨⟨vo2, vc2, rfl, ho2⟩, hb2⟩
              have OS2 : Hid (OwnS (w.heap.size + 1) y2 (.slice vo2 ((m) + 1) vc2) (insS (sp ++ [(⟨3, (N : Int), (M : Int)⟩ : Sp)]))) := hide (by rw [insS_snoc]; exact ownF_mono ho2.out HK1.out.lt)
              have NL2 : Hid ((insS (sp ++ [(⟨3, (N : Int), (M : Int)⟩ : Sp)])).length = (m) + 1) := hide (by rw [insS_len, List.length_append, ← insS_len, NL1.out]; rfl)
              have OB2 := hide (ownF_below OB1.out hb2.out)
              have HB2 := hide (HB1.out.trans (hb2.out.mono HB1.out.size))
              have HK2 := hide (HK1.out.below hb2.out HK1.out.lt)
              clear OS1 NL1 OB1 HB1 HK1 ho2 hb2
              have eS : pieS 3 ⟨3, (N : Int), (M : Int)⟩ sp spN = (sp ++ [(⟨3, (N : Int), (M : Int)⟩ : Sp)]) := by unfold pieS; rw [if_neg (by decide), if_pos rfl]
              have eG : pieG 3 ⟨3, (N : Int), (M : Int)⟩ spN = (spN : Sp) := by unfold pieG; rw [if_neg (by decide), if_pos rfl]
              rw [eS, eG] at IV ER
              have RF : Hid (RbR w l R y2 (i + 1) (.slice (some ⟨gb1, 0, none⟩) M bc1) M (.slice vo2 ((m) + 1) vc2) ((m) + 1) (bs ++ bys t) (sp ++ [(⟨3, (N : Int), (M : Int)⟩ : Sp)]) (spN : Sp) (-1) l0) := hide ⟨by rw [List.length_append, bys_len, hNl.out, HM.out], by rw [← insS_len]; exact NL2.out, OB2.out, OS2.out, IV.out, fun _ => rfl, fun q => absurd q (by decide), ER.out, EM.out, by rw [HM.out]; exact ZS.out, by have := h2i.out; omega, HK2.out, HB2.out⟩
              clear IV ER EM ZS HC LB eS eG
              go_wp2
              exact ⟨⟨i + 1, gb1, M, bc1, ((m) + 1), vc2, vo2, (-1), l0, bs ++ bys t, (sp ++ [(⟨3, (N : Int), (M : Int)⟩ : Sp)]), (spN : Sp), by omega, rfl, rfl, rfl, rfl, by go_num, RF⟩, by simp [intOf]; omega⟩
            · have OS0 := OS
              have NL0 := NL
              have OB0 := OB
              have HB0 := HB
              have HK0 := HK
              clear OS NL OB HB HK
              obtain ⟨c0, c1⟩ := HC.out _ HB0.out
              go_wp2_with (at_builtin; refine Lib.wpList_append_own_string _ rfl _ _ 48 9 rfl (w.heap.size + 1) 5 i0 Tryd.underlying48 Tryd.underlying9 IN.out.1 IN.out.2.1 IN.out.2.2.1 IN.out.2.2.2 _ N (Lib.byteCells bs) rfl OB0.out t rfl (by unfold maxLen; omega) (by omega) HK0.out.lt ?_; intro v1 y1 hown hgr hnil; (obtain ⟨gb1, bc1, rfl⟩ := rowB_some hown (fun q => by have := (hnil.1 q).1; cases this)); (rw [← HM.out] at hown ⊢); (have OS1 : Hid (OwnS (w.heap.size + 1) y1 (.slice so (m) sc) (insS sp)) := hide (own_keptF OS0.out OB0.out (by decide) hgr)); (have NL1 := NL0); (have OB1 : Hid (y1.ownsRow (w.heap.size + 1) 5 1 (.slice (some ⟨gb1, 0, none⟩) M bc1) M (Lib.byteCells (bs ++ bys t))) := hide (by rw [Lib.byteCells_append, HM.out]; rw [HM.out] at hown; exact hown)); (have HB1 := hide (bel_kept HB0.out (Nat.le_of_lt HK0.out.lt) OB0.out (Nat.le_succ _) hgr)); (have HK1 := hide (blk_kept HK0.out OB0.out (Nat.lt_succ_self _) hgr)); (clear OS0 NL0 OB0 HB0 HK0 hown hgr hnil))
              have eS : pieS 0 ⟨0, (N : Int), (M : Int)⟩ sp spN = sp := by unfold pieS; rw [if_neg (by decide), if_neg (by decide), if_pos rfl]; unfold endS; rw [if_neg (by decide)]
              have eG : pieG 0 ⟨0, (N : Int), (M : Int)⟩ spN = spN := by unfold pieG; rw [if_neg (by decide), if_neg (by decide)]
              rw [eS, eG] at IV ER
              have RF : Hid (RbR w l R y1 (i + 1) (.slice (some ⟨gb1, 0, none⟩) M bc1) M (.slice so (m) sc) (m) (bs ++ bys t) sp spN (-1) l0) := hide ⟨by rw [List.length_append, bys_len, hNl.out, HM.out], by rw [← insS_len]; exact NL1.out, OB1.out, OS1.out, IV.out, fun _ => rfl, fun q => absurd q (by decide), ER.out, EM.out, by rw [HM.out]; exact ZS.out, by have := h2i.out; omega, HK1.out, HB1.out⟩
              clear IV ER EM ZS HC LB eS eG
              go_wp2
              exact ⟨⟨i + 1, gb1, M, bc1, (m), sc, so, (-1), l0, bs ++ bys t, sp, spN, by omega, rfl, rfl, rfl, rfl, by go_num, RF⟩, by simp [intOf]; omega⟩
            · have OS0 := OS
              have NL0 := NL
              have OB0 := OB
              have HB0 := HB
              have HK0 := HK
              clear OS NL OB HB HK
              have f2a : (f != 2) = true := by simpa using f2
              have f2b : (f == 2) = false := by simpa using f2
              have f3a : (f != 3) = true := by simpa using f3
              have f0a : (f != 0) = true := by simpa using f00
              clear h0 h1
              obtain ⟨c0, c1⟩ := HC.out _ HB0.out
              go_wp2_with (at_builtin; refine Lib.wpList_append_own_string _ rfl _ _ 48 9 rfl (w.heap.size + 1) 5 i0 Tryd.underlying48 Tryd.underlying9 IN.out.1 IN.out.2.1 IN.out.2.2.1 IN.out.2.2.2 _ N (Lib.byteCells bs) rfl OB0.out t rfl (by unfold maxLen; omega) (by omega) HK0.out.lt ?_; intro v1 y1 hown hgr hnil; (obtain ⟨gb1, bc1, rfl⟩ := rowB_some hown (fun q => by have := (hnil.1 q).1; cases this)); (rw [← HM.out] at hown ⊢); (have OS1 : Hid (OwnS (w.heap.size + 1) y1 (.slice so (m) sc) (insS sp)) := hide (own_keptF OS0.out OB0.out (by decide) hgr)); (have NL1 := NL0); (have OB1 : Hid (y1.ownsRow (w.heap.size + 1) 5 1 (.slice (some ⟨gb1, 0, none⟩) M bc1) M (Lib.byteCells (bs ++ bys t))) := hide (by rw [Lib.byteCells_append, HM.out]; rw [HM.out] at hown; exact hown)); (have HB1 := hide (bel_kept HB0.out (Nat.le_of_lt HK0.out.lt) OB0.out (Nat.le_succ _) hgr)); (have HK1 := hide (blk_kept HK0.out OB0.out (Nat.lt_succ_self _) hgr)); (clear OS0 NL0 OB0 HB0 HK0 hown hgr hnil))
              go_wp2_with fail
              refine (rPut_m so (m) sc (insS sp) f (N : Int) (M : Int) (w.heap.size + 1) _ OS1.out NL1.out LB.out.2).mono ?_
              rintro e y2 ⟨⟨vo2, vc2, rfl, ho2⟩, hb2⟩
              have OS2 : Hid (OwnS (w.heap.size + 1) y2 (.slice vo2 ((m) + 1) vc2) (insS (sp ++ [(⟨f, (N : Int), (M : Int)⟩ : Sp)]))) := hide (by rw [insS_snoc]; exact ownF_mono ho2.out HK1.out.lt)
              have NL2 : Hid ((insS (sp ++ [(⟨f, (N : Int), (M : Int)⟩ : Sp)])).length = (m) + 1) := hide (by rw [insS_len, List.length_append, ← insS_len, NL1.out]; rfl)
              have OB2 := hide (ownF_below OB1.out hb2.out)
              have HB2 := hide (HB1.out.trans (hb2.out.mono HB1.out.size))
              have HK2 := hide (HK1.out.below hb2.out HK1.out.lt)
              clear OS1 NL1 OB1 HB1 HK1 ho2 hb2
              have eS : pieS f ⟨f, (N : Int), (M : Int)⟩ sp spN = (sp ++ [(⟨f, (N : Int), (M : Int)⟩ : Sp)]) := by unfold pieS; rw [if_neg f2, if_neg f3, if_neg f00]; unfold endS; rw [if_neg (by decide)]
              have eG : pieG f ⟨f, (N : Int), (M : Int)⟩ spN = spN := by unfold pieG; rw [if_neg f2, if_neg f3]
              rw [eS, eG] at IV ER
              have RF : Hid (RbR w l R y2 (i + 1) (.slice (some ⟨gb1, 0, none⟩) M bc1) M (.slice vo2 ((m) + 1) vc2) ((m) + 1) (bs ++ bys t) (sp ++ [(⟨f, (N : Int), (M : Int)⟩ : Sp)]) spN (-1) l0) := hide ⟨by rw [List.length_append, bys_len, hNl.out, HM.out], by rw [← insS_len]; exact NL2.out, OB2.out, OS2.out, IV.out, fun _ => rfl, fun q => absurd q (by decide), ER.out, EM.out, by rw [HM.out]; exact ZS.out, by have := h2i.out; omega, HK2.out, HB2.out⟩
              clear IV ER EM ZS HC LB eS eG
              go_wp2
              exact ⟨⟨i + 1, gb1, M, bc1, ((m) + 1), vc2, vo2, (-1), l0, bs ++ bys t, (sp ++ [(⟨f, (N : Int), (M : Int)⟩ : Sp)]), spN, by omega, rfl, rfl, rfl, rfl, by go_num, RF⟩, by simp [intOf]; omega⟩
          · have hd2 : 0 < dg.b := by omega
            obtain ⟨rfl, rfl⟩ := DY.out hd2
            obtain ⟨i1, i2, _⟩ := DI.out.dgi hd2
            unfold InS at i1
            obtain ⟨df, da, db⟩ := dg
            simp only [] at i1 i2 hd hd2
            subst i2
            obtain ⟨g0, g1, g2⟩ := i1
            have g3 : ¬ da < 0 := by omega
            clear DN DY DI hd
            rcases hfx with rfl | rfl | rfl | ⟨f2, f3, f00⟩
            · have OS0 := OS
              have NL0 := NL
              have OB0 := OB
              have HB0 := HB
              have HK0 := HK
              clear OS NL OB HB HK
              obtain ⟨c0, c1⟩ := HC.out _ HB0.out
              go_wp2_with (at_builtin; refine Lib.wpList_append_own_string _ rfl _ _ 48 9 rfl (w.heap.size + 1) 5 i0 Tryd.underlying48 Tryd.underlying9 IN.out.1 IN.out.2.1 IN.out.2.2.1 IN.out.2.2.2 _ N (Lib.byteCells bs) rfl OB0.out t rfl (by unfold maxLen; omega) (by omega) HK0.out.lt ?_; intro v1 y1 hown hgr hnil; (obtain ⟨gb1, bc1, rfl⟩ := rowB_some hown (fun q => by have := (hnil.1 q).1; cases this)); (rw [← HM.out] at hown ⊢); (have OS1 : Hid (OwnS (w.heap.size + 1) y1 (.slice so (m) sc) (insS sp)) := hide (own_keptF OS0.out OB0.out (by decide) hgr)); (have NL1 := NL0); (have OB1 : Hid (y1.ownsRow (w.heap.size + 1) 5 1 (.slice (some ⟨gb1, 0, none⟩) M bc1) M (Lib.byteCells (bs ++ bys t))) := hide (by rw [Lib.byteCells_append, HM.out]; rw [HM.out] at hown; exact hown)); (have HB1 := hide (bel_kept HB0.out (Nat.le_of_lt HK0.out.lt) OB0.out (Nat.le_succ _) hgr)); (have HK1 := hide (blk_kept HK0.out OB0.out (Nat.lt_succ_self _) hgr)); (clear OS0 NL0 OB0 HB0 HK0 hown hgr hnil))
              have eS : pieS 2 ⟨2, (N : Int), (M : Int)⟩ sp ⟨2, da, db⟩ = sp := by unfold pieS; rw [if_pos rfl]
              have eG : pieG 2 ⟨2, (N : Int), (M : Int)⟩ ⟨2, da, db⟩ = (⟨2, da, (M : Int)⟩ : Sp) := by unfold pieG; rw [if_pos rfl]; unfold digS; rw [if_neg (by show ¬ db = 0; omega)]
              rw [eS, eG] at IV ER
              have RF : Hid (RbR w l R y1 (i + 1) (.slice (some ⟨gb1, 0, none⟩) M bc1) M (.slice so (m) sc) (m) (bs ++ bys t) sp (⟨2, da, (M : Int)⟩ : Sp) da (M : Int)) := hide ⟨by rw [List.length_append, bys_len, hNl.out, HM.out], by rw [← insS_len]; exact NL1.out, OB1.out, OS1.out, IV.out, fun q => absurd q (by show ¬ (M : Int) ≤ 0; omega), fun _ => ⟨rfl, rfl⟩, ER.out, EM.out, by rw [HM.out]; exact ZS.out, by have := h2i.out; omega, HK1.out, HB1.out⟩
              clear IV ER EM ZS HC LB eS eG
              go_wp2
              exact ⟨⟨i + 1, gb1, M, bc1, (m), sc, so, da, (M : Int), bs ++ bys t, sp, (⟨2, da, (M : Int)⟩ : Sp), by omega, rfl, rfl, rfl, rfl, by go_num, RF⟩, by simp [intOf]; omega⟩
            · have OS0 := OS
              have NL0 := NL
              have OB0 := OB
              have HB0 := HB
              have HK0 := HK
              clear OS NL OB HB HK
              obtain ⟨c0, c1⟩ := HC.out _ HB0.out
              go_wp2_with (at_builtin; refine Lib.wpList_append_own_string _ rfl _ _ 48 9 rfl (w.heap.size + 1) 5 i0 Tryd.underlying48 Tryd.underlying9 IN.out.1 IN.out.2.1 IN.out.2.2.1 IN.out.2.2.2 _ N (Lib.byteCells bs) rfl OB0.out t rfl (by unfold maxLen; omega) (by omega) HK0.out.lt ?_; intro v1 y1 hown hgr hnil; (obtain ⟨gb1, bc1, rfl⟩ := rowB_some hown (fun q => by have := (hnil.1 q).1; cases this)); (rw [← HM.out] at hown ⊢); (have OS1 : Hid (OwnS (w.heap.size + 1) y1 (.slice so (m) sc) (insS sp)) := hide (own_keptF OS0.out OB0.out (by decide) hgr)); (have NL1 := NL0); (have OB1 : Hid (y1.ownsRow (w.heap.size + 1) 5 1 (.slice (some ⟨gb1, 0, none⟩) M bc1) M (Lib.byteCells (bs ++ bys t))) := hide (by rw [Lib.byteCells_append, HM.out]; rw [HM.out] at hown; exact hown)); (have HB1 := hide (bel_kept HB0.out (Nat.le_of_lt HK0.out.lt) OB0.out (Nat.le_succ _) hgr)); (have HK1 := hide (blk_kept HK0.out OB0.out (Nat.lt_succ_self _) hgr)); (clear OS0 NL0 OB0 HB0 HK0 hown hgr hnil))
              go_wp2_with fail
              refine (rPut_m so (m) sc (insS sp) 3 (N : Int) (M : Int) (w.heap.size + 1) _ OS1.out NL1.out LB.out.2).mono ?_
              rintro e y2 ⟨⟨vo2, vc2, rfl, ho2⟩, hb2⟩
              have OS2 : Hid (OwnS (w.heap.size + 1) y2 (.slice vo2 ((m) + 1) vc2) (insS (sp ++ [(⟨3, (N : Int), (M : Int)⟩ : Sp)]))) := hide (by rw [insS_snoc]; exact ownF_mono ho2.out HK1.out.lt)
              have NL2 : Hid ((insS (sp ++ [(⟨3, (N : Int), (M : Int)⟩ : Sp)])).length = (m) + 1) := hide (by rw [insS_len, List.length_append, ← insS_len, NL1.out]; rfl)
              have OB2 := hide (ownF_below OB1.out hb2.out)
              have HB2 := hide (HB1.out.trans (hb2.out.mono HB1.out.size))
              have HK2 := hide (HK1.out.below hb2.out HK1.out.lt)
              clear OS1 NL1 OB1 HB1 HK1 ho2 hb2
              have eS : pieS 3 ⟨3, (N : Int), (M : Int)⟩ sp ⟨2, da, db⟩ = (sp ++ [(⟨3, (N : Int), (M : Int)⟩ : Sp)]) := by unfold pieS; rw [if_neg (by decide), if_pos rfl]
              have eG : pieG 3 ⟨3, (N : Int), (M : Int)⟩ ⟨2, da, db⟩ = (⟨2, da, db⟩ : Sp) := by unfold pieG; rw [if_neg (by decide), if_pos rfl]
              rw [eS, eG] at IV ER
              have RF : Hid (RbR w l R y2 (i + 1) (.slice (some ⟨gb1, 0, none⟩) M bc1) M (.slice vo2 ((m) + 1) vc2) ((m) + 1) (bs ++ bys t) (sp ++ [(⟨3, (N : Int), (M : Int)⟩ : Sp)]) (⟨2, da, db⟩ : Sp) da db) := hide ⟨by rw [List.length_append, bys_len, hNl.out, HM.out], by rw [← insS_len]; exact NL2.out, OB2.out, OS2.out, IV.out, fun q => absurd q (by show ¬ db ≤ 0; omega), fun _ => ⟨rfl, rfl⟩, ER.out, EM.out, by rw [HM.out]; exact ZS.out, by have := h2i.out; omega, HK2.out, HB2.out⟩
              clear IV ER EM ZS HC LB eS eG
              go_wp2
              exact ⟨⟨i + 1, gb1, M, bc1, ((m) + 1), vc2, vo2, da, db, bs ++ bys t, (sp ++ [(⟨3, (N : Int), (M : Int)⟩ : Sp)]), (⟨2, da, db⟩ : Sp), by omega, rfl, rfl, rfl, rfl, by go_num, RF⟩, by simp [intOf]; omega⟩
            · have OS0 := OS
              have NL0 := NL
              have OB0 := OB
              have HB0 := HB
              have HK0 := HK
              clear OS NL OB HB HK
              go_wp2_with fail
              refine (rPut_m so m sc (insS sp) 2 da db (w.heap.size + 1) _ OS0.out NL0.out LB.out.2).mono ?_
              rintro e y1 ⟨⟨vo1, vc1, rfl, ho1⟩, hb1⟩
              have OS1 : Hid (OwnS (w.heap.size + 1) y1 (.slice vo1 (m + 1) vc1) (insS (sp ++ [(⟨2, da, db⟩ : Sp)]))) := hide (by rw [insS_snoc]; exact ownF_mono ho1.out HK0.out.lt)
              have NL1 : Hid ((insS (sp ++ [(⟨2, da, db⟩ : Sp)])).length = m + 1) := hide (by rw [insS_len, List.length_append, ← insS_len, NL0.out]; rfl)
              have OB1 := hide (ownF_below OB0.out hb1.out)
              have HB1 := hide (HB0.out.trans (hb1.out.mono HB0.out.size))
              have HK1 := hide (HK0.out.below hb1.out HK0.out.lt)
              clear OS0 NL0 OB0 HB0 HK0 ho1 hb1
              obtain ⟨c0, c1⟩ := HC.out _ HB1.out
              go_wp2_with (at_builtin; refine Lib.wpList_append_own_string _ rfl _ _ 48 9 rfl (w.heap.size + 1) 5 i0 Tryd.underlying48 Tryd.underlying9 IN.out.1 IN.out.2.1 IN.out.2.2.1 IN.out.2.2.2 _ N (Lib.byteCells bs) rfl OB1.out t rfl (by unfold maxLen; omega) (by omega) HK1.out.lt ?_; intro v2 y2 hown hgr hnil; (obtain ⟨gb2, bc2, rfl⟩ := rowB_some hown (fun q => by have := (hnil.1 q).1; cases this)); (rw [← HM.out] at hown ⊢); (have OS2 : Hid (OwnS (w.heap.size + 1) y2 (.slice vo1 (m + 1) vc1) (insS (sp ++ [(⟨2, da, db⟩ : Sp)]))) := hide (own_keptF OS1.out OB1.out (by decide) hgr)); (have NL2 := NL1); (have OB2 : Hid (y2.ownsRow (w.heap.size + 1) 5 1 (.slice (some ⟨gb2, 0, none⟩) M bc2) M (Lib.byteCells (bs ++ bys t))) := hide (by rw [Lib.byteCells_append, HM.out]; rw [HM.out] at hown; exact hown)); (have HB2 := hide (bel_kept HB1.out (Nat.le_of_lt HK1.out.lt) OB1.out (Nat.le_succ _) hgr)); (have HK2 := hide (blk_kept HK1.out OB1.out (Nat.lt_succ_self _) hgr)); (clear OS1 NL1 OB1 HB1 HK1 hown hgr hnil))
              have eS : pieS 0 ⟨0, (N : Int), (M : Int)⟩ sp ⟨2, da, db⟩ = (sp ++ [(⟨2, da, db⟩ : Sp)]) := by unfold pieS; rw [if_neg (by decide), if_neg (by decide), if_pos rfl]; unfold endS; rw [if_pos (by show 0 < db; omega)]
              have eG : pieG 0 ⟨0, (N : Int), (M : Int)⟩ ⟨2, da, db⟩ = spN := by unfold pieG; rw [if_neg (by decide), if_neg (by decide)]
              rw [eS, eG] at IV ER
              have RF : Hid (RbR w l R y2 (i + 1) (.slice (some ⟨gb2, 0, none⟩) M bc2) M (.slice vo1 (m + 1) vc1) (m + 1) (bs ++ bys t) (sp ++ [(⟨2, da, db⟩ : Sp)]) spN (-1) db) := hide ⟨by rw [List.length_append, bys_len, hNl.out, HM.out], by rw [← insS_len]; exact NL2.out, OB2.out, OS2.out, IV.out, fun _ => rfl, fun q => absurd q (by decide), ER.out, EM.out, by rw [HM.out]; exact ZS.out, by have := h2i.out; omega, HK2.out, HB2.out⟩
              clear IV ER EM ZS HC LB eS eG
              go_wp2
              exact ⟨⟨i + 1, gb2, M, bc2, (m + 1), vc1, vo1, (-1), db, bs ++ bys t, (sp ++ [(⟨2, da, db⟩ : Sp)]), spN, by omega, rfl, rfl, rfl, rfl, by go_num, RF⟩, by simp [intOf]; omega⟩
            · have OS0 := OS
              have NL0 := NL
              have OB0 := OB
              have HB0 := HB
              have HK0 := HK
              clear OS NL OB HB HK
              have f2a : (f != 2) = true := by simpa using f2
              have f2b : (f == 2) = false := by simpa using f2
              have f3a : (f != 3) = true := by simpa using f3
              have f0a : (f != 0) = true := by simpa using f00
              clear h0 h1
              go_wp2_with fail
              refine (rPut_m so m sc (insS sp) 2 da db (w.heap.size + 1) _ OS0.out NL0.out LB.out.2).mono ?_
              rintro e y1 ⟨⟨vo1, vc1, rfl, ho1⟩, hb1⟩
              have OS1 : Hid (OwnS (w.heap.size + 1) y1 (.slice vo1 (m + 1) vc1) (insS (sp ++ [(⟨2, da, db⟩ : Sp)]))) := hide (by rw [insS_snoc]; exact ownF_mono ho1.out HK0.out.lt)
              have NL1 : Hid ((insS (sp ++ [(⟨2, da, db⟩ : Sp)])).length = m + 1) := hide (by rw [insS_len, List.length_append, ← insS_len, NL0.out]; rfl)
              have OB1 := hide (ownF_below OB0.out hb1.out)
              have HB1 := hide (HB0.out.trans (hb1.out.mono HB0.out.size))
              have HK1 := hide (HK0.out.below hb1.out HK0.out.lt)
              clear OS0 NL0 OB0 HB0 HK0 ho1 hb1
              obtain ⟨c0, c1⟩ := HC.out _ HB1.out
              go_wp2_with (at_builtin; refine Lib.wpList_append_own_string _ rfl _ _ 48 9 rfl (w.heap.size + 1) 5 i0 Tryd.underlying48 Tryd.underlying9 IN.out.1 IN.out.2.1 IN.out.2.2.1 IN.out.2.2.2 _ N (Lib.byteCells bs) rfl OB1.out t rfl (by unfold maxLen; omega) (by omega) HK1.out.lt ?_; intro v2 y2 hown hgr hnil; (obtain ⟨gb2, bc2, rfl⟩ := rowB_some hown (fun q => by have := (hnil.1 q).1; cases this)); (rw [← HM.out] at hown ⊢); (have OS2 : Hid (OwnS (w.heap.size + 1) y2 (.slice vo1 (m + 1) vc1) (insS (sp ++ [(⟨2, da, db⟩ : Sp)]))) := hide (own_keptF OS1.out OB1.out (by decide) hgr)); (have NL2 := NL1); (have OB2 : Hid (y2.ownsRow (w.heap.size + 1) 5 1 (.slice (some ⟨gb2, 0, none⟩) M bc2) M (Lib.byteCells (bs ++ bys t))) := hide (by rw [Lib.byteCells_append, HM.out]; rw [HM.out] at hown; exact hown)); (have HB2 := hide (bel_kept HB1.out (Nat.le_of_lt HK1.out.lt) OB1.out (Nat.le_succ _) hgr)); (have HK2 := hide (blk_kept HK1.out OB1.out (Nat.lt_succ_self _) hgr)); (clear OS1 NL1 OB1 HB1 HK1 hown hgr hnil))
              go_wp2_with fail
              refine (rPut_m vo1 (m + 1) vc1 (insS (sp ++ [(⟨2, da, db⟩ : Sp)])) f (N : Int) (M : Int) (w.heap.size + 1) _ OS2.out NL2.out LB.out.1).mono ?_
              rintro e y3 ⟨⟨vo3, vc3, rfl, ho3⟩, hb3⟩
              have OS3 : Hid (OwnS (w.heap.size + 1) y3 (.slice vo3 ((m + 1) + 1) vc3) (insS ((sp ++ [(⟨2, da, db⟩ : Sp)]) ++ [(⟨f, (N : Int), (M : Int)⟩ : Sp)]))) := hide (by rw [insS_snoc]; exact ownF_mono ho3.out HK2.out.lt)
              have NL3 : Hid ((insS ((sp ++ [(⟨2, da, db⟩ : Sp)]) ++ [(⟨f, (N : Int), (M : Int)⟩ : Sp)])).length = (m + 1) + 1) := hide (by rw [insS_len, List.length_append, ← insS_len, NL2.out]; rfl)
              have OB3 := hide (ownF_below OB2.out hb3.out)
              have HB3 := hide (HB2.out.trans (hb3.out.mono HB2.out.size))
              have HK3 := hide (HK2.out.below hb3.out HK2.out.lt)
              clear OS2 NL2 OB2 HB2 HK2 ho3 hb3
              have eS : pieS f ⟨f, (N : Int), (M : Int)⟩ sp ⟨2, da, db⟩ = ((sp ++ [(⟨2, da, db⟩ : Sp)]) ++ [(⟨f, (N : Int), (M : Int)⟩ : Sp)]) := by unfold pieS; rw [if_neg f2, if_neg f3, if_neg f00]; unfold endS; rw [if_pos (by show 0 < db; omega)]
              have eG : pieG f ⟨f, (N : Int), (M : Int)⟩ ⟨2, da, db⟩ = spN := by unfold pieG; rw [if_neg f2, if_neg f3]
              rw [eS, eG] at IV ER
              have RF : Hid (RbR w l R y3 (i + 1) (.slice (some ⟨gb2, 0, none⟩) M bc2) M (.slice vo3 ((m + 1) + 1) vc3) ((m + 1) + 1) (bs ++ bys t) ((sp ++ [(⟨2, da, db⟩ : Sp)]) ++ [(⟨f, (N : Int), (M : Int)⟩ : Sp)]) spN (-1) db) := hide ⟨by rw [List.length_append, bys_len, hNl.out, HM.out], by rw [← insS_len]; exact NL3.out, OB3.out, OS3.out, IV.out, fun _ => rfl, fun q => absurd q (by decide), ER.out, EM.out, by rw [HM.out]; exact ZS.out, by have := h2i.out; omega, HK3.out, HB3.out⟩
              clear IV ER EM ZS HC LB eS eG
              go_wp2
              exact ⟨⟨i + 1, gb2, M, bc2, ((m + 1) + 1), vc3, vo3, (-1), db, bs ++ bys t, ((sp ++ [(⟨2, da, db⟩ : Sp)]) ++ [(⟨f, (N : Int), (M : Int)⟩ : Sp)]), spN, by omega, rfl, rfl, rfl, rfl, by go_num, RF⟩, by simp [intOf]; omega⟩
    · obtain rfl : i = n := by omega
      have hlt' : ¬ (i : Int) < (i : Int) := by omega
      have heq' : ((i : Int) == (i : Int)) = true := by simp
      have ED : l.drop i = [] := List.drop_eq_nil_of_le (by rw [← HN.out]; exact Nat.le_refl _)
      have EM : Hid (l.any unfB = false) := hide (by have q := RR.out.may; rw [HN.out, List.take_length] at q; exact q)
      have ER : Hid ((bs, endS sp dg) = R) := hide (by have q := RR.out.res; rw [ED] at q; exact q)
      have OB0 := hide RR.out.own
      have OS0 := hide RR.out.spn
      have HB0 := hide RR.out.bel
      have HK0 := hide RR.out.blk
      have hNl := hide RR.out.hN
      have NL0 : Hid ((insS sp).length = m) := hide (by rw [insS_len]; exact RR.out.hm)
      have DN := hide RR.out.no
      have DY := hide RR.out.yes
      have DI := hide RR.out.inv
      clear RR ED BW
      by_cases hd : dg.b ≤ 0
      · have hf0 := DN.out hd
        subst hf0
        have hdg := DI.out.dgn hd
        subst hdg
        clear DN DY DI hd
        have e5 : Hid (R = (bs, sp)) := hide (by rw [← ER.out]; rw [endS_spN9])
        have e6 : Hid ((sp).length = m) := hide (by rw [← insS_len]; exact NL0.out)
        have r0 := HK0.out.cell 0
        have r1 := HK0.out.cell 1
        have q0 := HK0.out.free 0
        have q1 := HK0.out.free 1
        have kc := byteAt OB0.out hNl.out
        clear ER LB hi hle
        (try simp only []); repeat (first | go_values | go_skip | go_guarded | go_step | go_upon)
        have BK := (HK0.out.setN 0 (.string ⟨bs.toArray⟩)).setN 1 (.slice so (m) sc)
        refine bodyPost_ret (results_out rfl _ _ _ _ _ rfl BK) rfl ⟨hide (.inr ⟨EM.out, so, sc, ?_, ?_⟩), (HB0.out.setCell (p := ⟨w.heap.size, 0, none⟩) (Nat.le_refl _) _).setCell (p := ⟨w.heap.size, 1, none⟩) (Nat.le_refl _) _⟩
        · rw [e5.out]
          simp only []
          rw [e6.out]
          rfl
        · rw [e5.out]
          simp only []
          rw [e6.out]
          exact ownF_mono (ownF_set (ownF_set OS0.out (Nat.lt_succ_self _)) (Nat.lt_succ_self _)) (Nat.le_succ _)
      · have hd2 : 0 < dg.b := by omega
        obtain ⟨rfl, rfl⟩ := DY.out hd2
        obtain ⟨i1, i2, _⟩ := DI.out.dgi hd2
        unfold InS at i1
        obtain ⟨df, da, db⟩ := dg
        simp only [] at i1 i2 hd hd2
        subst i2
        obtain ⟨g0, g1, g2⟩ := i1
        have g3 : ¬ da < 0 := by omega
        clear DN DY DI hd
        go_wp2_with fail
        refine (rPut_m so m sc (insS sp) 2 da db (w.heap.size + 1) _ OS0.out NL0.out LB.out.2).mono ?_
        rintro e y1 ⟨⟨vo1, vc1, rfl, ho1⟩, hb1⟩
        have OS1 : Hid (OwnS (w.heap.size + 1) y1 (.slice vo1 (m + 1) vc1) (insS (sp ++ [(⟨2, da, db⟩ : Sp)]))) := hide (by rw [insS_snoc]; exact ownF_mono ho1.out HK0.out.lt)
        have NL1 : Hid ((insS (sp ++ [(⟨2, da, db⟩ : Sp)])).length = m + 1) := hide (by rw [insS_len, List.length_append, ← insS_len, NL0.out]; rfl)
        have OB1 := hide (ownF_below OB0.out hb1.out)
        have HB1 := hide (HB0.out.trans (hb1.out.mono HB0.out.size))
        have HK1 := hide (HK0.out.below hb1.out HK0.out.lt)
        clear OS0 NL0 OB0 HB0 HK0 ho1 hb1
        have e5 : Hid (R = (bs, (sp ++ [(⟨2, da, db⟩ : Sp)]))) := hide (by rw [← ER.out]; unfold endS; rw [if_pos (by show 0 < db; omega)])
        have e6 : Hid (((sp ++ [(⟨2, da, db⟩ : Sp)])).length = m + 1) := hide (by rw [← insS_len]; exact NL1.out)
        have r0 := HK1.out.cell 0
        have r1 := HK1.out.cell 1
        have q0 := HK1.out.free 0
        have q1 := HK1.out.free 1
        have kc := byteAt OB1.out hNl.out
        clear ER LB hi hle
        (try simp only []); repeat (first | go_values | go_skip | go_guarded | go_step | go_upon)
        have BK := (HK1.out.setN 0 (.string ⟨bs.toArray⟩)).setN 1 (.slice vo1 (m + 1) vc1)
        refine bodyPost_ret (results_out rfl _ _ _ _ _ rfl BK) rfl ⟨hide (.inr ⟨EM.out, vo1, vc1, ?_, ?_⟩), (HB1.out.setCell (p := ⟨w.heap.size, 0, none⟩) (Nat.le_refl _) _).setCell (p := ⟨w.heap.size, 1, none⟩) (Nat.le_refl _) _⟩
        · rw [e5.out]
          simp only []
          rw [e6.out]
          rfl
        · rw [e5.out]
          simp only []
          rw [e6.out]
          exact ownF_mono (ownF_set (ownF_set OS1.out (Nat.lt_succ_self _)) (Nat.lt_succ_self _)) (Nat.le_succ _)

end Go.Proofs.YtkgapklhgkngnaaDoor

namespace Go.Proofs.YtkgapklhgkngnaaDoor
open Go.RowKit

def bT (l : List Pe) : ByteArray := if l.any unfB = true then ⟨#[]⟩ else ⟨(bldP l).1.toArray⟩
def bS (l : List Pe) : List Sp := if l.any unfB = true then [] else ordS (bldP l).2
def bE (l : List Pe) : Int := if l.any unfB = true then 170 else 0
theorem build_c (v : Value) (l : List Pe) (w : World) (hT : U8 w) (hv : PeV w v l) (hs : SmP l) (hl : l.length ≤ 1048576) (hsum : sumP l ≤ 1048576) :
    Calls Tryd.prog 8 #[v] w fun e w' => (∃ uo uc, e = .returned (.tuple #[.agg #[.string (bT l), .slice uo (bS l).length uc], .int .i64 (bE l)]) ∧ Hid (OwnS w.heap.size w' (.slice uo (bS l).length uc) (bS l))) ∧ Hid (Below w.heap.size w w') := by
  unfold bT bS bE
  cases hm : l.any unfB with
  | true =>
    refine (Build_no v l w hT hv (by omega) hs hm).mono ?_
    rintro e w' ⟨rfl, hb⟩
    exact ⟨⟨none, 0, rfl, hide ⟨rfl, .inl ⟨rfl, rfl⟩⟩⟩, hide hb⟩
  | false =>
    refine (Build_yes v l w hT hv (by omega) hs (by omega) hm).mono ?_
    rintro e w' ⟨HE, hb⟩
    obtain ⟨uo, uc, rfl, ho⟩ := HE.out
    simp only [Bool.false_eq_true, if_false]
    refine ⟨⟨uo, uc, by rw [ordS_len], hide ?_⟩, hide hb⟩
    rw [ordS_len]
    exact ho
theorem rbuild_c (v : Value) (l : List Pe) (w : World) (hT : U8 w) (hv : PeV w v l) (hs : SmP l) (hl : l.length ≤ 1048576) (hsum : sumP l ≤ 1048576) :
    Calls Tryd.prog 9 #[v] w fun e w' => (∃ uo uc, e = .returned (.tuple #[.agg #[.string (bT l), .slice uo (bS l).length uc], .int .i64 (bE l)]) ∧ Hid (OwnS w.heap.size w' (.slice uo (bS l).length uc) (bS l))) ∧ Hid (Below w.heap.size w w') := by
  refine (rBuild_any v l w hT hv (by omega) hs (by omega)).mono ?_
  rintro e w' ⟨HE, hb⟩
  unfold bT bS bE
  rcases HE.out with ⟨hm, rfl⟩ | ⟨hm, uo, uc, rfl, ho⟩
  · rw [hm]
    exact ⟨⟨none, 0, rfl, hide ⟨rfl, .inl ⟨rfl, rfl⟩⟩⟩, hide hb⟩
  · rw [hm]
    simp only [Bool.false_eq_true, if_false]
    rw [bldP_ord] at ho
    refine ⟨⟨uo, uc, by rw [ordS_len], hide ?_⟩, hide hb⟩
    rw [ordS_len]
    exact ho
theorem bS_len (l : List Pe) : (bS l).length ≤ 2 * l.length + 1 := by
  unfold bS
  split
  · exact Nat.zero_le _
  · rw [ordS_len]
    have := bldF_len l [] [] spN
    simpa [bldP] using this
theorem wpSp_appendX {w : World} {ops : Array Oper} {rest : List Oper} {o : Oper} {a : Act} {Q : Exit → Act → World → Prop} (hgd : o.guard = none) (s x : Operand)
    (ho : o.op = .call { callee := .builtin .append, args := #[s, x], argTypes := #[23, 23] })
    (base : Nat) (v : Value) (n : Nat) (xs : List Value) (hs : a.eval s = v) (hown : w.ownsRow base 31 3 v n xs)
    (g : Nat) (f1 f2 f3 : Int) (hx : a.eval x = .slice (some ⟨g, 0, none⟩) 1 1) (hsrc : Blk w g #[.int .i64 f1, .int .i64 f2, .int .i64 f3] 31) (hb : (n + 1) * 24 ≤ 140737488355328) (hbase : base ≤ w.heap.size)
    (h : ∀ uo uc w', w.grownBy w' v.ownBlock → wpList Tryd.prog ops Q rest (a.put o.dst (.slice uo (n + 1) uc)) w') : wpList Tryd.prog ops Q (o :: rest) a w := by
  obtain ⟨i0, hi, hz0, hz1, hz2⟩ := info_parts infoSp
  refine wpList_append_own w hgd s x _ ho base _ i0 (.agg #[.int .i64 0, .int .i64 0, .int .i64 0]) 3 24 Tryd.underlying23 hi hz0 hz1 hz2 rfl (by decide) v n xs hs hown ⟨g, 0, none⟩ 1 1 [.int .i64 f1, .int .i64 f2, .int .i64 f3] hx rfl (fun j u hj => ?_) (fun u hu => ?_) (by unfold maxLen; omega) hb hbase (fun v' w' h3 h4 _ => ?_)
  · rw [Addr.add_lit, Nat.zero_add, hsrc.cell j]
    simpa using hj
  · simp only [List.mem_cons, List.mem_nil_iff, or_false] at hu
    rcases hu with rfl | rfl | rfl <;> rfl
  · obtain ⟨uo, uc, rfl⟩ := ownF_slice h3
    exact h uo uc w' h4

structure OvR (H D : Nat) (w : World) (T : ByteArray) (uo : Option Addr) (m uc : Nat) (wr : World) : Prop where
  bel : Below H w wr
  row : ∃ xs, wr.ownsRow H 31 3 (.slice uo m uc) m xs
  out : Blk wr D #[.string T, .slice uo m uc] 25
  lt : ∀ q, (Value.slice uo m uc).ownBlock = some q → q < D
  hD : H ≤ D
theorem OvR.below {H D : Nat} {w : World} {T : ByteArray} {uo : Option Addr} {m uc : Nat} {wr w' : World} (h : OvR H D w T uo m uc wr) (hb : Below wr.heap.size wr w') : OvR H D w T uo m uc w' := by
  obtain ⟨xs, hx⟩ := h.row
  exact ⟨h.bel.trans (hb.mono (Nat.le_of_lt (Nat.lt_of_le_of_lt h.hD h.out.lt))), ⟨xs, ownF_below hx hb⟩, h.out.below hb h.out.lt, h.lt, h.hD⟩
theorem OvR.put {H D : Nat} {w : World} {T : ByteArray} {g : Nat} {m uc : Nat} {wr : World} (h : OvR H D w T (some ⟨g, 0, none⟩) m uc wr) (p : Nat) (u : Value) : OvR H D w T (some ⟨g, 0, none⟩) m uc (wr.setCell ⟨g, p, none⟩ u) := by
  obtain ⟨xs, hx⟩ := h.row
  have hg := World.ownsRow.lt hx g rfl
  have hgD := h.lt g rfl
  exact ⟨h.bel.setCell (p := ⟨g, p, none⟩) hg.1 u, ⟨_, own_put hx rfl p u⟩, h.out.setne (a := ⟨g, p, none⟩) (by show ¬ g = D; omega) u, h.lt, h.hD⟩
theorem OvR.cells {H D : Nat} {w : World} {T : ByteArray} {uo : Option Addr} {m uc : Nat} {wr : World} (h : OvR H D w T uo m uc wr) (hm : 0 < m) : ∃ g, uo = some ⟨g, 0, none⟩ ∧ m ≤ uc ∧ ∀ p, p < m * 3 → (∃ u, wr.cell? ⟨g, p, none⟩ = some u) ∧ wr.frozen? ⟨g, p, none⟩ = false := by
  obtain ⟨xs, hx⟩ := h.row
  obtain ⟨g, c2, hv, h1, h2, h3⟩ := ownF_some hx (by omega)
  simp only [Value.slice.injEq] at hv
  obtain ⟨rfl, _, rfl⟩ := hv
  refine ⟨g, rfl, h3, fun p hp => ?_⟩
  obtain ⟨q1, q2⟩ := own_get hx p hp
  have hl : xs.length = m * 3 := hx.1
  exact ⟨⟨_, q1.trans (List.getElem?_eq_getElem (by omega))⟩, q2⟩

set_option maxRecDepth 100000 in
set_option maxHeartbeats 16000000 in
theorem bld_row (w : World) (hT : U8 w) (v : Value) (l : List Pe) (hv : PeV w v l) (hl : l.length ≤ 1048576) (hsum : sumP l ≤ 1048576) :
    Calls Tryd.prog 3 #[v] w fun e w' => e = .returned (.bool true) ∧ Below w.heap.size w w' := by
  have hs : SmP l := fun p hp => Nat.le_trans (sumP_mem hp) (Nat.le_trans hsum (by decide))
  have HC := hide (fun (X : World) (hX : U8 X) (hv : PeV X v l) => build_c v l X hX hv hs hl hsum)
  have HD := hide (fun (X : World) (hX : U8 X) (hv : PeV X v l) => rbuild_c v l X hX hv hs hl hsum)
  have hmb := bS_len l
  obtain ⟨S, hS⟩ : ∃ S, S = bS l := ⟨_, rfl⟩
  obtain ⟨T, hT0⟩ : ∃ T, T = bT l := ⟨_, rfl⟩
  obtain ⟨E, hE⟩ : ∃ E, E = bE l := ⟨_, rfl⟩
  rw [← hS, ← hT0, ← hE] at HC HD
  rw [← hS] at hmb
  have CS := hide (fun (X : World) (v v' : Value) (h : SpV X v S) (h' : SpV X v' S) => Same_true T v v' S X h h' (by omega))
  obtain ⟨m, hm⟩ : ∃ m, m = S.length := ⟨_, rfl⟩
  rw [← hm] at HC HD hmb
  have hmm : m ≤ 2097153 := by omega
  have HM := hide hm
  have HT := hide hT
  have HV := hide hv
  have hee : (E != E) = false := by simp
  obtain ⟨ao, cap, hv2⟩ := hv.len
  subst hv2
  obtain ⟨n, hn⟩ : ∃ n, n = l.length := ⟨_, rfl⟩
  rw [← hn] at HC HD HV ⊢
  clear hT hv hs hsum hS hT0 hE hm hn hl hmb
  go_enter Tryd.func3, Tryd.ntmps3
  go_wp2
  go_loopw [3] (fun x3 wr => ∃ i : Nat, i ≤ 2 ∧ x3 = .int .i64 (i : Int) ∧ Hid (Below w.heap.size w wr)) (fun x3 _ => 2 - (intOf x3).toNat)
  case atStart => exact ⟨0, by omega, rfl, hide (Below.refl _ _)⟩
  case round =>
    obtain ⟨i, hi, rfl, BB⟩ := hrel
    by_cases hi2 : i < 2
    · have hi2' : (i : Int) < 2 := by omega
      have C1 := hide (HC.out _ (HT.out.below BB.out) (HV.out.below BB.out))
      go_wp2_with fail
      refine C1.out.mono ?_
      rintro e w2 ⟨⟨uo, uc, rfl, O2⟩, b2⟩
      obtain ⟨W3, hW3⟩ : ∃ W3, W3 = w2.alloc (.cells #[.string T, .slice uo m uc] 25) := ⟨_, rfl⟩
      have b3 : Below w2.heap.size w2 W3 := by rw [hW3]; exact (Below.refl _ _).alloc (Nat.le_refl _) _
      have B2 := hide (BB.out.trans (b2.out.mono BB.out.size))
      have B3 := hide (B2.out.trans (b3.mono B2.out.size))
      have O3 := hide (ownF_below (ownF_mono O2.out BB.out.size) b3)
      have K3 : Hid (Blk W3 w2.heap.size #[.string T, .slice uo m uc] 25) := hide (by rw [hW3]; exact Blk.newAt w2 _ rfl _ _)
      have LT : Hid (∀ q, (Value.slice uo m uc).ownBlock = some q → q < w2.heap.size) := hide (fun q hq => (World.ownsRow.lt O2.out q hq).2)
      have HW := hide hW3.symm
      have C2 := hide (HD.out W3 (HT.out.below B3.out) (HV.out.below B3.out))
      have hD2 := hide B2.out.size
      clear hW3 b2 b3 O2 C1 B2
      go_wp2_with (simp only [HW.out])
      refine C2.out.mono ?_
      rintro e w4 ⟨⟨vo, vc, rfl, O4⟩, b4⟩
      obtain ⟨W5, hW5⟩ : ∃ W5, W5 = w4.alloc (.cells #[.string T, .slice vo m vc] 25) := ⟨_, rfl⟩
      have b5 : Below w4.heap.size w4 W5 := by rw [hW5]; exact (Below.refl _ _).alloc (Nat.le_refl _) _
      have B4 := hide (B3.out.trans (b4.out.mono B3.out.size))
      have B5 := hide (B4.out.trans (b5.mono B4.out.size))
      have O5 := hide (ownF_below (ownF_below O3.out b4.out) b5)
      have P5 := hide (ownF_below O4.out b5)
      have K5 := hide ((K3.out.below b4.out K3.out.lt).below b5 (Nat.lt_of_lt_of_le K3.out.lt b4.out.size))
      have J5 : Hid (Blk W5 w4.heap.size #[.string T, .slice vo m vc] 25) := hide (by rw [hW5]; exact Blk.newAt w4 _ rfl _ _)
      have HW5 := hide hW5.symm
      have s1 : SpV W5 (.slice uo m uc) S := by have q : OwnS w.heap.size W5 (.slice uo m uc) S := by unfold OwnS; rw [← HM.out]; rw [← HM.out] at O5; exact O5.out
                                                exact q.spv
      have s2 : SpV W5 (.slice vo m vc) S := by have q : OwnS W3.heap.size W5 (.slice vo m vc) S := by unfold OwnS; rw [← HM.out]; rw [← HM.out] at P5; exact P5.out
                                                exact q.spv
      have C3 := hide (CS.out W5 _ _ s1 s2)
      have x0 := K5.out.cell 0
      have x1 := K5.out.cell 1
      have y0 := J5.out.cell 0
      have y1 := J5.out.cell 1
      clear hW5 b4 b5 O4 C2 HW s1 s2 B3 O3 K3 B4
      go_wp2_with (simp only [HW5.out])
      refine C3.out.mono ?_
      rintro e w6 ⟨rfl, hb6⟩
      have B6 := hide (B5.out.trans (hb6.mono B5.out.size))
      have K6 := hide (K5.out.below hb6 K5.out.lt)
      have R6 : Hid (OvR w.heap.size w2.heap.size w T uo m uc w6) := hide ⟨B6.out, ⟨_, by rw [← HM.out] at O5; exact ownF_below O5.out hb6⟩, K6.out, LT.out, hD2.out⟩
      clear hb6 C3 HW5 x0 x1 y0 y1 B5 K5 J5 O5 P5 B6 K6 LT
      obtain ⟨D, hDD⟩ : ∃ D, D = w2.heap.size := ⟨_, rfl⟩
      rw [← hDD] at R6 hD2 ⊢
      clear hDD
      obtain ⟨wo, hwo⟩ : ∃ wo, wo = wr := ⟨_, rfl⟩
      subst hwo
      have x1 := R6.out.out.cell 1
      go_wp2
      clear x1
      go_loopw [8] (fun x8 wr => ∃ k : Nat, k ≤ m ∧ x8 = .int .i64 (k : Int) ∧ Hid (OvR w.heap.size D w T uo m uc wr)) (fun x8 _ => m - (intOf x8).toNat)
      case atStart => exact ⟨0, Nat.zero_le _, rfl, R6⟩
      case round =>
        clear R6
        obtain ⟨k, hk, rfl, R6⟩ := hrel
        have x1 := R6.out.out.cell 1
        by_cases hkm : k < m
        · have hkm' : (k : Int) < (m : Int) := by omega
          obtain ⟨g, rfl, huc, hcl⟩ := R6.out.cells (by omega)
          obtain ⟨⟨u0, c0⟩, f0⟩ := hcl (k * 3) (by omega)
          obtain ⟨⟨u1, c1⟩, f1⟩ := hcl (k * 3 + 1) (by omega)
          obtain ⟨⟨u2, c2⟩, f2⟩ := hcl (k * 3 + 2) (by omega)
          clear hcl huc
          go_wp2
          exact ⟨⟨k + 1, by omega, by go_num, hide (((R6.out.put _ _).put _ _).put _ _)⟩, by simp [intOf]; omega⟩
        · obtain rfl : k = m := by omega
          have hkm' : ¬ (k : Int) < (k : Int) := by omega
          obtain ⟨Vx, hVx⟩ : ∃ Vx, Vx = wr.alloc (.cells #[.int .i64 (-2), .int .i64 0, .int .i64 0] 31) := ⟨_, rfl⟩
          have AX := hide (show Below wr.heap.size wr Vx by rw [hVx]; exact (Below.refl _ _).alloc (Nat.le_refl _) _)
          have TB : Hid (Blk Vx wr.heap.size #[.int .i64 (-2), .int .i64 0, .int .i64 0] 31) := hide (by rw [hVx]; exact Blk.newAt _ _ rfl _ _)
          have R7 := hide (R6.out.below AX.out)
          have BS := hide (show w.heap.size ≤ Vx.heap.size from R7.out.bel.size)
          have HVx := hide hVx.symm
          obtain ⟨xs, hxs⟩ := R7.out.row
          have RW := hide hxs
          have KB := hide (show (k + 1) * 24 ≤ 140737488355328 by omega)
          clear hVx hxs R6 AX
          go_wp2_with (first | simp only [HVx.out] | (at_builtin; refine wpSp_appendX rfl _ _ rfl w.heap.size (.slice uo k uc) k xs rfl RW.out wr.heap.size (-2) 0 0 rfl TB.out KB.out BS.out ?_; intro u9 c9 y9 hgr; (have b9 := hide (R7.out.bel.grown hgr BS.out (fun q hq => (World.ownsRow.lt RW.out q hq).1)); have hne : ∀ q, (Value.slice uo k uc).ownBlock = some q → q ≠ D := (fun q hq => Nat.ne_of_lt (R7.out.lt q hq)); have K9 : Hid (Blk y9 D #[.string T, .slice uo k uc] 25) := hide (by have q := R7.out.out; unfold Blk at *; rw [hgr.block D (lt_of_block q) (fun e => hne D e.symm rfl)]; exact q); have d1 := K9.out.cell 1; have g1 := K9.out.free 1; clear hgr hne RW TB R7)))
          exact ⟨⟨i + 1, by omega, by go_num, hide (b9.out.setCell (p := ⟨D, 1, none⟩) hD2.out _)⟩, by simp [intOf]; omega⟩
    · obtain rfl : i = 2 := by omega
      have hi2' : ¬ ((2 : Nat) : Int) < 2 := by omega
      have CA := hide (awake17_any wr (HT.out.below BB.out))
      go_wp2_with fail
      refine CA.out.mono ?_
      rintro e w9 ⟨rfl, hb9⟩
      have B9 := hide (BB.out.trans (hb9.mono BB.out.size))
      clear hb9 CA
      go_wp2
      go_ret
      exact ⟨rfl, B9.out⟩

end Go.Proofs.YtkgapklhgkngnaaDoor

namespace Go.Proofs.YtkgapklhgkngnaaDoor
open Go.RowKit

theorem laid_first : (Rows.laid_unicode_utf8_first : DataW Unit) = Lib.firstData := by kernel_rfl
theorem laid_accept : (Rows.laid_unicode_utf8_acceptRanges : DataW Unit) = Lib.acceptData := by kernel_rfl
theorem cellsAR : Tryd.prog.cellsOf 97 = 2 := by kernel_rfl
theorem cellsU8 : Tryd.prog.cellsOf 5 = 1 := by kernel_rfl
theorem cellsFT : Tryd.prog.cellsOf 95 = 256 := by kernel_rfl

theorem first_of {W : World} (h : Lib.VarReads Tryd.prog W "unicode/utf8.first" Lib.firstData) : ∀ c, c < 256 → W.cell? ⟨0, c, none⟩ = some (.int .u8 (Lib.firstT c : Int)) := by
  intro c hc
  obtain ⟨g, t, cs, fuel, p, hg, hty, hvar, hd⟩ := h
  have eg : g = 0 := Option.some.inj (hg.symm.trans (by kernel_rfl))
  subst eg
  have et : t = 95 := Option.some.inj (hty.symm.trans (by kernel_rfl))
  subst et
  have hcs := Lib.cells_of_tab Tryd.underlying95 Tryd.underlying5 cellsU8 cellsFT hd
  rw [World.var?_cell hg hvar c, ← Array.getElem?_toList, hcs]
  simp [Lib.firstTab, hc]

theorem accept_of {W : World} (h : Lib.VarReads Tryd.prog W "unicode/utf8.acceptRanges" Lib.acceptData) : ∀ i, i < 16 → W.cell? ⟨1, 2 * i, none⟩ = some (.int .u8 (Lib.accLo i : Int)) ∧ W.cell? ⟨1, 2 * i + 1, none⟩ = some (.int .u8 (Lib.accHi i : Int)) := by
  intro i hi
  obtain ⟨g, t, cs, fuel, p, hg, hty, hvar, hd⟩ := h
  have eg : g = 1 := Option.some.inj (hg.symm.trans (by kernel_rfl))
  subst eg
  have et : t = 98 := Option.some.inj (hty.symm.trans (by kernel_rfl))
  subst et
  obtain ⟨fu, d, q, hdi, he⟩ := Lib.array_elem Tryd.underlying98 hd i hi
  rw [cellsAR] at he
  have hdv : d = .agg ([(Lib.accLo i : Int), (Lib.accHi i : Int)].map fun z => .lit (.int .u8 z)) := by
    rw [List.getElem?_map, List.getElem?_range hi] at hdi
    exact (Option.some.inj hdi).symm
  subst hdv
  have fields : ∀ (j : Nat) (f : Field), (Tryd.prog.fieldsOf 97)[j]? = some f → Tryd.prog.underlying f.type = some (.int .u8) ∧ f.offset = j ∧ Tryd.prog.cellsOf f.type = 1 := by
    intro j f hj
    have e2 : Tryd.prog.fieldsOf 97 = #[(Tryd.prog.fieldsOf 97)[0]!, (Tryd.prog.fieldsOf 97)[1]!] := by kernel_rfl
    rw [e2] at hj
    match j, hj with
    | 0, hj => simp at hj; subst hj; exact ⟨by kernel_rfl, by kernel_rfl, by kernel_rfl⟩
    | 1, hj => simp at hj; subst hj; exact ⟨by kernel_rfl, by kernel_rfl, by kernel_rfl⟩
    | j + 2, hj => simp at hj
  have hcs := Lib.ints_of_struct (fs := Tryd.prog.fieldsOf 97) (by kernel_rfl) fields (by kernel_rfl) he
  have q0 := congrArg (fun l => l[0]?) hcs
  have q1 := congrArg (fun l => l[1]?) hcs
  simp only [List.getElem?_take, List.getElem?_drop] at q0 q1
  refine ⟨?_, ?_⟩
  · rw [World.var?_cell hg hvar (2 * i), ← Array.getElem?_toList, Nat.mul_comm]
    simpa using q0
  · rw [World.var?_cell hg hvar (2 * i + 1), ← Array.getElem?_toList, Nat.mul_comm]
    simpa using q1

theorem table {W : World} (h : laidMetH Tryd.prog [("unicode/utf8.acceptRanges", Rows.laid_unicode_utf8_acceptRanges), ("unicode/utf8.first", Rows.laid_unicode_utf8_first)] W) : U8 W := by
  have h' : laidMet Tryd.prog [("unicode/utf8.acceptRanges", Rows.laid_unicode_utf8_acceptRanges), ("unicode/utf8.first", Rows.laid_unicode_utf8_first)] W := h
  have h3 := Lib.laidMet.reads h' (n := "unicode/utf8.first") (d := Rows.laid_unicode_utf8_first) (by simp)
  have h4 := Lib.laidMet.reads h' (n := "unicode/utf8.acceptRanges") (d := Rows.laid_unicode_utf8_acceptRanges) (by simp)
  rw [laid_first] at h3
  rw [laid_accept] at h4
  exact ⟨first_of h3, accept_of h4⟩

def tabVals : DataW Unit → Array Value
  | .agg l => (l.flatMap fun
      | .lit (.int k z) => [Value.int k z]
      | .agg l2 => l2.map fun
        | .lit (.int k z) => Value.int k z
        | _ => .int .u8 0
      | _ => []).toArray
  | _ => #[]

def putVals (d : DataW Unit) : Obj → Obj
  | .cells _ t frozen => .cells (tabVals d) t frozen
  | o => o

noncomputable def laidWorld (os : Os) : World :=
  { World.holding Tryd.prog os ⟨#[], #[], []⟩ with
    heap := ((World.holding Tryd.prog os ⟨#[], #[], []⟩).heap.modify 1 (putVals Rows.laid_unicode_utf8_acceptRanges)).modify 0 (putVals Rows.laid_unicode_utf8_first) }

end Go.Proofs.YtkgapklhgkngnaaDoor
