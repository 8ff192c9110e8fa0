/-
  The reference's Wrap.
  The laws' own and kept.
  FieldsBuilds answers true, whatever it is handed: the law's walk.
-/
import Derived.Test.YtkgapklhgkngnaaDoorDB11
import Derived.Test.YtkgapklhgkngnaaDoorDB13
import Derived.Test.YtkgapklhgkngnaaDoorDB8
import Derived.Test.YtkgapklhgkngnaaDoorDB9
namespace Go.Proofs.YtkgapklhgkngnaaDoor
open Go.RowKit

def WrOk (t : ByteArray) (l : List Sp) (s : Sp) : Prop := mayB t l = true ∧ OkS t s ∧ ∀ i, i < l.length → crsB s (gN spZ l i) = false
def RwA (t : ByteArray) (l : List Sp) (s : Sp) (H : Nat) (e : Ending) (w' : World) : Prop :=
  (¬ WrOk t l s ∧ e = .returned (.tuple #[.agg #[.string ⟨#[]⟩, .slice none 0 0], .int .i64 170])) ∨
  (WrOk t l s ∧ ∃ uo uc, e = .returned (.tuple #[.agg #[.string t, .slice uo (l.length + 1) uc], .int .i64 0]) ∧ OwnS H w' (.slice uo (l.length + 1) uc) (putS s l))
structure WS (w : World) (t : ByteArray) (sv : Value) (sf sa sb : Int) (Y : World) : Prop where
  bel : Below w.heap.size w Y
  box : Blk Y w.heap.size #[.string t, sv] 25
  spn : Blk Y (w.heap.size + 2) #[.int .i64 sf, .int .i64 sa, .int .i64 sb] 31
theorem WS.below {w : World} {t : ByteArray} {sv : Value} {sf sa sb : Int} {Y Z : World} (h : WS w t sv sf sa sb Y) (hb : Below Y.heap.size Y Z) : WS w t sv sf sa sb Z := ⟨h.bel.trans (hb.mono h.bel.size), h.box.below hb h.box.lt, h.spn.below hb h.spn.lt⟩
theorem WS.set {w : World} {t : ByteArray} {sv : Value} {sf sa sb : Int} {Y : World} (h : WS w t sv sf sa sb Y) (k : Nat) (u : Value) : WS w t sv sf sa sb (Y.setCell ⟨w.heap.size + 1, k, none⟩ u) :=
  ⟨h.bel.setCell (p := ⟨w.heap.size + 1, k, none⟩) (Nat.le_succ _) u, h.box.setne (a := ⟨w.heap.size + 1, k, none⟩) (by show ¬ w.heap.size + 1 = w.heap.size; omega) u, h.spn.setne (a := ⟨w.heap.size + 1, k, none⟩) (by show ¬ w.heap.size + 1 = w.heap.size + 2; omega) u⟩
theorem alloc3 (w : World) (a b c : Array Value) (ta tb tc : TypeId) :
    Blk (((w.alloc (.cells a ta)).alloc (.cells b tb)).alloc (.cells c tc)) w.heap.size a ta ∧ Blk (((w.alloc (.cells a ta)).alloc (.cells b tb)).alloc (.cells c tc)) (w.heap.size + 1) b tb ∧ Blk (((w.alloc (.cells a ta)).alloc (.cells b tb)).alloc (.cells c tc)) (w.heap.size + 2) c tc ∧ Below w.heap.size w (((w.alloc (.cells a ta)).alloc (.cells b tb)).alloc (.cells c tc)) := by
  have b1 : Below w.heap.size w (w.alloc (.cells a ta)) := (Below.refl _ _).alloc (Nat.le_refl _) _
  have b2 : Below (w.alloc (.cells a ta)).heap.size (w.alloc (.cells a ta)) ((w.alloc (.cells a ta)).alloc (.cells b tb)) := (Below.refl _ _).alloc (Nat.le_refl _) _
  have b3 : Below ((w.alloc (.cells a ta)).alloc (.cells b tb)).heap.size ((w.alloc (.cells a ta)).alloc (.cells b tb)) (((w.alloc (.cells a ta)).alloc (.cells b tb)).alloc (.cells c tc)) := (Below.refl _ _).alloc (Nat.le_refl _) _
  have k1 : Blk (w.alloc (.cells a ta)) w.heap.size a ta := Blk.newAt w _ rfl _ _
  have k2 : Blk ((w.alloc (.cells a ta)).alloc (.cells b tb)) (w.heap.size + 1) b tb := Blk.newAt _ _ (allocW_size _ _) _ _
  have k3 : Blk (((w.alloc (.cells a ta)).alloc (.cells b tb)).alloc (.cells c tc)) (w.heap.size + 2) c tc := Blk.newAt _ _ (by rw [allocW_size, allocW_size]) _ _
  have k12 := k1.below b2 k1.lt
  exact ⟨k12.below b3 k12.lt, k2.below b3 k2.lt, k3, (b1.trans (b2.mono b1.size)).trans (b3.mono (Nat.le_trans b1.size b2.size))⟩

set_option maxRecDepth 100000 in
set_option maxHeartbeats 16000000 in
theorem rWrap_any (t : ByteArray) (v : Value) (l : List Sp) (s : Sp) (w : World) (hT : U8 w) (ht : t.size ≤ 140737488355328) (hv : SpV w v l) (hl : (l.length + 2) * 32 ≤ 140737488355328) :
    Calls Tryd.prog 14 #[.agg #[.string t, v], .int .i64 s.f, .int .i64 s.a, .int .i64 s.b] w fun e w' => Hid (RwA t l s w.heap.size e w') ∧ Below w.heap.size w w' := by
  have HV := hide hv
  obtain ⟨ao, cap, rfl⟩ := hv.len
  obtain ⟨n, hn⟩ : ∃ n, n = l.length := ⟨_, rfl⟩
  have hnb : n ≤ 140737488355328 := by omega
  have HL := hide hl
  rw [← hn] at HV ⊢
  have HN := hide hn
  have HT := hide hT
  obtain ⟨sf, sa, sb⟩ := s
  simp only []
  obtain ⟨W1, hW1⟩ : ∃ W1, W1 = ((w.alloc (.cells #[.string t, .slice ao n cap] 25)).alloc (.cells #[.string ⟨#[]⟩, .slice none 0 0] 25)).alloc (.cells #[.int .i64 sf, .int .i64 sa, .int .i64 sb] 31) := ⟨_, rfl⟩
  obtain ⟨k1, k2, k3, kb⟩ := alloc3 w #[.string t, .slice ao n cap] #[.string ⟨#[]⟩, .slice none 0 0] #[.int .i64 sf, .int .i64 sa, .int .i64 sb] 25 25 31
  rw [← hW1] at k1 k2 k3 kb
  have BX1 := hide k1
  have BR1 := hide k2
  have BS1 := hide k3
  have B1 := hide kb
  have HW := hide hW1.symm
  have CM := hide (rMay_any t _ l W1 (hT.below kb) ht (hv.below kb) (by omega))
  have CP := hide (fun (m : Int) (X : World) (hX : U8 X) => rPlace_any t m X hX ht)
  have x0 := BX1.out.cell 0
  have x1 := BX1.out.cell 1
  rw [← hn] at CM
  clear hv hn hT hl hW1 k1 k2 k3 kb
  cases hm : mayB t l with
  | false =>
    rw [hm] at CM
    have NO : Hid (¬ WrOk t l ⟨sf, sa, sb⟩) := hide (fun h => by have q := h.1; rw [hm] at q; cases q)
    clear hm CP
    go_enter Tryd.func14, Tryd.ntmps14
    go_wp2_with (simp only [HW.out])
    refine CM.out.mono ?_
    rintro e w2 ⟨rfl, hb2⟩
    have B2 := hide (B1.out.trans (hb2.mono B1.out.size))
    have BX2 := hide (BX1.out.below hb2 BX1.out.lt)
    have BR2 := hide (BR1.out.below hb2 BR1.out.lt)
    have BS2 := hide (BS1.out.below hb2 BS1.out.lt)
    clear hb2 CM HW BX1 BR1 BS1 B1 x0 x1
    have x0 := BX2.out.cell 0
    have x1 := BX2.out.cell 1
    have r0 := BR2.out.cell 0
    have r1 := BR2.out.cell 1
    have q0 := BR2.out.free 0
    have q1 := BR2.out.free 1
    (try simp only []); repeat (first | go_values | go_skip | go_guarded | go_step | go_upon)
    have BK := (BR2.out.setN 0 (.string ⟨#[]⟩)).setN 1 (.slice none 0 0)
    exact bodyPost_ret (results_out rfl _ _ _ _ _ rfl BK) rfl ⟨hide (.inl ⟨NO.out, rfl⟩), (B2.out.setCell (p := ⟨w.heap.size + 1, 0, none⟩) (Nat.le_succ _) _).setCell (p := ⟨w.heap.size + 1, 1, none⟩) (Nat.le_succ _) _⟩
  | true =>
    rw [hm] at CM
    have HM := hide hm
    clear hm
    by_cases h1 : sf < 1
    · have NO : Hid (¬ WrOk t l ⟨sf, sa, sb⟩) := hide (fun h => by have q := h.2.1.1; simp only [] at q; omega)
      clear CP
      go_enter Tryd.func14, Tryd.ntmps14
      go_wp2_with (simp only [HW.out])
      refine CM.out.mono ?_
      rintro e w2 ⟨rfl, hb2⟩
      have B2 := hide (B1.out.trans (hb2.mono B1.out.size))
      have BX2 := hide (BX1.out.below hb2 BX1.out.lt)
      have BR2 := hide (BR1.out.below hb2 BR1.out.lt)
      have BS2 := hide (BS1.out.below hb2 BS1.out.lt)
      clear hb2 CM HW BX1 BR1 BS1 B1 x0 x1
      have x0 := BX2.out.cell 0
      have x1 := BX2.out.cell 1
      have r0 := BR2.out.cell 0
      have r1 := BR2.out.cell 1
      have q0 := BR2.out.free 0
      have q1 := BR2.out.free 1
      (try simp only []); repeat (first | go_values | go_skip | go_guarded | go_step | go_upon)
      have BK := (BR2.out.setN 0 (.string ⟨#[]⟩)).setN 1 (.slice none 0 0)
      exact bodyPost_ret (results_out rfl _ _ _ _ _ rfl BK) rfl ⟨hide (.inl ⟨NO.out, rfl⟩), (B2.out.setCell (p := ⟨w.heap.size + 1, 0, none⟩) (Nat.le_succ _) _).setCell (p := ⟨w.heap.size + 1, 1, none⟩) (Nat.le_succ _) _⟩
    by_cases h2 : 17 < sf
    · have NO : Hid (¬ WrOk t l ⟨sf, sa, sb⟩) := hide (fun h => by have q := h.2.1.2.1; simp only [] at q; omega)
      clear CP
      go_enter Tryd.func14, Tryd.ntmps14
      go_wp2_with (simp only [HW.out])
      refine CM.out.mono ?_
      rintro e w2 ⟨rfl, hb2⟩
      have B2 := hide (B1.out.trans (hb2.mono B1.out.size))
      have BX2 := hide (BX1.out.below hb2 BX1.out.lt)
      have BR2 := hide (BR1.out.below hb2 BR1.out.lt)
      have BS2 := hide (BS1.out.below hb2 BS1.out.lt)
      clear hb2 CM HW BX1 BR1 BS1 B1 x0 x1
      have x0 := BX2.out.cell 0
      have x1 := BX2.out.cell 1
      have r0 := BR2.out.cell 0
      have r1 := BR2.out.cell 1
      have q0 := BR2.out.free 0
      have q1 := BR2.out.free 1
      (try simp only []); repeat (first | go_values | go_skip | go_guarded | go_step | go_upon)
      have BK := (BR2.out.setN 0 (.string ⟨#[]⟩)).setN 1 (.slice none 0 0)
      exact bodyPost_ret (results_out rfl _ _ _ _ _ rfl BK) rfl ⟨hide (.inl ⟨NO.out, rfl⟩), (B2.out.setCell (p := ⟨w.heap.size + 1, 0, none⟩) (Nat.le_succ _) _).setCell (p := ⟨w.heap.size + 1, 1, none⟩) (Nat.le_succ _) _⟩
    cases hpa : plcR t sa with
    | false =>
      have NO : Hid (¬ WrOk t l ⟨sf, sa, sb⟩) := hide (fun h => by have q := h.2.1.2.2.1; simp only [] at q; rw [hpa] at q; cases q)
      go_enter Tryd.func14, Tryd.ntmps14
      go_wp2_with (simp only [HW.out])
      refine CM.out.mono ?_
      rintro e w2 ⟨rfl, hb2⟩
      have B2 := hide (B1.out.trans (hb2.mono B1.out.size))
      have BX2 := hide (BX1.out.below hb2 BX1.out.lt)
      have BR2 := hide (BR1.out.below hb2 BR1.out.lt)
      have BS2 := hide (BS1.out.below hb2 BS1.out.lt)
      clear hb2 CM HW BX1 BR1 BS1 B1 x0 x1
      have x0 := BX2.out.cell 0
      have x1 := BX2.out.cell 1
      go_wp2_with fail
      refine (CP.out sa _ (HT.out.below B2.out)).mono ?_
      rintro e w3 ⟨rfl, hb3⟩
      rw [hpa]
      have B3 := hide (B2.out.trans (hb3.mono B2.out.size))
      have BX3 := hide (BX2.out.below hb3 BX2.out.lt)
      have BR3 := hide (BR2.out.below hb3 BR2.out.lt)
      have BS3 := hide (BS2.out.below hb3 BS2.out.lt)
      clear hb3 BX2 BR2 BS2 B2 x0 x1
      have x0 := BX3.out.cell 0
      have x1 := BX3.out.cell 1
      clear hpa CP
      have r0 := BR3.out.cell 0
      have r1 := BR3.out.cell 1
      have q0 := BR3.out.free 0
      have q1 := BR3.out.free 1
      (try simp only []); repeat (first | go_values | go_skip | go_guarded | go_step | go_upon)
      have BK := (BR3.out.setN 0 (.string ⟨#[]⟩)).setN 1 (.slice none 0 0)
      exact bodyPost_ret (results_out rfl _ _ _ _ _ rfl BK) rfl ⟨hide (.inl ⟨NO.out, rfl⟩), (B3.out.setCell (p := ⟨w.heap.size + 1, 0, none⟩) (Nat.le_succ _) _).setCell (p := ⟨w.heap.size + 1, 1, none⟩) (Nat.le_succ _) _⟩
    | true =>
      cases hpb : plcR t sb with
      | false =>
        have NO : Hid (¬ WrOk t l ⟨sf, sa, sb⟩) := hide (fun h => by have q := h.2.1.2.2.2.1; simp only [] at q; rw [hpb] at q; cases q)
        go_enter Tryd.func14, Tryd.ntmps14
        go_wp2_with (simp only [HW.out])
        refine CM.out.mono ?_
        rintro e w2 ⟨rfl, hb2⟩
        have B2 := hide (B1.out.trans (hb2.mono B1.out.size))
        have BX2 := hide (BX1.out.below hb2 BX1.out.lt)
        have BR2 := hide (BR1.out.below hb2 BR1.out.lt)
        have BS2 := hide (BS1.out.below hb2 BS1.out.lt)
        clear hb2 CM HW BX1 BR1 BS1 B1 x0 x1
        have x0 := BX2.out.cell 0
        have x1 := BX2.out.cell 1
        go_wp2_with fail
        refine (CP.out sa _ (HT.out.below B2.out)).mono ?_
        rintro e w3 ⟨rfl, hb3⟩
        rw [hpa]
        have B3 := hide (B2.out.trans (hb3.mono B2.out.size))
        have BX3 := hide (BX2.out.below hb3 BX2.out.lt)
        have BR3 := hide (BR2.out.below hb3 BR2.out.lt)
        have BS3 := hide (BS2.out.below hb3 BS2.out.lt)
        clear hb3 BX2 BR2 BS2 B2 x0 x1
        have x0 := BX3.out.cell 0
        have x1 := BX3.out.cell 1
        go_wp2_with fail
        refine (CP.out sb _ (HT.out.below B3.out)).mono ?_
        rintro e w4 ⟨rfl, hb4⟩
        rw [hpb]
        have B4 := hide (B3.out.trans (hb4.mono B3.out.size))
        have BX4 := hide (BX3.out.below hb4 BX3.out.lt)
        have BR4 := hide (BR3.out.below hb4 BR3.out.lt)
        have BS4 := hide (BS3.out.below hb4 BS3.out.lt)
        clear hb4 BX3 BR3 BS3 B3 x0 x1
        have x0 := BX4.out.cell 0
        have x1 := BX4.out.cell 1
        clear hpa hpb CP
        have r0 := BR4.out.cell 0
        have r1 := BR4.out.cell 1
        have q0 := BR4.out.free 0
        have q1 := BR4.out.free 1
        (try simp only []); repeat (first | go_values | go_skip | go_guarded | go_step | go_upon)
        have BK := (BR4.out.setN 0 (.string ⟨#[]⟩)).setN 1 (.slice none 0 0)
        exact bodyPost_ret (results_out rfl _ _ _ _ _ rfl BK) rfl ⟨hide (.inl ⟨NO.out, rfl⟩), (B4.out.setCell (p := ⟨w.heap.size + 1, 0, none⟩) (Nat.le_succ _) _).setCell (p := ⟨w.heap.size + 1, 1, none⟩) (Nat.le_succ _) _⟩
      | true =>
        by_cases h3 : sb ≤ sa
        · have NO : Hid (¬ WrOk t l ⟨sf, sa, sb⟩) := hide (fun h => by have q := h.2.1.2.2.2.2; simp only [] at q; omega)
          go_enter Tryd.func14, Tryd.ntmps14
          go_wp2_with (simp only [HW.out])
          refine CM.out.mono ?_
          rintro e w2 ⟨rfl, hb2⟩
          have B2 := hide (B1.out.trans (hb2.mono B1.out.size))
          have BX2 := hide (BX1.out.below hb2 BX1.out.lt)
          have BR2 := hide (BR1.out.below hb2 BR1.out.lt)
          have BS2 := hide (BS1.out.below hb2 BS1.out.lt)
          clear hb2 CM HW BX1 BR1 BS1 B1 x0 x1
          have x0 := BX2.out.cell 0
          have x1 := BX2.out.cell 1
          go_wp2_with fail
          refine (CP.out sa _ (HT.out.below B2.out)).mono ?_
          rintro e w3 ⟨rfl, hb3⟩
          rw [hpa]
          have B3 := hide (B2.out.trans (hb3.mono B2.out.size))
          have BX3 := hide (BX2.out.below hb3 BX2.out.lt)
          have BR3 := hide (BR2.out.below hb3 BR2.out.lt)
          have BS3 := hide (BS2.out.below hb3 BS2.out.lt)
          clear hb3 BX2 BR2 BS2 B2 x0 x1
          have x0 := BX3.out.cell 0
          have x1 := BX3.out.cell 1
          go_wp2_with fail
          refine (CP.out sb _ (HT.out.below B3.out)).mono ?_
          rintro e w4 ⟨rfl, hb4⟩
          rw [hpb]
          have B4 := hide (B3.out.trans (hb4.mono B3.out.size))
          have BX4 := hide (BX3.out.below hb4 BX3.out.lt)
          have BR4 := hide (BR3.out.below hb4 BR3.out.lt)
          have BS4 := hide (BS3.out.below hb4 BS3.out.lt)
          clear hb4 BX3 BR3 BS3 B3 x0 x1
          have x0 := BX4.out.cell 0
          have x1 := BX4.out.cell 1
          clear hpa hpb CP
          have r0 := BR4.out.cell 0
          have r1 := BR4.out.cell 1
          have q0 := BR4.out.free 0
          have q1 := BR4.out.free 1
          (try simp only []); repeat (first | go_values | go_skip | go_guarded | go_step | go_upon)
          have BK := (BR4.out.setN 0 (.string ⟨#[]⟩)).setN 1 (.slice none 0 0)
          exact bodyPost_ret (results_out rfl _ _ _ _ _ rfl BK) rfl ⟨hide (.inl ⟨NO.out, rfl⟩), (B4.out.setCell (p := ⟨w.heap.size + 1, 0, none⟩) (Nat.le_succ _) _).setCell (p := ⟨w.heap.size + 1, 1, none⟩) (Nat.le_succ _) _⟩
        have OS : Hid (OkS t ⟨sf, sa, sb⟩) := hide ⟨by show 1 ≤ sf; omega, by show sf ≤ 17; omega, hpa, hpb, by show sa < sb; omega⟩
        go_enter Tryd.func14, Tryd.ntmps14
        go_wp2_with (simp only [HW.out])
        refine CM.out.mono ?_
        rintro e w2 ⟨rfl, hb2⟩
        have B2 := hide (B1.out.trans (hb2.mono B1.out.size))
        have BX2 := hide (BX1.out.below hb2 BX1.out.lt)
        have BR2 := hide (BR1.out.below hb2 BR1.out.lt)
        have BS2 := hide (BS1.out.below hb2 BS1.out.lt)
        clear hb2 CM HW BX1 BR1 BS1 B1 x0 x1
        have x0 := BX2.out.cell 0
        have x1 := BX2.out.cell 1
        go_wp2_with fail
        refine (CP.out sa _ (HT.out.below B2.out)).mono ?_
        rintro e w3 ⟨rfl, hb3⟩
        rw [hpa]
        have B3 := hide (B2.out.trans (hb3.mono B2.out.size))
        have BX3 := hide (BX2.out.below hb3 BX2.out.lt)
        have BR3 := hide (BR2.out.below hb3 BR2.out.lt)
        have BS3 := hide (BS2.out.below hb3 BS2.out.lt)
        clear hb3 BX2 BR2 BS2 B2 x0 x1
        have x0 := BX3.out.cell 0
        have x1 := BX3.out.cell 1
        go_wp2_with fail
        refine (CP.out sb _ (HT.out.below B3.out)).mono ?_
        rintro e w4 ⟨rfl, hb4⟩
        rw [hpb]
        have B4 := hide (B3.out.trans (hb4.mono B3.out.size))
        have BX4 := hide (BX3.out.below hb4 BX3.out.lt)
        have BR4 := hide (BR3.out.below hb4 BR3.out.lt)
        have BS4 := hide (BS3.out.below hb4 BS3.out.lt)
        clear hb4 BX3 BR3 BS3 B3 x0 x1
        have x0 := BX4.out.cell 0
        have x1 := BX4.out.cell 1
        clear hpa hpb CP
        go_wp2
        go_loopw [11] (fun x11 wr => ∃ i : Nat, i ≤ n ∧ x11 = .int .i64 (i : Int) ∧ Hid (Below w4.heap.size w4 wr) ∧ Hid (∀ j, j < i → crsB ⟨sf, sa, sb⟩ (gN spZ l j) = false)) (fun x11 _ => n - (intOf x11).toNat)
        case atStart => exact ⟨0, Nat.zero_le _, rfl, hide (Below.refl _ _), hide (fun j hj => absurd hj (Nat.not_lt_zero j))⟩
        case round =>
          clear x0 x1
          obtain ⟨i, hi, rfl, BQ, OK⟩ := hrel
          have B5 := hide (B4.out.trans (BQ.out.mono B4.out.size))
          have BX5 := hide (BX4.out.below BQ.out BX4.out.lt)
          have BR5 := hide (BR4.out.below BQ.out BR4.out.lt)
          have BS5 := hide (BS4.out.below BQ.out BS4.out.lt)
          have x0 := BX5.out.cell 0
          have x1 := BX5.out.cell 1
          by_cases hlt : i < n
          · have hlt' : (i : Int) < (n : Int) := by omega
            have hil : i < l.length := by rw [← HN.out]; exact hlt
            have HP := HV.out
            rw [HN.out] at HP
            cases HP with
            | none _ _ _ h => subst h; simp at hil
            | some b o cp hv hc hb ha =>
              simp only [Value.slice.injEq] at hv
              obtain ⟨rfl, hx, rfl⟩ := hv
              clear hx hc
              obtain ⟨a0, a1, a2⟩ := ha i hil
              obtain ⟨y, hy⟩ : ∃ y, y = gN spZ l i := ⟨_, rfl⟩
              have HY := hide hy
              rw [← hy] at a0 a1 a2
              clear hy ha
              obtain ⟨yf, ya, yb⟩ := y
              simp only [] at a0 a1 a2
              have CJ : Hid (∀ Y, Below wr.heap.size wr Y → Y.cell? ⟨b, o + i * 3, none⟩ = some (.int .i64 yf) ∧ Y.cell? ⟨b, o + i * 3 + 1, none⟩ = some (.int .i64 ya) ∧ Y.cell? ⟨b, o + i * 3 + 2, none⟩ = some (.int .i64 yb)) := hide (fun Y hY => by
                have q := B5.out.trans (hY.mono B5.out.size)
                exact ⟨(q.cell (p := ⟨b, o + i * 3, none⟩) hb).trans a0, (q.cell (p := ⟨b, o + i * 3 + 1, none⟩) hb).trans a1, (q.cell (p := ⟨b, o + i * 3 + 2, none⟩) hb).trans a2⟩)
              clear a0 a1 a2 hb
              have CX := hide (fun (y z : Sp) (Y : World) => rCross_any y z Y)
              go_wp2_with fail
              refine wp_region_held_drew (S := fun Y => Below wr.heap.size wr Y) (by kernel_rfl) ?_ (fun hHeld => ?_)
              · exact (Below.refl _ _).drew
              refine wpAnyH_take (i := 0) (oi := Oper.mk (some 54) _ _ _ _ _) (v := .agg #[.int .i64 sf, .int .i64 sa, .int .i64 sb]) rfl (by kernel_rfl) (by kernel_rfl) (by kernel_rfl) (fun _ _ _ h => h) (Or.inl ⟨by rfl, ?_⟩) (by assumption) ?_
              · intro wX hSw
                (try dsimp only at hSw)
                have q0 := (BX5.out.below hSw BX5.out.lt).cell 0; have q1 := (BX5.out.below hSw BX5.out.lt).cell 1; have p0 := (BS5.out.below hSw BS5.out.lt).cell 0; have p1 := (BS5.out.below hSw BS5.out.lt).cell 1; have p2 := (BS5.out.below hSw BS5.out.lt).cell 2
                go_simp
              simp only [Act.put, List.setIfInBounds_toArray, List.set_cons_succ, List.set_cons_zero]
              refine wpAnyH_take (i := 1) (oi := Oper.mk (some 55) _ _ _ _ _) (v := .pointer (some ⟨w.heap.size, 1, none⟩)) rfl (by kernel_rfl) (by kernel_rfl) (by kernel_rfl) (fun _ _ _ h => h) (Or.inl ⟨by rfl, ?_⟩) (by assumption) ?_
              · intro wX hSw
                (try dsimp only at hSw)
                go_simp
              simp only [Act.put, List.setIfInBounds_toArray, List.set_cons_succ, List.set_cons_zero]
              refine wpAnyH_take (i := 2) (oi := Oper.mk (some 56) _ _ _ _ _) (v := .slice (some ⟨b, o, none⟩) n cap) rfl (by kernel_rfl) (by kernel_rfl) (by kernel_rfl) (fun _ _ _ h => h) (Or.inl ⟨by rfl, ?_⟩) (by assumption) ?_
              · intro wX hSw
                (try dsimp only at hSw)
                have q0 := (BX5.out.below hSw BX5.out.lt).cell 0; have q1 := (BX5.out.below hSw BX5.out.lt).cell 1; have p0 := (BS5.out.below hSw BS5.out.lt).cell 0; have p1 := (BS5.out.below hSw BS5.out.lt).cell 1; have p2 := (BS5.out.below hSw BS5.out.lt).cell 2
                go_simp
              simp only [Act.put, List.setIfInBounds_toArray, List.set_cons_succ, List.set_cons_zero]
              refine wpAnyH_take (i := 3) (oi := Oper.mk (some 57) _ _ _ _ _) (v := .int .i64 (i : Int)) rfl (by kernel_rfl) (by kernel_rfl) (by kernel_rfl) (fun _ _ _ h => h) (Or.inl ⟨by rfl, ?_⟩) (by assumption) ?_
              · intro wX hSw
                (try dsimp only at hSw)
                go_simp
              simp only [Act.put, List.setIfInBounds_toArray, List.set_cons_succ, List.set_cons_zero]
              refine wpAnyH_take (i := 4) (oi := Oper.mk (some 58) _ _ _ _ _) (v := .pointer (some ⟨b, o + i * 3, none⟩)) rfl (by kernel_rfl) (by kernel_rfl) (by kernel_rfl) (fun _ _ _ h => h) (Or.inl ⟨by rfl, ?_⟩) (by assumption) ?_
              · intro wX hSw
                (try dsimp only at hSw)
                go_simp
              simp only [Act.put, List.setIfInBounds_toArray, List.set_cons_succ, List.set_cons_zero]
              refine wpAnyH_take (i := 5) (oi := Oper.mk (some 59) _ _ _ _ _) (v := .agg #[.int .i64 yf, .int .i64 ya, .int .i64 yb]) rfl (by kernel_rfl) (by kernel_rfl) (by kernel_rfl) (fun _ _ _ h => h) (Or.inl ⟨by rfl, ?_⟩) (by assumption) ?_
              · intro wX hSw
                (try dsimp only at hSw)
                obtain ⟨d0, d1, d2⟩ := CJ.out _ hSw
                go_simp
              simp only [Act.put, List.setIfInBounds_toArray, List.set_cons_succ, List.set_cons_zero]
              refine wpAnyH_ready (rs := [6]) (by kernel_rfl) (by simp) ?_
              refine AllReadyH.cons (o := Oper.mk (some 60) _ _ _ _ _) rfl (fun K hK => ?_) AllReadyH.nil
              go_simp
              refine (CX.out ⟨sf, sa, sb⟩ ⟨yf, ya, yb⟩ _).mono ?_
              rintro e y3 ⟨rfl, hb⟩
              refine hK.out _ _ ?_ (fun hHeld => ?_)
              · exact hHeld.trans (hb.mono hHeld.size)
              clear hK K
              refine wpAnyH_done (by kernel_rfl) ?_ _
              have BE := hide hHeld
              clear hHeld CX CJ
              cases hcx : crsB ⟨sf, sa, sb⟩ ⟨yf, ya, yb⟩ with
              | true =>
                have NO : Hid (¬ WrOk t l ⟨sf, sa, sb⟩) := hide (fun h => by have q := h.2.2 i hil; rw [← HY.out, hcx] at q; cases q)
                have B6 := hide (B5.out.trans (BE.out.mono B5.out.size))
                have BR6 := hide (BR5.out.below BE.out BR5.out.lt)
                clear OK OS x0 x1
                have r0 := BR6.out.cell 0
                have r1 := BR6.out.cell 1
                have q0 := BR6.out.free 0
                have q1 := BR6.out.free 1
                (try simp only []); repeat (first | go_values | go_skip | go_guarded | go_step | go_upon)
                have BK := (BR6.out.setN 0 (.string ⟨#[]⟩)).setN 1 (.slice none 0 0)
                exact bodyPost_ret (results_out rfl _ _ _ _ _ rfl BK) rfl ⟨hide (.inl ⟨NO.out, rfl⟩), (B6.out.setCell (p := ⟨w.heap.size + 1, 0, none⟩) (Nat.le_succ _) _).setCell (p := ⟨w.heap.size + 1, 1, none⟩) (Nat.le_succ _) _⟩
              | false =>
                have OK2 : Hid (∀ m, m < i + 1 → crsB ⟨sf, sa, sb⟩ (gN spZ l m) = false) := hide (fun m hm => by
                  rcases Nat.lt_or_ge m i with q | q
                  · exact OK.out m q
                  · obtain rfl : m = i := by omega
                    rw [← HY.out]; exact hcx)
                have BG := hide (BQ.out.trans (BE.out.mono BQ.out.size))
                clear OK
                go_wp2
                exact ⟨⟨i + 1, by omega, by go_num, BG, OK2⟩, by simp [intOf]; omega⟩
          · obtain rfl : i = n := by omega
            have hlt' : ¬ (i : Int) < (i : Int) := by omega
            have YES : Hid (WrOk t l ⟨sf, sa, sb⟩) := hide ⟨HM.out, OS.out, fun j hj => OK.out j (by rw [HN.out]; exact hj)⟩
            have CU : Hid (∀ X, Below w.heap.size w X → Calls Tryd.prog 29 #[.slice ao i cap, .agg #[.int .i64 sf, .int .i64 sa, .int .i64 sb]] X fun e w' => Hid (∃ uo uc, e = .returned (.slice uo (i + 1) uc) ∧ OwnS X.heap.size w' (.slice uo (i + 1) uc) (rputL ⟨sf, sa, sb⟩ l)) ∧ Below X.heap.size X w') := hide (fun X hX => by rw [HN.out]; exact rPut_any _ l ⟨sf, sa, sb⟩ X (by rw [← HN.out]; exact HV.out.below hX) HL.out)
            have W5 := hide (show WS w t (.slice ao i cap) sf sa sb wr.drew from ⟨B5.out.drew, BX5.out, BS5.out⟩)
            have K5 := hide (show Blk wr.drew (w.heap.size + 1) #[.string ⟨#[]⟩, .slice none 0 0] 25 from BR5.out)
            clear OK OS HM HV BX5 BS5 BR5 B5
            go_wp2_with fail
            clear x0 x1
            refine wp_region_held_drew (S := fun Y => WS w t (.slice ao i cap) sf sa sb Y) (by kernel_rfl) ?_ (fun hHeld => ?_)
            · exact W5.out
            refine wpAnyH_take (i := 0) (oi := Oper.mk (some 62) _ _ _ _ _) (v := .pointer (some ⟨w.heap.size, 0, none⟩)) rfl (by kernel_rfl) (by kernel_rfl) (by kernel_rfl) (fun _ _ _ h => h) (Or.inl ⟨by rfl, ?_⟩) (by assumption) ?_
            · intro wX hSw
              (try dsimp only at hSw)
              go_simp
            simp only [Act.put, List.setIfInBounds_toArray, List.set_cons_succ, List.set_cons_zero]
            refine wpAnyH_take (i := 1) (oi := Oper.mk (some 63) _ _ _ _ _) (v := .string t) rfl (by kernel_rfl) (by kernel_rfl) (by kernel_rfl) (fun _ _ _ h => h) (Or.inl ⟨by rfl, ?_⟩) (by assumption) ?_
            · intro wX hSw
              (try dsimp only at hSw)
              have q0 := hSw.box.cell 0; have q1 := hSw.box.cell 1; have p0 := hSw.spn.cell 0; have p1 := hSw.spn.cell 1; have p2 := hSw.spn.cell 2
              go_simp
            simp only [Act.put, List.setIfInBounds_toArray, List.set_cons_succ, List.set_cons_zero]
            refine wpAnyH_take (i := 2) (oi := Oper.mk (some 64) _ _ _ _ _) (v := .pointer (some ⟨w.heap.size, 1, none⟩)) rfl (by kernel_rfl) (by kernel_rfl) (by kernel_rfl) (fun _ _ _ h => h) (Or.inl ⟨by rfl, ?_⟩) (by assumption) ?_
            · intro wX hSw
              (try dsimp only at hSw)
              go_simp
            simp only [Act.put, List.setIfInBounds_toArray, List.set_cons_succ, List.set_cons_zero]
            refine wpAnyH_take (i := 3) (oi := Oper.mk (some 65) _ _ _ _ _) (v := .slice ao i cap) rfl (by kernel_rfl) (by kernel_rfl) (by kernel_rfl) (fun _ _ _ h => h) (Or.inl ⟨by rfl, ?_⟩) (by assumption) ?_
            · intro wX hSw
              (try dsimp only at hSw)
              have q0 := hSw.box.cell 0; have q1 := hSw.box.cell 1; have p0 := hSw.spn.cell 0; have p1 := hSw.spn.cell 1; have p2 := hSw.spn.cell 2
              go_simp
            simp only [Act.put, List.setIfInBounds_toArray, List.set_cons_succ, List.set_cons_zero]
            refine wpAnyH_take (i := 4) (oi := Oper.mk (some 66) _ _ _ _ _) (v := .agg #[.int .i64 sf, .int .i64 sa, .int .i64 sb]) rfl (by kernel_rfl) (by kernel_rfl) (by kernel_rfl) (fun _ _ _ h => h) (Or.inl ⟨by rfl, ?_⟩) (by assumption) ?_
            · intro wX hSw
              (try dsimp only at hSw)
              have q0 := hSw.box.cell 0; have q1 := hSw.box.cell 1; have p0 := hSw.spn.cell 0; have p1 := hSw.spn.cell 1; have p2 := hSw.spn.cell 2
              go_simp
            simp only [Act.put, List.setIfInBounds_toArray, List.set_cons_succ, List.set_cons_zero]
            refine wpAnyH_ready (rs := [5]) (by kernel_rfl) (by simp) ?_
            refine AllReadyH.cons (o := Oper.mk (some 67) _ _ _ _ _) rfl (fun K hK => ?_) AllReadyH.nil
            go_simp
            refine (CU.out _ hHeld.bel).mono ?_
            rintro e y3 ⟨HE, hb⟩
            obtain ⟨uo, uc, rfl, ho⟩ := HE.out
            have OW : Hid (OwnS (w.heap.size + 2) y3 (.slice uo (i + 1) uc) (putS ⟨sf, sa, sb⟩ l)) := hide (by rw [← rput_put]; exact ownF_mono ho (Nat.le_of_lt hHeld.spn.lt))
            have K6 := hide (K5.out.below hb K5.out.lt)
            have W6 := hide (hHeld.below hb)
            clear ho HE hb
            refine hK.out _ _ ?_ (fun hHeld => ?_)
            · exact W6.out
            clear hK K
            refine wpAnyH_take (i := 6) (oi := Oper.mk (some 68) _ _ _ _ _) (v := .agg #[.string t, .slice uo (i + 1) uc]) rfl (by kernel_rfl) (by kernel_rfl) (by kernel_rfl) (fun _ _ _ h => h) (Or.inl ⟨by rfl, ?_⟩) (by assumption) ?_
            · intro wX hSw
              (try dsimp only at hSw)
              go_simp
            simp only [Act.put, List.setIfInBounds_toArray, List.set_cons_succ, List.set_cons_zero]
            have r0 := K6.out.cell 0
            have r1 := K6.out.cell 1
            have q0 := K6.out.free 0
            have q1 := K6.out.free 1
            clear hHeld
            refine wpAnyH_ready (rs := [7]) (by kernel_rfl) (by simp) ?_
            refine AllReadyH.cons (o := Oper.mk none _ _ _ _ _) rfl (fun K hK => ?_) AllReadyH.nil
            go_simp
            refine hK.out _ _ ?_ (fun hHeld => ?_)
            · exact (W6.out.set 0 _).set 1 _
            clear hK K
            refine wpAnyH_take (i := 8) (oi := Oper.mk (some 9) _ _ _ _ _) (v := .int .i64 0) rfl (by kernel_rfl) (by kernel_rfl) (by kernel_rfl) (fun _ _ _ h => h) (Or.inl ⟨by rfl, ?_⟩) (by assumption) ?_
            · intro wX hSw
              (try dsimp only at hSw)
              go_simp
            simp only [Act.put, List.setIfInBounds_toArray, List.set_cons_succ, List.set_cons_zero]
            refine wpAnyH_done (by kernel_rfl) ?_ _
            clear hHeld CU
            (try simp only []); repeat (first | go_values | go_skip | go_guarded | go_step | go_upon)
            have BK := (K6.out.setN 0 (.string t)).setN 1 (.slice uo (i + 1) uc)
            refine bodyPost_ret (results_out rfl _ _ _ _ _ rfl BK) rfl ⟨hide (.inr ⟨YES.out, uo, uc, ?_, ?_⟩), ((W6.out.set 0 _).set 1 _).bel⟩
            · rw [← HN.out]; rfl
            · rw [← HN.out]; exact ownF_mono (ownF_set (ownF_set OW.out (Nat.lt_succ_self _)) (Nat.lt_succ_self _)) (by omega)

end Go.Proofs.YtkgapklhgkngnaaDoor

namespace Go.Proofs.YtkgapklhgkngnaaDoor
open Go.RowKit

theorem results_o1 {fn : Func} {a : Tmp} (h : fn.results = #[.cell a 25]) (tmps : Array Value) (H : Nat) (x0 x1 : Value) (w : World) (ht : tmps.getD a undef = .pointer (some ⟨H, 0, none⟩)) (hp : Blk w H #[x0, x1] 25) :
    (results fn tmps).run Tryd.prog w = .ok (.agg #[x0, x1]) w := by
  have c0 := hp.cell 0
  have c1 := hp.cell 1
  simp at c0 c1
  rw [Array.getD_eq_getD_getElem?] at ht
  simp [results, h, ht, go_sem, c0, c1]
structure WO (w : World) (t : ByteArray) (sv : Value) (Y : World) : Prop where
  bel : Below w.heap.size w Y
  box : Blk Y w.heap.size #[.string t, sv] 25
theorem WO.below {w : World} {t : ByteArray} {sv : Value} {Y Z : World} (h : WO w t sv Y) (hb : Below Y.heap.size Y Z) : WO w t sv Z := ⟨h.bel.trans (hb.mono h.bel.size), h.box.below hb h.box.lt⟩
theorem WO.set {w : World} {t : ByteArray} {sv : Value} {Y : World} (h : WO w t sv Y) (k : Nat) (u : Value) : WO w t sv (Y.setCell ⟨w.heap.size + 1, k, none⟩ u) :=
  ⟨h.bel.setCell (p := ⟨w.heap.size + 1, k, none⟩) (Nat.le_succ _) u, h.box.setne (a := ⟨w.heap.size + 1, k, none⟩) (by show ¬ w.heap.size + 1 = w.heap.size; omega) u⟩
theorem blk_keptO {w w' : World} {g B n k : Nat} {cs : Array Value} {t e : TypeId} {v : Value} {xs : List Value} (h : Blk w g cs t) (ho : w.ownsRow B e k v n xs) (hB : g < B) (hg : w.grownBy w' v.ownBlock) : Blk w' g cs t := by
  unfold Blk at *
  rw [hg.block g (lt_of_block h) (fun q => by have := (World.ownsRow.lt ho g q.symm).1; omega)]
  exact h
def sp77 : Sp := ⟨77, 0, 0⟩
theorem news77 (X : World) (g : Nat) (h : Blk X g #[.int .i64 77, .int .i64 0, .int .i64 0] 31) : ∀ (j : Nat) (u : Value), ([.int .i64 77, .int .i64 0, .int .i64 0] : List Value)[j]? = some u → X.cell? ((⟨g, 0, none⟩ : Addr).add j) = some u := fun j u hj => by
  rw [Addr.add_lit, Nat.zero_add, h.cell j]
  simpa using hj
theorem one77 : ∀ u ∈ ([.int .i64 77, .int .i64 0, .int .i64 0] : List Value), u.oneCell' = true := fun u hu => by
  simp only [List.mem_cons, List.mem_nil_iff, or_false] at hu
  rcases hu with rfl | rfl | rfl <;> rfl

set_option maxRecDepth 100000 in
set_option maxHeartbeats 8000000 in
theorem own_c (t : ByteArray) (v : Value) (l : List Sp) (w : World) (hv : SpV w v l) (hno : NilOr v) (hl : (l.length + 2) * 32 ≤ 140737488355328) :
    Calls Tryd.prog 12 #[.agg #[.string t, v]] w fun e w' => (∃ g c, e = .returned (.agg #[.string t, .slice (some ⟨g, 0, none⟩) l.length c]) ∧ l.length + 1 ≤ c ∧ Hid (OwnS w.heap.size w' (.slice (some ⟨g, 0, none⟩) (l.length + 1) c) (l ++ [sp77]))) ∧ Hid (Below w.heap.size w w') := by
  have HV := hide hv
  have HNO := hide hno
  obtain ⟨ao, cap, rfl⟩ := hv.len
  obtain ⟨n, hn⟩ : ∃ n, n = l.length := ⟨_, rfl⟩
  rw [← hn] at HV HNO hl ⊢
  have HN := hide hn
  have LM : Hid (n * 24 ≤ 140737488355328 ∧ (n + 1) * 24 ≤ 140737488355328) := hide (by omega)
  obtain ⟨i0, hi, hz0, hz1, hz2⟩ := info_parts infoSp
  obtain ⟨A1, hA1⟩ : ∃ A1, A1 = w.alloc (.cells #[.string t, .slice ao n cap] 25) := ⟨_, rfl⟩
  obtain ⟨A2, hA2⟩ : ∃ A2, A2 = A1.alloc (.cells #[.string ⟨#[]⟩, .slice none 0 0] 25) := ⟨_, rfl⟩
  obtain ⟨W3, hW3⟩ : ∃ W3, W3 = A2.alloc (.cells #[] 31) := ⟨_, rfl⟩
  have z1 : A1.heap.size = w.heap.size + 1 := by rw [hA1, allocW_size]
  have z2 : A2.heap.size = w.heap.size + 2 := by rw [hA2, allocW_size, z1]
  have a1 : Below w.heap.size w A1 := by rw [hA1]; exact (Below.refl _ _).alloc (Nat.le_refl _) _
  have a2 : Below A1.heap.size A1 A2 := by rw [hA2]; exact (Below.refl _ _).alloc (Nat.le_refl _) _
  have a3 : Below A2.heap.size A2 W3 := by rw [hW3]; exact (Below.refl _ _).alloc (Nat.le_refl _) _
  have k1 : Blk A1 w.heap.size #[.string t, .slice ao n cap] 25 := by rw [hA1]; exact Blk.newAt w _ rfl _ _
  have k2 : Blk A2 (w.heap.size + 1) #[.string ⟨#[]⟩, .slice none 0 0] 25 := by rw [hA2]; exact Blk.newAt _ _ z1 _ _
  have O3 : Hid (OwnS (w.heap.size + 2) W3 (.slice (some ⟨w.heap.size + 2, 0, none⟩) 0 0) []) := hide (by
    have q := World.ownsRow_made A2 (base := w.heap.size + 2) #[] 0 (by omega) (by decide) (e := 31) (size := 3) rfl
    rw [z2] at q; rw [hW3]; exact q)
  have WO3 := hide (show WO w t (.slice ao n cap) W3 from ⟨(a1.trans (a2.mono a1.size)).trans (a3.mono (Nat.le_trans a1.size a2.size)), (k1.below a2 k1.lt).below a3 (Nat.lt_of_lt_of_le k1.lt a2.size)⟩)
  have K3 := hide (k2.below a3 k2.lt)
  have HV3 := hide (HV.out.below WO3.out.bel)
  have BASE := hide (show w.heap.size + 2 ≤ W3.heap.size by rw [← z2]; exact a3.size)
  have HW : Hid (((w.alloc (.cells #[.string t, .slice ao n cap] 25)).alloc (.cells #[.string ⟨#[]⟩, .slice none 0 0] 25)).alloc (.cells #[] 31) = W3) := hide (by rw [hW3, hA2, hA1])
  have LN : Hid (([] : List Sp).length + l.length = n) := hide (by rw [HN.out]; simp)
  have x0 := WO3.out.box.cell 0
  have x1 := WO3.out.box.cell 1
  have hnb : n ≤ 140737488355328 := by omega
  clear hv hno hn hl hW3 hA1 hA2 z1 z2 a1 a2 a3 k1 k2 A1 A2
  go_enter Tryd.func12, Tryd.ntmps12
  go_wp2_with (first | simp only [HW.out] | (at_builtin; refine wpSp_appendL rfl _ _ rfl (w.heap.size + 2) (.slice (some ⟨w.heap.size + 2, 0, none⟩) 0 0) [] rfl O3.out (.slice ao n cap) l (by rfl) HV3.out HNO.out n LN.out LM.out.1 BASE.out ?_; intro uo uc y1 hown hgr))
  have WO4 := hide (show WO w t (.slice ao n cap) y1 from ⟨WO3.out.bel.grown hgr WO3.out.bel.size (fun q hq => by have := (World.ownsRow.lt O3.out q hq).1; omega), blk_keptO WO3.out.box O3.out (by omega) hgr⟩)
  have K4 := hide (blk_keptO K3.out O3.out (by omega) hgr)
  have O4 : Hid (OwnS (w.heap.size + 2) y1 (.slice uo n uc) l) := hide (by simpa using hown)
  clear hown hgr WO3 K3 O3 HV3 BASE HW LN x0 x1 HV HNO
  obtain ⟨Z, hZ⟩ : ∃ Z, Z = (y1.alloc (.cells #[.int .i64 77, .int .i64 0, .int .i64 0] 31)).drew := ⟨_, rfl⟩
  have bZ : Below y1.heap.size y1 Z := by rw [hZ]; exact ((Below.refl _ _).alloc (Nat.le_refl _) _).drew
  have TB : Hid (Blk Z y1.heap.size #[.int .i64 77, .int .i64 0, .int .i64 0] 31) := hide (by rw [hZ]; exact Blk.newAt y1 _ rfl _ _)
  have WZ := hide (WO4.out.below bZ)
  have KZ := hide (K4.out.below bZ K4.out.lt)
  have OZ := hide (ownF_below O4.out bZ)
  have BZ := hide (show w.heap.size + 2 ≤ Z.heap.size from Nat.le_trans K4.out.lt bZ.size)
  have HZ := hide hZ.symm
  clear hZ bZ
  refine wp_region_held_drew (S := fun Y => WO w t (.slice ao n cap) Y) (by kernel_rfl) ?_ (fun hHeld => ?_)
  · exact (WO4.out.below (Below.refl _ _).drew)
  refine wpAnyH_take (i := 0) (oi := Oper.mk (some 8) _ _ _ _ _) (v := .pointer (some ⟨w.heap.size, 0, none⟩)) rfl (by kernel_rfl) (by kernel_rfl) (by kernel_rfl) (fun _ _ _ h => h) (Or.inl ⟨by rfl, ?_⟩) (by assumption) ?_
  · intro wX hSw
    (try dsimp only at hSw)
    go_simp
  simp only [Act.put, List.setIfInBounds_toArray, List.set_cons_succ, List.set_cons_zero]
  refine wpAnyH_take (i := 1) (oi := Oper.mk (some 9) _ _ _ _ _) (v := .string t) rfl (by kernel_rfl) (by kernel_rfl) (by kernel_rfl) (fun _ _ _ h => h) (Or.inl ⟨by rfl, ?_⟩) (by assumption) ?_
  · intro wX hSw
    (try dsimp only at hSw)
    have q0 := hSw.box.cell 0; have q1 := hSw.box.cell 1
    go_simp
  simp only [Act.put, List.setIfInBounds_toArray, List.set_cons_succ, List.set_cons_zero]
  refine wpAnyH_take (i := 2) (oi := Oper.mk (some 10) _ _ _ _ _) (v := .slice uo n uc) rfl (by kernel_rfl) (by kernel_rfl) (by kernel_rfl) (fun _ _ _ h => h) (Or.inl ⟨by rfl, ?_⟩) (by assumption) ?_
  · intro wX hSw
    (try dsimp only at hSw)
    go_simp
  simp only [Act.put, List.setIfInBounds_toArray, List.set_cons_succ, List.set_cons_zero]
  refine wpAnyH_take (i := 3) (oi := Oper.mk (some 11) _ _ _ _ _) (v := .agg #[.int .i64 77, .int .i64 0, .int .i64 0]) rfl (by kernel_rfl) (by kernel_rfl) (by kernel_rfl) (fun _ _ _ h => h) (Or.inl ⟨by rfl, ?_⟩) (by assumption) ?_
  · intro wX hSw
    (try dsimp only at hSw)
    go_simp
  simp only [Act.put, List.setIfInBounds_toArray, List.set_cons_succ, List.set_cons_zero]
  refine wpAnyH_take (i := 6) (oi := Oper.mk (some 14) _ _ _ _ _) (v := .pointer (some ⟨w.heap.size, 1, none⟩)) rfl (by kernel_rfl) (by kernel_rfl) (by kernel_rfl) (fun _ _ _ h => h) (Or.inl ⟨by rfl, ?_⟩) (by assumption) ?_
  · intro wX hSw
    (try dsimp only at hSw)
    go_simp
  simp only [Act.put, List.setIfInBounds_toArray, List.set_cons_succ, List.set_cons_zero]
  refine wpAnyH_take (i := 7) (oi := Oper.mk (some 15) _ _ _ _ _) (v := .slice ao n cap) rfl (by kernel_rfl) (by kernel_rfl) (by kernel_rfl) (fun _ _ _ h => h) (Or.inl ⟨by rfl, ?_⟩) (by assumption) ?_
  · intro wX hSw
    (try dsimp only at hSw)
    have q0 := hSw.box.cell 0; have q1 := hSw.box.cell 1
    go_simp
  simp only [Act.put, List.setIfInBounds_toArray, List.set_cons_succ, List.set_cons_zero]
  refine wpAnyH_take (i := 8) (oi := Oper.mk (some 16) _ _ _ _ _) (v := .int .i64 (n : Int)) rfl (by kernel_rfl) (by kernel_rfl) (by kernel_rfl) (fun _ _ _ h => h) (Or.inl ⟨by rfl, ?_⟩) (by assumption) ?_
  · intro wX hSw
    (try dsimp only at hSw)
    go_simp
  simp only [Act.put, List.setIfInBounds_toArray, List.set_cons_succ, List.set_cons_zero]
  refine wpAnyH_ready (rs := [4]) (by kernel_rfl) (by simp) ?_
  refine AllReadyH.cons (o := Oper.mk (some 12) _ _ _ _ _) rfl (fun K hK => ?_) AllReadyH.nil
  go_simp
  simp only [HZ.out]
  refine hK.out _ _ ?_ (fun hHeld => ?_)
  · exact WZ.out
  clear hK K
  refine wpAnyH_ready (rs := [5]) (by kernel_rfl) (by simp) ?_
  refine AllReadyH.cons (o := Oper.mk (some 13) _ _ _ _ _) rfl (fun K hK => ?_) AllReadyH.nil
  refine step_append_lies _ (by rfl) _ _ _ (by rfl) (w.heap.size + 2) 31 i0 (.agg #[.int .i64 0, .int .i64 0, .int .i64 0]) 3 24 Tryd.underlying23 hi hz0 hz1 hz2 rfl (by decide) (.slice uo n uc) n (cellsS l) (by rfl) (by rw [HN.out]; rw [HN.out] at OZ; exact OZ.out) ⟨y1.heap.size, 0, none⟩ 1 1 [.int .i64 77, .int .i64 0, .int .i64 0] (by rfl) rfl (news77 _ _ TB.out) one77 (by decide) (by unfold maxLen; omega) LM.out.2 BZ.out _ rfl ?_
  intro g cp y2 hown hgr hat hlt
  have W2 := hide (show WO w t (.slice ao n cap) y2 from ⟨WZ.out.bel.grown hgr WZ.out.bel.size (fun q hq => by have := (World.ownsRow.lt OZ.out q hq).1; omega), blk_keptO WZ.out.box OZ.out (by omega) hgr⟩)
  have K2 := hide (blk_keptO KZ.out OZ.out (by omega) hgr)
  have O2 : Hid (OwnS (w.heap.size + 2) y2 (.slice (some ⟨g, 0, none⟩) (n + 1) cp) (l ++ [sp77])) := hide (by unfold OwnS; rw [cellsS_app, List.length_append, ← HN.out]; exact hown)
  have hcp : n + 1 ≤ cp := by obtain ⟨g2, c2, hv2, _, _, q⟩ := ownF_some hown (by omega); simp only [Value.slice.injEq] at hv2; rw [hv2.2.2]; exact q
  clear hown hgr hat hlt
  refine hK.out _ _ ?_ (fun hHeld => ?_)
  · exact W2.out
  clear hK K
  refine wpAnyH_take (i := 9) (oi := Oper.mk (some 17) _ _ _ _ _) (v := .slice (some ⟨g, 0, none⟩) n cp) rfl (by kernel_rfl) (by kernel_rfl) (by kernel_rfl) (fun _ _ _ h => h) (Or.inl ⟨by rfl, ?_⟩) (by assumption) ?_
  · intro wX hSw
    (try dsimp only at hSw)
    have hk1 : (n : Int) ≤ (cp : Int) := (by omega); have hk2 : (0 : Int) ≤ (n : Int) := (by omega)
    go_simp
  simp only [Act.put, List.setIfInBounds_toArray, List.set_cons_succ, List.set_cons_zero]
  refine wpAnyH_take (i := 10) (oi := Oper.mk (some 18) _ _ _ _ _) (v := .agg #[.string t, .slice (some ⟨g, 0, none⟩) n cp]) rfl (by kernel_rfl) (by kernel_rfl) (by kernel_rfl) (fun _ _ _ h => h) (Or.inl ⟨by rfl, ?_⟩) (by assumption) ?_
  · intro wX hSw
    (try dsimp only at hSw)
    go_simp
  simp only [Act.put, List.setIfInBounds_toArray, List.set_cons_succ, List.set_cons_zero]
  have r0 := K2.out.cell 0
  have r1 := K2.out.cell 1
  have f0 := K2.out.free 0
  have f1 := K2.out.free 1
  clear hHeld
  refine wpAnyH_ready (rs := [11]) (by kernel_rfl) (by simp) ?_
  refine AllReadyH.cons (o := Oper.mk none _ _ _ _ _) rfl (fun K hK => ?_) AllReadyH.nil
  go_simp
  refine hK.out _ _ ?_ (fun hHeld => ?_)
  · exact (W2.out.set 0 _).set 1 _
  clear hK K
  refine wpAnyH_done (by kernel_rfl) ?_ _
  clear hHeld
  (try simp only []); repeat (first | go_values | go_skip | go_guarded | go_step | go_upon)
  have BK := (K2.out.setN 0 (.string t)).setN 1 (.slice (some ⟨g, 0, none⟩) n cp)
  exact bodyPost_ret (results_o1 rfl _ _ _ _ _ rfl BK) rfl ⟨⟨g, cp, rfl, hcp, hide (ownF_mono (ownF_set (ownF_set O2.out (by omega)) (by omega)) (by omega))⟩, hide ((W2.out.set 0 _).set 1 _).bel⟩

set_option maxRecDepth 100000 in
set_option maxHeartbeats 8000000 in
theorem kept_c (t : ByteArray) (g c : Nat) (v : Value) (l : List Sp) (w : World) (B : Nat) (ho : OwnS B w (.slice (some ⟨g, 0, none⟩) (l.length + 1) c) (l ++ [sp77])) (hc : l.length + 1 ≤ c) (hv : SpV w v l) (hl : l.length ≤ 140737488355328) :
    Calls Tryd.prog 17 #[.agg #[.string t, .slice (some ⟨g, 0, none⟩) l.length c], .agg #[.string t, v]] w fun e w' => e = .returned (.bool true) ∧ Below w.heap.size w w' := by
  have HV := hide hv
  have OC : Hid (SpV w (.slice (some ⟨g, 0, none⟩) l.length c) l) := hide (by have q := OwnS.cut ho rfl; exact q.spv)
  have LC := (OwnS.last ho rfl).1
  have hg : g < w.heap.size := (World.ownsRow.lt ho g rfl).2
  obtain ⟨ao, cap, rfl⟩ := hv.len
  obtain ⟨n, hn⟩ : ∃ n, n = l.length := ⟨_, rfl⟩
  rw [← hn] at HV OC LC hc hl ⊢
  have HN := hide hn
  obtain ⟨W1, hW1⟩ : ∃ W1, W1 = (w.alloc (.cells #[.string t, .slice (some ⟨g, 0, none⟩) n c] 25)).alloc (.cells #[.string t, .slice ao n cap] 25) := ⟨_, rfl⟩
  have b1 : Below w.heap.size w (w.alloc (.cells #[.string t, .slice (some ⟨g, 0, none⟩) n c] 25)) := (Below.refl _ _).alloc (Nat.le_refl _) _
  have b2 : Below (w.alloc (.cells #[.string t, .slice (some ⟨g, 0, none⟩) n c] 25)).heap.size (w.alloc (.cells #[.string t, .slice (some ⟨g, 0, none⟩) n c] 25)) W1 := by rw [hW1]; exact (Below.refl _ _).alloc (Nat.le_refl _) _
  have k1 : Blk (w.alloc (.cells #[.string t, .slice (some ⟨g, 0, none⟩) n c] 25)) w.heap.size #[.string t, .slice (some ⟨g, 0, none⟩) n c] 25 := Blk.newAt w _ rfl _ _
  have X1 := hide (k1.below b2 k1.lt)
  have Y1 : Hid (Blk W1 (w.heap.size + 1) #[.string t, .slice ao n cap] 25) := hide (by rw [hW1]; exact Blk.newAt _ _ (allocW_size _ _) _ _)
  have B1 := hide (b1.trans (b2.mono b1.size))
  have CS := hide (fun (X : World) (hX : Below W1.heap.size W1 X) => Same_true t (.slice (some ⟨g, 0, none⟩) n c) (.slice ao n cap) l X (OC.out.below (B1.out.trans (hX.mono B1.out.size))) (HV.out.below (B1.out.trans (hX.mono B1.out.size))) (by rw [← hn]; exact hl))
  have CL : Hid (∀ X, Below W1.heap.size W1 X → X.cell? ⟨g, n * 3, none⟩ = some (.int .i64 77)) := hide (fun X hX => ((B1.out.trans (hX.mono B1.out.size)).cell (p := ⟨g, n * 3, none⟩) hg).trans LC)
  have HW := hide hW1.symm
  obtain ⟨k, hk⟩ : ∃ k, k = n + 1 := ⟨_, rfl⟩
  have hk1 : IntKind.i64.wrap ((n : Int) + 1) = (k : Int) := by rw [IntKind.wrap_i64]; omega
  have hk2 : (k : Int) ≤ (c : Int) := by omega
  have hk3 : (n : Int) < (k : Int) := by omega
  have hk4 : (0 : Int) ≤ (k : Int) := by omega
  clear ho hc hv hW1 b1 b2 k1 LC hn hk hl hg HV OC
  go_enter Tryd.func17, Tryd.ntmps17
  go_wp2_with (simp only [HW.out])
  refine wp_region_held_drew (S := fun Y => Below W1.heap.size W1 Y) (by kernel_rfl) ?_ (fun hHeld => ?_)
  · exact (Below.refl _ _).drew
  refine wpAnyH_take (i := 0) (oi := Oper.mk (some 5) _ _ _ _ _) (v := .agg #[.string t, .slice (some ⟨g, 0, none⟩) n c]) rfl (by kernel_rfl) (by kernel_rfl) (by kernel_rfl) (fun _ _ _ h => h) (Or.inl ⟨by rfl, ?_⟩) (by assumption) ?_
  · intro wX hSw
    (try dsimp only at hSw)
    have q0 := (X1.out.below hSw X1.out.lt).cell 0; have q1 := (X1.out.below hSw X1.out.lt).cell 1; have p0 := (Y1.out.below hSw Y1.out.lt).cell 0; have p1 := (Y1.out.below hSw Y1.out.lt).cell 1
    go_simp
  simp only [Act.put, List.setIfInBounds_toArray, List.set_cons_succ, List.set_cons_zero]
  refine wpAnyH_take (i := 1) (oi := Oper.mk (some 6) _ _ _ _ _) (v := .agg #[.string t, .slice ao n cap]) rfl (by kernel_rfl) (by kernel_rfl) (by kernel_rfl) (fun _ _ _ h => h) (Or.inl ⟨by rfl, ?_⟩) (by assumption) ?_
  · intro wX hSw
    (try dsimp only at hSw)
    have q0 := (X1.out.below hSw X1.out.lt).cell 0; have q1 := (X1.out.below hSw X1.out.lt).cell 1; have p0 := (Y1.out.below hSw Y1.out.lt).cell 0; have p1 := (Y1.out.below hSw Y1.out.lt).cell 1
    go_simp
  simp only [Act.put, List.setIfInBounds_toArray, List.set_cons_succ, List.set_cons_zero]
  refine wpAnyH_ready (rs := [2]) (by kernel_rfl) (by simp) ?_
  refine AllReadyH.cons (o := Oper.mk (some 7) _ _ _ _ _) rfl (fun K hK => ?_) AllReadyH.nil
  go_simp
  refine (CS.out _ hHeld).mono ?_
  rintro e y2 ⟨rfl, hb⟩
  refine hK.out _ _ ?_ (fun hHeld => ?_)
  · exact hHeld.trans (hb.mono hHeld.size)
  clear hK K
  refine wpAnyH_take (i := 3) (oi := Oper.mk (some 8) _ _ _ _ _) (v := .bool true) rfl (by kernel_rfl) (by kernel_rfl) (by kernel_rfl) (fun _ _ _ h => h) (Or.inl ⟨by rfl, ?_⟩) (by assumption) ?_
  · intro wX hSw
    (try dsimp only at hSw)
    go_simp
  simp only [Act.put, List.setIfInBounds_toArray, List.set_cons_succ, List.set_cons_zero]
  refine wpAnyH_take (i := 4) (oi := Oper.mk (some 9) _ _ _ _ _) (v := .pointer (some ⟨w.heap.size, 1, none⟩)) rfl (by kernel_rfl) (by kernel_rfl) (by kernel_rfl) (fun _ _ _ h => h) (Or.inl ⟨by rfl, ?_⟩) (by assumption) ?_
  · intro wX hSw
    (try dsimp only at hSw)
    go_simp
  simp only [Act.put, List.setIfInBounds_toArray, List.set_cons_succ, List.set_cons_zero]
  refine wpAnyH_take (i := 5) (oi := Oper.mk (some 10) _ _ _ _ _) (v := .slice (some ⟨g, 0, none⟩) n c) rfl (by kernel_rfl) (by kernel_rfl) (by kernel_rfl) (fun _ _ _ h => h) (Or.inl ⟨by rfl, ?_⟩) (by assumption) ?_
  · intro wX hSw
    (try dsimp only at hSw)
    have q0 := (X1.out.below hSw X1.out.lt).cell 0; have q1 := (X1.out.below hSw X1.out.lt).cell 1; have p0 := (Y1.out.below hSw Y1.out.lt).cell 0; have p1 := (Y1.out.below hSw Y1.out.lt).cell 1
    go_simp
  simp only [Act.put, List.setIfInBounds_toArray, List.set_cons_succ, List.set_cons_zero]
  refine wpAnyH_take (i := 6) (oi := Oper.mk (some 11) _ _ _ _ _) (v := .pointer (some ⟨w.heap.size + 1, 1, none⟩)) rfl (by kernel_rfl) (by kernel_rfl) (by kernel_rfl) (fun _ _ _ h => h) (Or.inl ⟨by rfl, ?_⟩) (by assumption) ?_
  · intro wX hSw
    (try dsimp only at hSw)
    go_simp
  simp only [Act.put, List.setIfInBounds_toArray, List.set_cons_succ, List.set_cons_zero]
  refine wpAnyH_take (i := 7) (oi := Oper.mk (some 12) _ _ _ _ _) (v := .slice ao n cap) rfl (by kernel_rfl) (by kernel_rfl) (by kernel_rfl) (fun _ _ _ h => h) (Or.inl ⟨by rfl, ?_⟩) (by assumption) ?_
  · intro wX hSw
    (try dsimp only at hSw)
    have q0 := (X1.out.below hSw X1.out.lt).cell 0; have q1 := (X1.out.below hSw X1.out.lt).cell 1; have p0 := (Y1.out.below hSw Y1.out.lt).cell 0; have p1 := (Y1.out.below hSw Y1.out.lt).cell 1
    go_simp
  simp only [Act.put, List.setIfInBounds_toArray, List.set_cons_succ, List.set_cons_zero]
  refine wpAnyH_take (i := 8) (oi := Oper.mk (some 13) _ _ _ _ _) (v := .int .i64 (n : Int)) rfl (by kernel_rfl) (by kernel_rfl) (by kernel_rfl) (fun _ _ _ h => h) (Or.inl ⟨by rfl, ?_⟩) (by assumption) ?_
  · intro wX hSw
    (try dsimp only at hSw)
    go_simp
  simp only [Act.put, List.setIfInBounds_toArray, List.set_cons_succ, List.set_cons_zero]
  refine wpAnyH_take (i := 9) (oi := Oper.mk (some 14) _ _ _ _ _) (v := .int .i64 (k : Int)) rfl (by kernel_rfl) (by kernel_rfl) (by kernel_rfl) (fun _ _ _ h => h) (Or.inl ⟨by rfl, ?_⟩) (by assumption) ?_
  · intro wX hSw
    (try dsimp only at hSw)
    go_simp
  simp only [Act.put, List.setIfInBounds_toArray, List.set_cons_succ, List.set_cons_zero]
  refine wpAnyH_take (i := 10) (oi := Oper.mk (some 15) _ _ _ _ _) (v := .slice (some ⟨g, 0, none⟩) k c) rfl (by kernel_rfl) (by kernel_rfl) (by kernel_rfl) (fun _ _ _ h => h) (Or.inl ⟨by rfl, ?_⟩) (by assumption) ?_
  · intro wX hSw
    (try dsimp only at hSw)
    go_simp
  simp only [Act.put, List.setIfInBounds_toArray, List.set_cons_succ, List.set_cons_zero]
  refine wpAnyH_take (i := 11) (oi := Oper.mk (some 16) _ _ _ _ _) (v := .pointer (some ⟨w.heap.size + 1, 1, none⟩)) rfl (by kernel_rfl) (by kernel_rfl) (by kernel_rfl) (fun _ _ _ h => h) (Or.inl ⟨by rfl, ?_⟩) (by assumption) ?_
  · intro wX hSw
    (try dsimp only at hSw)
    go_simp
  simp only [Act.put, List.setIfInBounds_toArray, List.set_cons_succ, List.set_cons_zero]
  refine wpAnyH_take (i := 12) (oi := Oper.mk (some 17) _ _ _ _ _) (v := .slice ao n cap) rfl (by kernel_rfl) (by kernel_rfl) (by kernel_rfl) (fun _ _ _ h => h) (Or.inl ⟨by rfl, ?_⟩) (by assumption) ?_
  · intro wX hSw
    (try dsimp only at hSw)
    have q0 := (X1.out.below hSw X1.out.lt).cell 0; have q1 := (X1.out.below hSw X1.out.lt).cell 1; have p0 := (Y1.out.below hSw Y1.out.lt).cell 0; have p1 := (Y1.out.below hSw Y1.out.lt).cell 1
    go_simp
  simp only [Act.put, List.setIfInBounds_toArray, List.set_cons_succ, List.set_cons_zero]
  refine wpAnyH_take (i := 13) (oi := Oper.mk (some 18) _ _ _ _ _) (v := .int .i64 (n : Int)) rfl (by kernel_rfl) (by kernel_rfl) (by kernel_rfl) (fun _ _ _ h => h) (Or.inl ⟨by rfl, ?_⟩) (by assumption) ?_
  · intro wX hSw
    (try dsimp only at hSw)
    go_simp
  simp only [Act.put, List.setIfInBounds_toArray, List.set_cons_succ, List.set_cons_zero]
  refine wpAnyH_take (i := 14) (oi := Oper.mk (some 19) _ _ _ _ _) (v := .pointer (some ⟨g, n * 3, none⟩)) rfl (by kernel_rfl) (by kernel_rfl) (by kernel_rfl) (fun _ _ _ h => h) (Or.inl ⟨by rfl, ?_⟩) (by assumption) ?_
  · intro wX hSw
    (try dsimp only at hSw)
    go_simp
  simp only [Act.put, List.setIfInBounds_toArray, List.set_cons_succ, List.set_cons_zero]
  refine wpAnyH_take (i := 15) (oi := Oper.mk (some 20) _ _ _ _ _) (v := .pointer (some ⟨g, n * 3, none⟩)) rfl (by kernel_rfl) (by kernel_rfl) (by kernel_rfl) (fun _ _ _ h => h) (Or.inl ⟨by rfl, ?_⟩) (by assumption) ?_
  · intro wX hSw
    (try dsimp only at hSw)
    go_simp
  simp only [Act.put, List.setIfInBounds_toArray, List.set_cons_succ, List.set_cons_zero]
  refine wpAnyH_take (i := 16) (oi := Oper.mk (some 21) _ _ _ _ _) (v := .int .i64 77) rfl (by kernel_rfl) (by kernel_rfl) (by kernel_rfl) (fun _ _ _ h => h) (Or.inl ⟨by rfl, ?_⟩) (by assumption) ?_
  · intro wX hSw
    (try dsimp only at hSw)
    have d0 := CL.out _ hSw
    go_simp
  simp only [Act.put, List.setIfInBounds_toArray, List.set_cons_succ, List.set_cons_zero]
  refine wpAnyH_take (i := 17) (oi := Oper.mk (some 22) _ _ _ _ _) (v := .bool true) rfl (by kernel_rfl) (by kernel_rfl) (by kernel_rfl) (fun _ _ _ h => h) (Or.inl ⟨by rfl, ?_⟩) (by assumption) ?_
  · intro wX hSw
    (try dsimp only at hSw)
    go_simp
  simp only [Act.put, List.setIfInBounds_toArray, List.set_cons_succ, List.set_cons_zero]
  refine wpAnyH_take (i := 18) (oi := Oper.mk (some 23) _ _ _ _ _) (v := .bool true) rfl (by kernel_rfl) (by kernel_rfl) (by kernel_rfl) (fun _ _ _ h => h) (Or.inl ⟨by rfl, ?_⟩) (by assumption) ?_
  · intro wX hSw
    (try dsimp only at hSw)
    go_simp
  simp only [Act.put, List.setIfInBounds_toArray, List.set_cons_succ, List.set_cons_zero]
  refine wpAnyH_take (i := 19) (oi := Oper.mk (some 4) _ _ _ _ _) (v := .bool true) rfl (by kernel_rfl) (by kernel_rfl) (by kernel_rfl) (fun _ _ _ h => h) (Or.inl ⟨by rfl, ?_⟩) (by assumption) ?_
  · intro wX hSw
    (try dsimp only at hSw)
    go_simp
  simp only [Act.put, List.setIfInBounds_toArray, List.set_cons_succ, List.set_cons_zero]
  refine wpAnyH_done (by kernel_rfl) ?_ _
  have BE := hide (B1.out.trans (hHeld.mono B1.out.size))
  clear hHeld CS CL HW X1 Y1 B1
  go_wp2
  go_ret
  exact ⟨rfl, BE.out⟩

end Go.Proofs.YtkgapklhgkngnaaDoor

namespace Go.Proofs.YtkgapklhgkngnaaDoor
open Go.RowKit

structure OvR (H D : Nat) (w : World) (T : ByteArray) (uo : Option Addr) (m uc : Nat) (wr : World) : Prop where
  bel : Below H w wr
  row : ∃ xs, wr.ownsRow H 31 3 (.slice uo m uc) m xs
  out : Blk wr D #[.string T, .slice uo m uc] 25
  lt : ∀ q, (Value.slice uo m uc).ownBlock = some q → q < D
  hD : H ≤ D
theorem OvR.put {H D : Nat} {w : World} {T : ByteArray} {g : Nat} {m uc : Nat} {wr : World} (h : OvR H D w T (some ⟨g, 0, none⟩) m uc wr) (p : Nat) (u : Value) : OvR H D w T (some ⟨g, 0, none⟩) m uc (wr.setCell ⟨g, p, none⟩ u) := by
  obtain ⟨xs, hx⟩ := h.row
  have hg := World.ownsRow.lt hx g rfl
  have hgD := h.lt g rfl
  exact ⟨h.bel.setCell (p := ⟨g, p, none⟩) hg.1 u, ⟨_, own_put hx rfl p u⟩, h.out.setne (a := ⟨g, p, none⟩) (by show ¬ g = D; omega) u, h.lt, h.hD⟩
theorem OvR.cells {H D : Nat} {w : World} {T : ByteArray} {uo : Option Addr} {m uc : Nat} {wr : World} (h : OvR H D w T uo m uc wr) (hm : 0 < m) : ∃ g, uo = some ⟨g, 0, none⟩ ∧ m ≤ uc ∧ ∀ p, p < m * 3 → (∃ u, wr.cell? ⟨g, p, none⟩ = some u) ∧ wr.frozen? ⟨g, p, none⟩ = false := by
  obtain ⟨xs, hx⟩ := h.row
  obtain ⟨g, c2, hv, h1, h2, h3⟩ := ownF_some hx (by omega)
  simp only [Value.slice.injEq] at hv
  obtain ⟨rfl, _, rfl⟩ := hv
  refine ⟨g, rfl, h3, fun p hp => ?_⟩
  obtain ⟨q1, q2⟩ := own_get hx p hp
  have hl : xs.length = m * 3 := hx.1
  exact ⟨⟨_, q1.trans (List.getElem?_eq_getElem (by omega))⟩, q2⟩

end Go.Proofs.YtkgapklhgkngnaaDoor
