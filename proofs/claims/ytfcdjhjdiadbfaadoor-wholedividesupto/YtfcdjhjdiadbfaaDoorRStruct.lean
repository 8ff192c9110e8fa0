/-
  What the reference's Make, In, Neg and Same do, and quipulaw02's in and is.
-/
import Derived.Test.YtfcdjhjdiadbfaaDoorRFresh
import Derived.Test.YtfcdjhjdiadbfaaDoorOut
namespace Go.Proofs.YtfcdjhjdiadbfaaDoor
open Go.RowKit

theorem Res.mono {k : IntKind} {W : World} {o : Option Addr} {x : List Nat} {lo hi lo' hi' : Nat} (h : Res k W o x lo hi) (h1 : lo' ≤ lo) (h2 : hi ≤ hi') : Res k W o x lo' hi' :=
  ⟨h.1, fun b f hx e => by have := h.2 b f hx e; omega⟩

/-- What the reference's functions answer: the number z in its one form, in new memory. -/
def RWPost (w : World) (m : Nat) (z : Int) (e : Ending) (w' : World) : Prop :=
  ∃ s o c r, Hid (s = decide (z < 0)) ∧ e = .returned (.agg #[.bool s, .slice o (List.length r) c]) ∧ List.length r ≤ c ∧ Res .u32 w' o r w.heap.size w'.heap.size ∧ Is 65536 r z.natAbs ∧ r.length ≤ m ∧ Below w.heap.size w w'

theorem zv_lt32 {neg : Bool} {n : Nat} {r : List Nat} (h : Is 65536 r n) : decide (zv neg n < 0) = (neg && decide (0 < r.length)) := by
  cases neg
  · simp [zv]
  · have : (0 < r.length) ↔ n ≠ 0 := by
      constructor
      · intro h1 h2
        have := num_zero (by decide) h.2.1 (h.2.2.trans h2)
        rw [this] at h1; simp at h1
      · intro h1
        rcases hr : r with _ | ⟨x, t⟩
        · rw [hr] at h; exact absurd h.2.2.symm h1
        · simp
    simp only [zv, if_true, Bool.true_and]
    by_cases hn : n = 0
    · subst hn; simp [this]
    · rw [decide_eq_true (by omega), decide_eq_true (this.2 hn)]

theorem results_pairR {fn : Func} {a : Tmp} (h : fn.results = #[.cell a 28]) (tmps : Array Value) (H : Nat) (x y : Value) (w : World) (ht : tmps.getD a undef = .pointer (some ⟨H, 0, none⟩)) (hp : Pair w H x y 28) :
    (results fn tmps).run Tryd.prog w = .ok (.agg #[x, y]) w := by
  have c0 := hp.cell0
  have c1 := hp.cell1
  rw [Array.getD_eq_getD_getElem?] at ht
  simp [results, h, ht, go_sem, c0, c1]

theorem RWPost.ret {w w2 : World} {m lo hi H c : Nat} {z : Int} {s : Bool} {o : Option Addr} {x y : Value} {r : List Nat} (hs : Hid (s = decide (z < 0))) (hle : r.length ≤ c) (hr : Res .u32 w2 o r lo hi) (h1 : w.heap.size ≤ H) (h2 : H < lo) (h3 : hi ≤ w2.heap.size) (his : Is 65536 r z.natAbs) (hm : r.length ≤ m) (hb : Below w.heap.size w w2) :
    RWPost w m z (.returned (.agg #[.bool s, .slice o r.length c])) ((w2.setCell ⟨H, 0, none⟩ x).setCell ⟨H, 1, none⟩ y) :=
  ⟨s, o, c, r, hs, rfl, hle, ((hr.set (.inl h2) _).set (.inl h2) _).mono (by omega) (by simpa [World.setCell] using h3), his, hm, (hb.setCell h1 _).setCell h1 _⟩


set_option maxHeartbeats 1000000 in
theorem rmake_f (o : Option Addr) (l c : Nat) (xs : List Nat) (w : World) (hl : l ≤ 100000000) (hx : xs.length = l) (hax : At .u32 w o xs) (ox : Ok 65536 xs) :
    Calls Tryd.prog 38 #[.bool false, .slice o l c] w (RWPost w (l + 1) (zv false (num 65536 xs))) := by
  have hb0 : Below w.heap.size w ((w.alloc (Obj.cells #[Value.bool false, Value.slice none 0 0] 28)).alloc (Obj.cells #[] 73)) := ((Below.refl _ _).alloc (Nat.le_refl _) _).alloc (by simp) _
  have p0 := (Pair.new w (.bool false) (.slice none 0 0) 28).alloc (Obj.cells #[] 73)
  have ha := (hax.alloc (Obj.cells #[Value.bool false, Value.slice none 0 0] 28)).alloc (Obj.cells #[] 73)
  go_enter Tryd.func38, Tryd.ntmps38
  go_wp2_with fail
  refine (radd_fresh o _ l c 0 0 xs [] _ hl (by omega) hx rfl ha (At.nil _ _ _) ox (Is.none (by decide)).1).mono ?_
  rintro e w1 ⟨o1, c1, r1, rfl, hl1, rs1, is1, hm1, hb1⟩
  rw [show num 65536 [] = 0 from rfl, Nat.add_zero] at is1
  have pr := p0.below hb1 p0.lt
  have hs := zv_lt32 (neg := false) is1
  have hbw := hb0.trans (hb1.mono hb0.size)
  have HS := hide hs
  have RS := hide rs1
  have HBW := hide hbw
  have HIS : Hid (Is 65536 r1 (zv false (num 65536 xs)).natAbs) := by rw [zv_abs]; exact is1
  have q0 := pr.cell0
  have q1 := pr.cell1
  have f0 := pr.free 0
  have f1 := pr.free 1
  have PR := hide pr
  clear hs rs1 hbw is1 hb1 p0 ha hax ox hb0 pr
  go_wp2
  refine bodyPost_ret (results_pairR rfl _ _ _ _ _ rfl (PR.out.put _ _)) rfl ?_
  exact RWPost.ret (s := false) (H := w.heap.size) (by show false = decide _; rw [HS.out]; rfl) hl1 RS.out (Nat.le_refl _) (by simp <;> omega) (Nat.le_refl _) HIS.out (by omega) HBW.out


set_option maxHeartbeats 1000000 in
theorem rmake_t (o : Option Addr) (l c : Nat) (xs : List Nat) (w : World) (hl : l ≤ 100000000) (hx : xs.length = l) (hax : At .u32 w o xs) (ox : Ok 65536 xs) :
    Calls Tryd.prog 38 #[.bool true, .slice o l c] w (RWPost w (l + 1) (zv true (num 65536 xs))) := by
  have hb0 : Below w.heap.size w ((w.alloc (Obj.cells #[Value.bool false, Value.slice none 0 0] 28)).alloc (Obj.cells #[] 73)) := ((Below.refl _ _).alloc (Nat.le_refl _) _).alloc (by simp) _
  have p0 := (Pair.new w (.bool false) (.slice none 0 0) 28).alloc (Obj.cells #[] 73)
  have ha := (hax.alloc (Obj.cells #[Value.bool false, Value.slice none 0 0] 28)).alloc (Obj.cells #[] 73)
  go_enter Tryd.func38, Tryd.ntmps38
  go_wp2_with fail
  refine (radd_fresh o _ l c 0 0 xs [] _ hl (by omega) hx rfl ha (At.nil _ _ _) ox (Is.none (by decide)).1).mono ?_
  rintro e w1 ⟨o1, c1, r1, rfl, hl1, rs1, is1, hm1, hb1⟩
  rw [show num 65536 [] = 0 from rfl, Nat.add_zero] at is1
  have pr := p0.below hb1 p0.lt
  have hs := zv_lt32 (neg := true) is1
  have hbw := hb0.trans (hb1.mono hb0.size)
  have HS := hide hs
  have RS := hide rs1
  have HBW := hide hbw
  have HIS : Hid (Is 65536 r1 (zv true (num 65536 xs)).natAbs) := by rw [zv_abs]; exact is1
  have q0 := pr.cell0
  have q1 := pr.cell1
  have f0 := pr.free 0
  have f1 := pr.free 1
  have PR := hide pr
  clear hs rs1 hbw is1 hb1 p0 ha hax ox hb0 pr
  go_wp2
  refine bodyPost_ret (results_pairR rfl _ _ _ _ _ rfl (PR.out.put _ _)) rfl ?_
  exact RWPost.ret (s := decide (0 < r1.length)) (H := w.heap.size) (by show decide (0 < r1.length) = decide _; rw [HS.out]; rfl) hl1 RS.out (Nat.le_refl _) (by simp <;> omega) (Nat.le_refl _) HIS.out (by omega) HBW.out


theorem rmake (neg : Bool) (o : Option Addr) (l c : Nat) (xs : List Nat) (w : World) (hl : l ≤ 100000000) (hx : xs.length = l) (hax : At .u32 w o xs) (ox : Ok 65536 xs) :
    Calls Tryd.prog 38 #[.bool neg, .slice o l c] w (RWPost w (l + 1) (zv neg (num 65536 xs))) := by
  cases neg
  · exact rmake_f o l c xs w hl hx hax ox
  · exact rmake_t o l c xs w hl hx hax ox

set_option maxHeartbeats 1000000 in
theorem rin_any (neg : Bool) (o : Option Addr) (l c : Nat) (xs : List Nat) (w : World) (hl : l ≤ 20000000) (hx : xs.length = l) (hax : At .u64 w o xs) (ox : Ok B64 xs) :
    Calls Tryd.prog 32 #[.bool neg, .slice o l c] w (RWPost w (4 * l + 1) (zv neg (num B64 xs))) := by
  have hb0 : Below w.heap.size w (w.alloc (Obj.cells #[Value.bool false, Value.slice none 0 0] 28)) := (Below.refl _ _).alloc (Nat.le_refl _) _
  have p0 := Pair.new w (.bool false) (.slice none 0 0) 28
  go_enter Tryd.func32, Tryd.ntmps32
  go_wp2_with fail
  refine (in_any o l c xs _ (by omega) hx (hax.alloc _) ox).mono ?_
  rintro e w1 ⟨o1, c1, y1, rfl, hl1, at1, is1, hm1, hb1⟩
  have p1 := p0.below hb1 p0.lt
  go_wp2_with fail
  refine (rmake neg o1 y1.length c1 y1 _ (by omega) rfl at1 is1.1).mono ?_
  rintro e w2 ⟨s, o2, c2, r2, hs, rfl, hl2, rs2, is2, hm2, hb2⟩
  rw [is1.2.2] at hs is2
  have pr := p1.below hb2 p1.lt
  have hlt := p1.lt
  have hbw := hb0.trans ((hb1.mono hb0.size).trans (hb2.mono (Nat.le_trans hb0.size hb1.size)))
  have q0 := pr.cell0
  have q1 := pr.cell1
  have f0 := pr.free 0
  have f1 := pr.free 1
  clear at1 is1 hb1 hb2 p0 p1 hax ox hb0
  go_wp2
  refine bodyPost_ret (results_pairR rfl _ _ _ _ _ rfl (pr.put _ _)) rfl ?_
  exact RWPost.ret (H := w.heap.size) hs hl2 rs2 (Nat.le_refl _) hlt (Nat.le_refl _) is2 (by omega) hbw

set_option maxHeartbeats 1000000 in
/-- quipulaw02.in: a number, for the document's answer. -/
theorem lawin (neg : Bool) (o : Option Addr) (l c : Nat) (xs : List Nat) (w : World) (hl : l ≤ 20000000) (hx : xs.length = l) (hax : At .u64 w o xs) (z : Int) (hz : Hid (NV neg xs z)) :
    Calls Tryd.prog 8 #[.agg #[.bool neg, .slice o l c]] w (RWPost w (4 * l + 1) z) := by
  have hb0 : Below w.heap.size w ((w.alloc (Obj.cells #[Value.bool neg, Value.slice o l c] 24)).alloc (Obj.cells #[Value.bool false, Value.slice none 0 0] 28)) := ((Below.refl _ _).alloc (Nat.le_refl _) _).alloc (by simp) _
  have p0 := Pair.newAt (w.alloc (Obj.cells #[Value.bool neg, Value.slice o l c] 24)) (w.heap.size + 1) (by simp) (.bool false) (.slice none 0 0) 28
  have ri := fun w h => rin_any neg o l c xs w hl hx h hz.out.1
  rw [hz.out.2] at ri
  have RI := hide ri
  clear ri
  go_enter Tryd.func8, Tryd.ntmps8
  go_wp2_with fail
  refine (RI.out _ ((hax.alloc _).alloc _)).mono ?_
  rintro e w2 ⟨s, o2, c2, r2, hs, rfl, hl2, rs2, is2, hm2, hb2⟩
  have pr := p0.below hb2 p0.lt
  have hlt := p0.lt
  have hbw := hb0.trans (hb2.mono hb0.size)
  have q0 := pr.cell0
  have q1 := pr.cell1
  have f0 := pr.free 0
  have f1 := pr.free 1
  clear hb2 p0 hax hb0 RI
  go_wp2
  refine bodyPost_ret (results_pairR rfl _ _ _ _ _ rfl (pr.put _ _)) rfl ?_
  exact RWPost.ret (H := w.heap.size + 1) hs hl2 rs2 (by omega) hlt (Nat.le_refl _) is2 hm2 hbw

/-- A sign and digits are the number z, in whatever form. -/
def NV32 (s : Bool) (x : List Nat) (z : Int) : Prop := Ok 65536 x ∧ zv s (num 65536 x) = z
/-- A sign and digits are the number z in its one form. -/
def NI32 (s : Bool) (x : List Nat) (z : Int) : Prop := s = decide (z < 0) ∧ Is 65536 x z.natAbs

theorem NI32.nv {s : Bool} {x : List Nat} {z : Int} (h : NI32 s x z) : NV32 s x z := by
  refine ⟨h.2.1, ?_⟩
  rw [h.2.2.2, h.1]
  unfold zv
  by_cases hz : z < 0
  · simp [hz]; omega
  · simp [hz]; omega

theorem NI32.mk {s : Bool} {x : List Nat} {z : Int} (h : Hid (s = decide (z < 0))) (hi : Is 65536 x z.natAbs) : NI32 s x z := ⟨h.out, hi⟩

set_option maxHeartbeats 1000000 in
theorem rnegz (neg : Bool) (o : Option Addr) (l c : Nat) (xs : List Nat) (w : World) (hl : l ≤ 100000000) (hx : xs.length = l) (hax : At .u32 w o xs) (z : Int) (hz : Hid (NV32 neg xs z)) :
    Calls Tryd.prog 13 #[.agg #[.bool neg, .slice o l c]] w (RWPost w (l + 1) (-z)) := by
  have hb0 : Below w.heap.size w ((w.alloc (Obj.cells #[Value.bool neg, Value.slice o l c] 28)).alloc (Obj.cells #[Value.bool false, Value.slice none 0 0] 28)) := ((Below.refl _ _).alloc (Nat.le_refl _) _).alloc (by simp) _
  have p0 := Pair.newAt (w.alloc (Obj.cells #[Value.bool neg, Value.slice o l c] 28)) (w.heap.size + 1) (by simp) (.bool false) (.slice none 0 0) 28
  have ri := fun w h => rmake (!neg) o l c xs w hl hx h hz.out.1
  rw [zv_neg, hz.out.2] at ri
  have RI := hide ri
  clear ri
  go_enter Tryd.func13, Tryd.ntmps13
  go_wp2_with fail
  refine (RI.out _ ((hax.alloc _).alloc _)).mono ?_
  rintro e w2 ⟨s, o2, c2, r2, hs, rfl, hl2, rs2, is2, hm2, hb2⟩
  have pr := p0.below hb2 p0.lt
  have hlt := p0.lt
  have hbw := hb0.trans (hb2.mono hb0.size)
  have q0 := pr.cell0
  have q1 := pr.cell1
  have f0 := pr.free 0
  have f1 := pr.free 1
  clear hb2 p0 hax hb0 RI
  go_wp2
  refine bodyPost_ret (results_pairR rfl _ _ _ _ _ rfl (pr.put _ _)) rfl ?_
  exact RWPost.ret (H := w.heap.size + 1) hs hl2 rs2 (by omega) hlt (Nat.le_refl _) is2 hm2 hbw

set_option maxHeartbeats 1000000 in
/-- The method Same, of what is the same. -/
theorem rsame_true (n : Bool) (o p : Option Addr) (l c d : Nat) (x y : List Nat) (w : World) (hl : l ≤ 100000000) (hlc : l ≤ c) (hx : x.length = l) (hax : At .u32 w o x) (hay : At .u64 w p y) (ox : Ok 65536 x) (hy : Is B64 y (num 65536 x)) :
    Calls Tryd.prog 35 #[.agg #[.bool n, .slice o l c], .bool n, .slice p y.length d] w fun e w' => e = .returned (.bool true) ∧ Below w.heap.size w w' := by
  have hb0 : Below w.heap.size w (w.alloc (Obj.cells #[Value.bool n, Value.slice o l c] 28)) := (Below.refl _ _).alloc (Nat.le_refl _) _
  have ax0 := hax.alloc (Obj.cells #[Value.bool n, Value.slice o l c] 28)
  have ay0 := hay.alloc (Obj.cells #[Value.bool n, Value.slice o l c] 28)
  clear hax hay
  cases n
  all_goals
    go_enter Tryd.func35, Tryd.ntmps35
    go_wp2_with fail
    refine (out_any o l c x _ (by omega) hlc hx ax0 ox).mono ?_
    rintro e w1 ⟨o1, c1, r1, rfl, hl1, at1, is1, hm1, hb1⟩
    have eq : Hid (r1 = y) := is1.uniq (by decide) hy
    have ay1 := ay0.below hb1
    clear ax0 ay0
    go_wp2_with fail
    refine (same_any o1 p r1.length c1 y.length d r1 y _ (by omega) rfl rfl at1 ay1).mono ?_
    rintro e w2 ⟨rfl, hb2⟩
    rw [show decide (r1 = y) = true from decide_eq_true eq.out]
    have hbw := hb0.trans ((hb1.mono hb0.size).trans (hb2.mono (Nat.le_trans hb0.size hb1.size)))
    clear at1 ay1 eq is1
    go_wp2
    go_ret
    exact ⟨rfl, hbw⟩

set_option maxHeartbeats 1000000 in
/-- quipulaw02.is, of what it is. -/
theorem isz (s t : Bool) (o p : Option Addr) (l c m d : Nat) (y x : List Nat) (w : World) (hm : m ≤ 100000000) (hmd : m ≤ d) (hy : y.length = l) (hx : x.length = m) (hay : At .u64 w o y) (hax : At .u32 w p x) (z u : Int) (hz : Hid (NI s y z)) (hu : Hid (NI32 t x u)) (e : z = u) :
    Calls Tryd.prog 10 #[.agg #[.bool s, .slice o l c], .agg #[.bool t, .slice p m d]] w fun e w' => e = .returned (.bool true) ∧ Below w.heap.size w w' := by
  subst e
  obtain rfl : s = t := hz.out.1.trans hu.out.1.symm
  subst hy
  have hb0 : Below w.heap.size w ((w.alloc (Obj.cells #[Value.bool s, Value.slice o y.length c] 24)).alloc (Obj.cells #[Value.bool s, Value.slice p m d] 28)) := ((Below.refl _ _).alloc (Nat.le_refl _) _).alloc (by simp) _
  have rs := fun w h1 h2 => rsame_true s p o m d c x y w hm hmd hx h1 h2 hu.out.2.1 (by rw [hu.out.2.2.2]; exact hz.out.2)
  have RS := hide rs
  clear rs
  go_enter Tryd.func10, Tryd.ntmps10
  go_wp2_with fail
  refine (RS.out _ ((hax.alloc _).alloc _) ((hay.alloc _).alloc _)).mono ?_
  rintro e w1 ⟨rfl, hb⟩
  have hbw := hb0.trans (hb.mono hb0.size)
  clear hb hb0 hax hay RS
  go_wp2
  go_ret
  exact ⟨rfl, hbw⟩

end Go.Proofs.YtfcdjhjdiadbfaaDoor
