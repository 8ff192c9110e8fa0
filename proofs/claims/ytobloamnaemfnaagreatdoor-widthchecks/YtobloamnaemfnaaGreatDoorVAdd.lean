/-
  What nat.Add does: the sum, in memory of its own.
-/
import Derived.Test.YtobloamnaemfnaaGreatDoorVB1
import Derived.Test.YtobloamnaemfnaaGreatDoorVCmp
namespace Go.Proofs.YtobloamnaemfnaaGreatDoor
open Go.RowKit

structure AddInv (w : World) (Bs : Nat) (n : Nat) (x y : Nat → Nat) (i : Nat) (wr : World) : Prop where
  bel : Below w.heap.size w wr
  row : ∃ r, Row .u64 134 wr w.heap.size r ∧ r.length = n + 1 ∧ (∀ j, j < i → dg r j = addD B64 x y j) ∧ (∀ j, i ≤ j → dg r j = 0)
  box : Box wr Bs (.slice (some ⟨w.heap.size, 0, none⟩) (n + 1) (n + 1)) 118
  car : Box wr (Bs + 1) (.int .u64 ((addC B64 x y i : Nat) : Int)) 134

theorem AddInv.step {w wr wr' : World} {Bs n i : Nat} {x y : Nat → Nat} (h : AddInv w Bs n x y i wr) (hB : w.heap.size < Bs) (hi : i < n)
    (ht : Two wr wr' w.heap.size (0 + i) (addD B64 x y i) (Bs + 1) (addC B64 x y (i + 1))) : AddInv w Bs n x y (i + 1) wr' := by
  obtain ⟨r, hr, hl, hlo, hhi⟩ := h.row
  rw [Nat.zero_add] at ht
  refine ⟨?_, ⟨r.set i (addD B64 x y i), ?_, by simp [hl], ?_, ?_⟩, ?_, ?_⟩
  · exact ht.below ((h.bel.setCell (Nat.le_refl _) _).setCell (by show _ ≤ Bs + 1; omega) _)
  · exact ((hr.set i _).other (by show _ ≠ Bs + 1; omega) _).alike ht
  · intro j hj
    rw [dg_set _ _ _ _ (by omega)]
    split
    · next e => rw [e]
    · exact hlo j (by omega)
  · intro j hj
    rw [dg_set _ _ _ _ (by omega), if_neg (by omega)]
    exact hhi j (by omega)
  · exact ((h.box.other (by show _ ≠ w.heap.size; omega) _).other (by show _ ≠ Bs + 1; omega) _).alike ht
  · exact ((h.car.other (by show _ ≠ w.heap.size; omega) _).set _).alike ht

theorem add_is {xs ys r r' : List Nat} {n : Nat} (hx : Ok B64 xs) (hy : Ok B64 ys) (hnx : xs.length ≤ n) (hny : ys.length ≤ n) (hl : r.length = n + 1)
    (hlo : ∀ j, j < n → dg r j = addD B64 (dg xs) (dg ys) j) (hr' : r' = r.set n (addC B64 (dg xs) (dg ys) n)) :
    Ok B64 r' ∧ num B64 r' = num B64 xs + num B64 ys := by
  have hb : 0 < B64 := by decide
  have hd : ∀ j, j < n → dg r' j = addD B64 (dg xs) (dg ys) j := by
    intro j hj
    rw [hr', dg_set _ _ _ _ (by omega), if_neg (by omega)]; exact hlo j hj
  have hn : dg r' n = addC B64 (dg xs) (dg ys) n := by rw [hr', dg_set _ _ _ _ (by omega), if_pos rfl]
  have hl' : r'.length = n + 1 := by rw [hr']; simp [hl]
  refine ⟨?_, ?_⟩
  · intro j
    rcases Nat.lt_trichotomy j n with h | h | h
    · rw [hd j h]; exact addD_lt hb _ _ _
    · rw [h, hn]; exact Nat.lt_of_le_of_lt (addC_le hx hy n) (by decide)
    · rw [dg_out (by omega)]; exact hb
  · have h := add_val B64 (dg xs) (dg ys) n
    rw [num_eq hnx, num_eq hny] at h
    rw [h]
    unfold num
    rw [hl']
    simp only [V]
    rw [hn, V_congr n hd]

set_option maxHeartbeats 2000000 in
theorem add_any (ao bo : Option Addr) (la ca lb cb : Nat) (xs ys : List Nat) (w : World) (hla : la ≤ ca) (hca : la ≤ 100000000000 ∧ ca ≤ 9223372036854775807) (hlb : lb ≤ cb) (hcb : lb ≤ 100000000000 ∧ cb ≤ 9223372036854775807)
    (hx : xs.length = la) (hy : ys.length = lb) (hax : At .u64 w ao xs) (hay : At .u64 w bo ys) (ox : Ok B64 xs) (oy : Ok B64 ys) :
    Calls Tryz.prog 187 #[.slice ao la ca, .slice bo lb cb] w fun e w' =>
      ∃ v r, e = .returned v ∧ Own .u64 134 w' w.heap.size (max la lb + 1) v r ∧ Is B64 r (num B64 xs + num B64 ys) ∧ Below w.heap.size w w' := by
  obtain ⟨xt, hxt⟩ : ∃ z, z = trimmed xs := ⟨_, rfl⟩
  obtain ⟨yt, hyt⟩ : ∃ z, z = trimmed ys := ⟨_, rfl⟩
  obtain ⟨m, hm⟩ : ∃ m, m = xt.length := ⟨_, rfl⟩
  obtain ⟨p, hp⟩ : ∃ p, p = yt.length := ⟨_, rfl⟩
  obtain ⟨n, hn⟩ : ∃ n, n = max m p := ⟨_, rfl⟩
  have hml : m ≤ la := by rw [hm, hxt, ← hx]; exact length_trimmed_le xs
  have hpl : p ≤ lb := by rw [hp, hyt, ← hy]; exact length_trimmed_le ys
  have hnl : n ≤ 100000000000 := by omega
  have axt : At .u64 w ao xt := by rw [hxt]; exact hax.trimmed
  have ayt : At .u64 w bo yt := by rw [hyt]; exact hay.trimmed
  have oxt : Ok B64 xt := by rw [hxt]; exact trimmed_ok ox
  have oyt : Ok B64 yt := by rw [hyt]; exact trimmed_ok oy
  have nx : num B64 xt = num B64 xs := by rw [hxt]; exact num_trimmed _ _
  have ny : num B64 yt = num B64 ys := by rw [hyt]; exact num_trimmed _ _
  have t1 : (trimmed xs).length = m := by rw [hm, hxt]
  have t2 : (trimmed ys).length = p := by rw [hp, hyt]
  have hmax := max_run m p n hn
  have hmn : m ≤ n ∧ p ≤ n ∧ n ≤ max la lb := by omega
  have HM : Hid (m = xt.length) := hm
  have HP : Hid (p = yt.length) := hp
  have HN : Hid (n = max m p) := hn
  have NX : Hid (num B64 xt = num B64 xs) := nx
  have NY : Hid (num B64 yt = num B64 ys) := ny
  have T1 : Hid ((trimmed xs).length = m) := t1
  have T2 : Hid ((trimmed ys).length = p) := t2
  obtain ⟨i0, hi, hz0, hz1, hz2⟩ := info_parts Tryz.infoU
  clear hm hp hn hxt hyt nx ny t1 t2
  go_enter Tryz.func187, Tryz.ntmps187
  go_wp2_with fail
  refine (trim_to ao la ca m xs _ hla (by omega) hx hax T1.out).mono ?_
  rintro e w' ⟨rfl, rfl⟩
  go_wp2_with fail
  refine (trim_to bo lb cb p ys _ hlb (by omega) hy hay T2.out).mono ?_
  rintro e w' ⟨rfl, rfl⟩
  go_wp2_with (at_make; refine wpList_make_full _ rfl _ _ 118 rfl w.heap.size 134 i0 (.int .u64 0) 1 Tryz.underlying118 hi hz0 hz1 _ _ _ _ (n + 1) rfl rfl (by omega) (by omega) (by rw [hz2]; omega) (by unfold maxLen; omega) (Nat.le_refl _) ?_)
  intro w1 hown hgrow
  have hr1 : Row .u64 134 w1 w.heap.size (List.replicate (n + 1) 0) := Row.made hown
  have hb1 : Below w.heap.size w w1 := (Below.refl _ _).grown hgrow (Nat.le_refl _) (fun k hk => by cases hk)
  have hlt1 := hr1.lt
  clear hown hgrow
  go_wp2_with fail
  refine (each_any ao bo m ca p cb 223 _ (dg xt) (dg yt) (fun i wr => AddInv w w1.heap.size n (dg xt) (dg yt) i wr) _ (by omega) (by omega) enters223 ?_ ?_ ?_ ?_).mono ?_
  · intro i wr _ h
    rw [HM.out]
    exact (axt.below h.bel).limb i
  · intro i wr _ h
    rw [HP.out]
    exact (ayt.below h.bel).limb i
  · intro i wr hin h
    rw [← HN.out] at hin
    obtain ⟨r, hr, hl, _, _⟩ := h.row
    refine (add1 i _ _ (addC B64 (dg xt) (dg yt) i) (n + 1) (n + 1) w.heap.size 0 (w1.heap.size + 1) w1.heap.size (addD B64 (dg xt) (dg yt) i) (addC B64 (dg xt) (dg yt) (i + 1)) _ wr (by omega) (by omega)
      (fun w => call_add64 _ _ _ (addC_le oxt oyt i) w) h.box.cell h.car.cell h.car.free (by rw [Nat.zero_add]; exact hr.cell i (by omega)) (by exact hr.free _) (by omega) (by omega) (by omega)).mono ?_
    rintro e w' ⟨rfl, ht⟩
    exact ⟨rfl, h.step hlt1 hin ht⟩
  · refine ⟨(hb1.alloc (by omega) _).alloc (by simp; omega) _, ⟨_, (hr1.alloc _).alloc _, by simp, by omega, fun j _ => dg_replicate _ _⟩, (Box.new _ _ _).alloc _, ?_⟩
    have := Box.new (w1.alloc (Obj.cells #[Value.slice (some { block := w.heap.size, off := 0 }) (n + 1) (n + 1)] 118)) (.int .u64 0) 134
    simpa [addC] using this
  · rintro e w2 ⟨rfl, h⟩
    rw [← HN.out] at h
    obtain ⟨r, hr, hl, hlo, hhi⟩ := h.row
    have c1 := h.box.cell
    have c2 := h.car.cell
    have c3 := hr.cell n (by omega)
    have c4 := hr.free n
    have HL : Hid (∀ j, j < n → dg r j = addD B64 (dg xt) (dg yt) j) := hlo
    have hr' := hr.set n (addC B64 (dg xt) (dg yt) n)
    obtain ⟨r', hrr⟩ : ∃ z, z = r.set n (addC B64 (dg xt) (dg yt) n) := ⟨_, rfl⟩
    rw [← hrr] at hr'
    obtain ⟨ok', num'⟩ := add_is oxt oyt (by rw [← HM.out]; omega) (by rw [← HP.out]; omega) hl HL.out hrr
    have hl' : r'.length = n + 1 := by rw [hrr]; simp [hl]
    have hbel := h.bel.setCell (p := ⟨w.heap.size, n, none⟩) (Nat.le_refl _) (.int .u64 ((addC B64 (dg xt) (dg yt) n : Nat) : Int))
    have HR : Hid (r' = r.set n (addC B64 (dg xt) (dg yt) n)) := hrr
    have NUM : Hid (num B64 r' = num B64 xt + num B64 yt) := num'
    obtain ⟨q, hq⟩ : ∃ q, q = (trimmed r').length := ⟨_, rfl⟩
    have HQ : Hid ((trimmed r').length = q) := hq.symm
    have hl2 : Hid (r'.length = n + 1) := hl'
    clear hrr hlo hhi h num' hmax hq hl' hr hl
    go_wp2_with fail
    refine (trim_to _ (n + 1) (n + 1) q r' _ (Nat.le_refl _) (by omega) hl2.out hr'.at HQ.out).mono ?_
    rintro e w' ⟨rfl, rfl⟩
    go_wp2
    go_ret
    refine ⟨_, trimmed r', rfl, .inr ⟨w.heap.size, r', ?_, Nat.le_refl _, hr', ?_, ?_⟩, ?_, hbel⟩
    · rw [hl2.out, HQ.out]; rfl
    · rw [length_trimmed]; rfl
    · rw [hl2.out]; omega
    · rw [← NX.out, ← NY.out, ← NUM.out]; exact Is.trimmed ok'

end Go.Proofs.YtobloamnaemfnaaGreatDoor
