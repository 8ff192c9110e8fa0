/-
  What the reference's DivMod does, of any number.
-/
import Derived.Test.YtfcdjhjdiadbfaaDoorRDiv2
namespace Go.Proofs.YtfcdjhjdiadbfaaDoor
open Go.RowKit

set_option maxHeartbeats 1000000 in
theorem rdivmod_nil (ao bo : Option Addr) (ca lb cb B : Nat) (w : World) :
    Calls Tryd.prog 51 #[.slice ao 0 ca, .slice bo lb cb] w (RDivPost w 0 lb (0 / B) (0 % B)) := by
  obtain ⟨i0, hi, hz0, hz1, hz2⟩ := info_parts Tryd.infoD
  go_enter Tryd.func51, Tryd.ntmps51
  go_wp2_with (at_make; refine wpList_make_full _ rfl _ _ 26 rfl w.heap.size 73 i0 (.int .u32 0) 1 Tryd.underlying26 hi hz0 hz1 _ _ _ _ 0 rfl rfl (by omega) (by omega) (by rw [hz2]; omega) (by unfold maxLen; omega) (Nat.le_refl _) ?_)
  intro w1 hown hgrow
  have hb1 : Below w.heap.size w w1 := (Below.refl _ _).grown hgrow (Nat.le_refl _) (fun k hk => by cases hk)
  clear hown hgrow
  go_wp2
  refine wp_loop_rounds 1 ?_
  rw [rounds_succ]
  go_wp2_with fail
  refine (rtrim_nil _ _ _).mono ?_
  rintro e w' ⟨rfl, rfl⟩
  go_wp2
  go_ret2
  refine ⟨_, _, [], _, _, [], rfl, Nat.zero_le _, Nat.zero_le _, At.nil _ _ _, At.nil _ _ _, ?_, ?_, Nat.zero_le _, Nat.zero_le _, hb1.alloc hb1.size _⟩
  · rw [Nat.zero_div]; exact Is.none (by omega)
  · rw [Nat.zero_mod]; exact Is.none (by omega)

theorem rdivmod_any (ao bo : Option Addr) (la ca lb cb : Nat) (xs ys : List Nat) (w : World) (hla : la ≤ 10000000) (hlb : lb ≤ 10000000) (hlbc : lb ≤ cb) (hx : xs.length = la) (hy : ys.length = lb)
    (hax : At .u32 w ao xs) (hay : At .u32 w bo ys) (ox : Ok 65536 xs) (oy : Ok 65536 ys) (ty : Top ys) (hB : 0 < num 65536 ys) :
    Calls Tryd.prog 51 #[.slice ao la ca, .slice bo lb cb] w (RDivPost w la lb (num 65536 xs / num 65536 ys) (num 65536 xs % num 65536 ys)) := by
  rcases hax with rfl | ⟨b, o, rfl, hb, hc⟩
  · obtain rfl : la = 0 := hx.symm
    exact rdivmod_nil ao bo ca lb cb (num 65536 ys) w
  · exact rdivmod_at b o la ca lb cb bo xs ys w hla hlb hlbc hx hy hb (fun i hi => hc i (by omega)) ox hay oy ty hB

end Go.Proofs.YtfcdjhjdiadbfaaDoor
