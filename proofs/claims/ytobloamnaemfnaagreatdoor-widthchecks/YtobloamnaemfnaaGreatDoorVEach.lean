/-
  What nat.eachPair does with whatever function it is handed: round by round, over the limbs of both lists.
-/
import Derived.Test.YtobloamnaemfnaaGreatDoorVTrim
namespace Go.Proofs.YtobloamnaemfnaaGreatDoor
open Go.RowKit

def LimbAt (w : World) (ao : Option Addr) (len i x : Nat) : Prop :=
  (i < len → ∃ b o, ao = some ⟨b, o, none⟩ ∧ w.cell? ⟨b, o + i, none⟩ = some (.int .u64 (x : Int))) ∧ (len ≤ i → x = 0)

theorem limb_any (ao : Option Addr) (len cap i x : Nat) (w : World) (hl : len ≤ 1000000000000) (hi : i ≤ 1000000000000) (h : LimbAt w ao len i x) :
    Calls Tryz.prog 228 #[.slice ao len cap, .int .i64 i] w fun e w' => e = .returned (.int .u64 x) ∧ w = w' := by
  by_cases hlt : i < len
  · obtain ⟨b, o, rfl, hc⟩ := h.1 hlt
    exact (limb_in b o len cap i x w hlt hl hc).mono (fun e w' ⟨h1, h2⟩ => ⟨h1, h2.symm⟩)
  · obtain rfl := h.2 (by omega)
    exact (limb_out ao len cap i w (by omega) hi).mono (fun e w' ⟨h1, h2⟩ => ⟨h1, h2.symm⟩)

set_option maxHeartbeats 1000000 in
theorem each_any (ao bo : Option Addr) (la ca lb cb f : Nat) (cs : Array Value) (x y : Nat → Nat) (I : Nat → World → Prop) (w : World)
    (hla : la ≤ 1000000000000) (hlb : lb ≤ 1000000000000) (hf : ∀ args w, (callFunc f args).run Tryz.prog w = .ok (.enter f args) w)
    (hx : ∀ i w, i < max la lb → I i w → LimbAt w ao la i (x i)) (hy : ∀ i w, i < max la lb → I i w → LimbAt w bo lb i (y i))
    (hdo : ∀ i w, i < max la lb → I i w → Calls Tryz.prog f (#[.int .i64 i, .int .u64 (x i : Int), .int .u64 (y i : Int)] ++ cs) w fun e w' => e = .returned (.tuple #[]) ∧ I (i + 1) w')
    (h0 : I 0 w) :
    Calls Tryz.prog 198 #[.slice ao la ca, .slice bo lb cb, .func (.func f) #[] cs] w fun e w' => e = .returned (.tuple #[]) ∧ I (max la lb) w' := by
  obtain ⟨n, hn⟩ : ∃ n, n = max la lb := ⟨_, rfl⟩
  rw [← hn] at hx hy hdo ⊢
  have hn1 : n ≤ 1000000000000 := by omega
  have Hx := hx
  have HX : Hid (∀ i w, i < n → I i w → LimbAt w ao la i (x i)) := hx
  have HY : Hid (∀ i w, i < n → I i w → LimbAt w bo lb i (y i)) := hy
  have HD : Hid (∀ i w, i < n → I i w → Calls Tryz.prog f (#[.int .i64 i, .int .u64 (x i : Int), .int .u64 (y i : Int)] ++ cs) w fun e w' => e = .returned (.tuple #[]) ∧ I (i + 1) w') := hdo
  have H0 : Hid (I 0 w) := h0
  have HN : Hid (n = max la lb) := hn
  have hmax : ∀ (w : World) (ts : Array TypeId) (t : TypeId), (Builtin.max_ ts t #[.int .i64 (la : Int), .int .i64 (lb : Int)]).run Tryz.prog w = .ok (.int .i64 (n : Int)) w := by
    intro w ts t
    rw [run_max_int2, hn]
    congr 2
    split <;> omega
  clear hx hy hdo h0 Hx hn
  go_enter Tryz.func198, Tryz.ntmps198
  go_wp2
  go_loopw [6, 12] (fun _ i wr => ∃ k : Nat, k ≤ n ∧ i = .int .i64 k ∧ I k wr) (fun _ i _ => n - (intOf i).toNat)
  case atStart => exact ⟨0, Nat.zero_le _, rfl, H0.out⟩
  case round =>
    obtain ⟨k, hk, rfl, hI⟩ := hrel
    by_cases hlt : k < n
    · have hlt' : (k : Int) < (n : Int) := by omega
      go_wp2_with fail
      refine (limb_any ao la ca k (x k) _ hla (by omega) (HX.out k wr hlt hI)).mono ?_
      rintro e w' ⟨rfl, rfl⟩
      go_wp2_with fail
      refine (limb_any bo lb cb k (y k) _ hlb (by omega) (HY.out k wr hlt hI)).mono ?_
      rintro e w' ⟨rfl, rfl⟩
      go_wp2_with fail
      refine (HD.out k wr hlt hI).mono ?_
      rintro e w' ⟨rfl, hI'⟩
      go_wp2
      go_roundw
      case rel => exact ⟨k + 1, by omega, by go_num, hI'⟩
      case measure => simp [intOf]; omega
    · have hge : (n : Int) ≤ (k : Int) := by omega
      go_wp2
      go_end0
      obtain rfl : k = n := by omega
      exact ⟨rfl, hI⟩

theorem enters236 : ∀ args w, (callFunc 236 args).run Tryz.prog w = .ok (.enter 236 args) w := by intro args w; kernel_rfl

end Go.Proofs.YtobloamnaemfnaaGreatDoor
