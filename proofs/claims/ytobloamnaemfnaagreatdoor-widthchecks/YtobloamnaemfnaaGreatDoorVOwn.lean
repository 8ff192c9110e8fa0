/-
  Slices that a call answers in memory of its own, and what number they are; trim once more, in these words.
-/
import Derived.Test.YtobloamnaemfnaaGreatDoorVTrim
import Derived.Test.YtobloamnaemfnaaGreatDoorVCarry
namespace Go.Proofs.YtobloamnaemfnaaGreatDoor
open Go.RowKit

def Is (b : Nat) (xs : List Nat) (n : Nat) : Prop := Ok b xs ∧ Top xs ∧ num b xs = n

theorem Is.trimmed {b : Nat} {xs : List Nat} (h : Ok b xs) : Is b (trimmed xs) (num b xs) := ⟨trimmed_ok h, trimmed_top xs, num_trimmed b xs⟩

theorem Is.none {b : Nat} (hb : 0 < b) : Is b [] 0 := ⟨fun i => by simpa [dg] using hb, fun n hn => by simp at hn, rfl⟩

def Own (k : IntKind) (e : TypeId) (w : World) (base m : Nat) (v : Value) (xs : List Nat) : Prop :=
  (v = .slice none 0 0 ∧ xs = []) ∨
  ∃ g full, v = .slice (some ⟨g, 0, none⟩) xs.length full.length ∧ base ≤ g ∧ Row k e w g full ∧ xs = full.take xs.length ∧ full.length ≤ m

section
variable {k : IntKind} {e : TypeId} {w w' : World} {base m : Nat} {v : Value} {xs : List Nat}

theorem At.of_row {g : Nat} {full : List Nat} (h : Row k e w g full) (n : Nat) : At k w (some ⟨g, 0, none⟩) (full.take n) := h.at.take n

theorem Own.shape (h : Own k e w base m v xs) : ∃ ao cap, v = .slice ao xs.length cap ∧ xs.length ≤ cap ∧ cap ≤ m ∧ At k w ao xs := by
  rcases h with ⟨rfl, rfl⟩ | ⟨g, full, rfl, _, hr, hx, hm⟩
  · exact ⟨none, 0, rfl, Nat.le_refl _, Nat.zero_le _, At.nil _ _ _⟩
  · refine ⟨_, _, rfl, ?_, hm, ?_⟩
    · rw [hx]; simp; omega
    · rw [hx]; exact At.of_row hr _

theorem Own.below (h : Own k e w base m v xs) (hb : Below w.heap.size w w') : Own k e w' base m v xs := by
  rcases h with h | ⟨g, full, h1, h2, hr, h3⟩
  · exact .inl h
  · exact .inr ⟨g, full, h1, h2, hr.below hb hr.lt, h3⟩

theorem Own.mono (h : Own k e w base m v xs) {base' m' : Nat} (h1 : base' ≤ base) (h2 : m ≤ m') : Own k e w base' m' v xs := by
  rcases h with h | ⟨g, full, a1, a2, hr, a3, a4⟩
  · exact .inl h
  · exact .inr ⟨g, full, a1, by omega, hr, a3, by omega⟩
end

theorem trim_to (ao : Option Addr) (len cap n : Nat) (xs : List Nat) (w : World) (hcap : len ≤ cap) (hc : len ≤ 1000000000000 ∧ cap ≤ 9223372036854775807) (hlen : xs.length = len) (hat : At .u64 w ao xs) (hn : (trimmed xs).length = n) :
    Calls Tryz.prog 159 #[.slice ao len cap] w fun e w' => e = .returned (.slice ao n cap) ∧ w = w' := by
  refine (trim_any ao len cap xs w hcap hc hlen hat).mono ?_
  rintro e w' ⟨rfl, rfl⟩
  subst hlen
  rw [length_trimmed] at hn
  rw [hn]
  exact ⟨rfl, rfl⟩

theorem length_trimmed_le (xs : List Nat) : (trimmed xs).length ≤ xs.length := by rw [length_trimmed]; exact tops_le _ _

theorem At.trimmed {k : IntKind} {w : World} {ao : Option Addr} {xs : List Nat} (h : At k w ao xs) : At k w ao (trimmed xs) := h.take _

theorem Tryz.infoU : (Tryz.prog.info? 134).map (fun i => (i.zero, i.size, i.bytes)) = some (some (.int .u64 0), 1, 8) := by kernel_rfl
theorem max_run (la lb n : Nat) (hn : n = max la lb) : ∀ (w : World) (ts : Array TypeId) (t : TypeId), (Builtin.max_ ts t #[.int .i64 (la : Int), .int .i64 (lb : Int)]).run Tryz.prog w = .ok (.int .i64 (n : Int)) w := by
  intro w ts t
  rw [run_max_int2, hn]
  congr 2
  split <;> omega

end Go.Proofs.YtobloamnaemfnaaGreatDoor
