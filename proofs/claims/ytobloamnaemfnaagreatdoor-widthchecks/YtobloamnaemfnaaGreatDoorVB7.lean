/-
  What whole.Text does: the number's decimal digits.
  nat's and whole's calls as package shortest makes them: over numbers, wherever their limbs lie.
  What whole.signed, whole.Make and whole.Neg do.
  What whole.Add, whole.Sub and whole.Mul do.
  What whole.Sub, Int.below and whole.Cmp do.
-/
import Derived.Test.YtobloamnaemfnaaGreatDoorVB6
import Derived.Test.YtobloamnaemfnaaGreatDoorVB2
import Derived.Test.YtobloamnaemfnaaGreatDoorVSub
import Derived.Test.YtobloamnaemfnaaGreatDoorVUintF
import Derived.Test.YtobloamnaemfnaaGreatDoorVNorm
import Derived.Handy
import Derived.Test.YtobloamnaemfnaaGreatDoorVB4
import Derived.Test.YtobloamnaemfnaaGreatDoorVB5
import Derived.Deep.RegionHeld3
import Derived.Test.YtobloamnaemfnaaGreatDoorVUint
namespace Go.Proofs.YtobloamnaemfnaaGreatDoor
open Go.RowKit

def padD : Nat → Nat → List UInt8
  | 0, _ => []
  | m + 1, r => padD m (r / 10) ++ [UInt8.ofNat (48 + r % 10)]

theorem dd_append : ∀ (m q r : Nat), q ≠ 0 → r < 10 ^ m → Lib.decDigits (q * 10 ^ m + r) = Lib.decDigits q ++ padD m r
  | 0, q, r, _, hr => by
    have : r = 0 := by simpa using hr
    subst this; simp [padD]
  | m + 1, q, r, hq, hr => by
    have hp : 0 < 10 ^ m := Nat.pow_pos (by omega)
    have h1 : 1 * 10 ^ m ≤ q * 10 ^ m := Nat.mul_le_mul_right _ (by omega)
    have e0 : q * 10 ^ (m + 1) = q * 10 ^ m * 10 := by rw [Nat.pow_succ, Nat.mul_assoc]
    have e1 : (q * 10 ^ (m + 1) + r) / 10 = q * 10 ^ m + r / 10 := by rw [e0]; omega
    have e2 : (q * 10 ^ (m + 1) + r) % 10 = r % 10 := by rw [e0]; omega
    have hb : ¬ q * 10 ^ (m + 1) + r < 10 := by rw [e0]; omega
    rw [dd_big hb, e1, e2, dd_append m q (r / 10) hq (by rw [Nat.pow_succ] at hr; omega)]
    simp [padD]

theorem padD_zero : ∀ m, padD m 0 = List.replicate m (48 : UInt8)
  | 0 => rfl
  | m + 1 => by
    show padD m (0 / 10) ++ [UInt8.ofNat (48 + 0 % 10)] = _
    rw [Nat.zero_div, padD_zero m, List.replicate_succ']
    rfl

theorem padD_eq : ∀ (m r : Nat), 1 ≤ m → r < 10 ^ m → padD m r = List.replicate (m - (Lib.decDigits r).length) (48 : UInt8) ++ Lib.decDigits r
  | 0, _, h, _ => absurd h (by omega)
  | m + 1, r, _, hr => by
    by_cases h : r < 10
    · show padD m (r / 10) ++ [UInt8.ofNat (48 + r % 10)] = _
      rw [Nat.div_eq_of_lt h, padD_zero, Nat.mod_eq_of_lt h, Lib.decDigits_one h]
      simp
    · have hm : 1 ≤ m := by
        rcases m with _ | m
        · simp at hr; omega
        · omega
      show padD m (r / 10) ++ [UInt8.ofNat (48 + r % 10)] = _
      rw [padD_eq m (r / 10) hm (by rw [Nat.pow_succ] at hr; omega), dd_big h]
      simp

theorem nd_lower : ∀ k u : Nat, 1 ≤ u → Lib.nDigits u = k + 1 → 10 ^ k ≤ u
  | 0, u, h, _ => by simpa using h
  | k + 1, u, h, hn => by
    by_cases h10 : u < 10
    · rw [Lib.nDigits_small h10] at hn; omega
    · rw [Lib.nDigits_big h10] at hn
      have := nd_lower k (u / 10) (by omega) (by omega)
      rw [Nat.pow_succ]; omega

theorem nd_le {u t : Nat} (h : u < 10 ^ t) (ht : 1 ≤ t) : Lib.nDigits u ≤ t := by
  by_cases h0 : u = 0
  · subst h0; rw [Lib.nDigits_small (by omega)]; exact ht
  · rcases hn : Lib.nDigits u with _ | k
    · omega
    · have := nd_lower k u (by omega) hn
      rcases Nat.lt_or_ge k t with h' | h'
      · omega
      · have := Nat.pow_le_pow_right (show 0 < 10 by omega) h'; omega

theorem text_len {N la : Nat} (h : N < B64 ^ la) (j : Nat) : (Lib.decDigits (N / U19 ^ j)).length ≤ 20 * la + 1 := by
  rw [Lib.decDigits_length]
  refine nd_le (t := 20 * la + 1) ?_ (by omega)
  have h1 : B64 ^ la ≤ (10 ^ 20) ^ la := Nat.pow_le_pow_left (by decide +kernel) la
  rw [← Nat.pow_mul] at h1
  have h2 := Nat.div_le_self N (U19 ^ j)
  have h3 : (10 : Nat) ^ (20 * la) ≤ 10 ^ (20 * la + 1) := Nat.pow_le_pow_right (by omega) (by omega)
  omega

theorem repeat0 (c : Nat) : Lib.repeatL [48] c = List.replicate c (48 : UInt8) := by
  induction c with
  | zero => rfl
  | succ c ih => rw [Lib.repeatL, ih]; rfl

theorem chunk_text {N k : Nat} (h : N / U19 ^ (k + 1) ≠ 0) : Lib.decDigits (N / U19 ^ k) = Lib.decDigits (N / U19 ^ (k + 1)) ++ (List.replicate (19 - (Lib.decDigits (chunkD N k)).length) (48 : UInt8) ++ Lib.decDigits (chunkD N k)) := by
  have hU : U19 = 10 ^ 19 := by decide +kernel
  have e : N / U19 ^ k = N / U19 ^ (k + 1) * 10 ^ 19 + chunkD N k := by
    unfold chunkD
    rw [Nat.pow_succ, ← Nat.div_div_eq_div_mul]
    have := Nat.div_add_mod (N / U19 ^ k) U19
    rw [← hU, Nat.mul_comm]; omega
  have hlt : chunkD N k < 10 ^ 19 := by rw [← hU]; exact Nat.mod_lt _ (by decide)
  rw [← padD_eq 19 _ (by omega) hlt, ← dd_append 19 _ _ h hlt, ← e]

theorem chunk_dd {N k : Nat} : (Lib.decDigits (chunkD N k)).length ≤ 19 := by
  rw [Lib.decDigits_length]
  refine nd_le ?_ (by omega)
  have hU : U19 = 10 ^ 19 := by decide +kernel
  rw [← hU]; exact Nat.mod_lt _ (by decide)

theorem chunk_lt (N k : Nat) : chunkD N k < 18446744073709551616 := Nat.lt_trans (Nat.mod_lt _ (by decide)) (show U19 < 18446744073709551616 by decide)

theorem bld_below {T e : TypeId} {B b : Nat} {p : Value} {bs : List Value} {w w' : World} (h : Lib.BuilderAt T e B b p bs w) (hb : Below w.heap.size w w') : Lib.BuilderAt T e B b p bs w' := by
  obtain ⟨h1, v, h2, h3, h4⟩ := h
  refine ⟨h1, v, ?_, h3.kept (row := none) ⟨hb.os, hb.tape, hb.output, hb.size, fun k hk _ => hb.block k hk⟩ ?_, h4⟩
  · rw [hb.block b (lt_of_block h2)]; exact h2
  · cases hv : v.ownBlock with
    | none => exact .inl rfl
    | some g => exact .inr (by simp)

theorem bld_new (w : World) : Lib.IsBuilder 157 5 w.heap.size w.heap.size [] (w.alloc (.cells #[.pointer none, .slice none 0 0] 157)) :=
  .inl ⟨Nat.le_refl _, .slice none 0 0, heap_alloc_new _ _, World.ownsRow_nil _ _ _ _, by simp [Value.ownBlock]⟩

set_option maxRecDepth 100000 in
set_option maxHeartbeats 2000000 in
theorem text_any (ao : Option Addr) (la ca : Nat) (xs : List Nat) (w : World) (hla : la ≤ ca) (hca : ca ≤ 5000000) (hx : xs.length = la) (hax : At .u64 w ao xs) (ox : Ok B64 xs) (htab : Tab w) :
    Calls Tryz.prog 112 #[.slice ao la ca] w fun e w' => e = .returned (.string ⟨(Lib.decDigits (num B64 xs)).toArray⟩) ∧ Below w.heap.size w w' := by
  obtain ⟨N, hN⟩ : ∃ N, N = num B64 xs := ⟨_, rfl⟩
  have HN : Hid (N < B64 ^ la) := by rw [hN, ← hx]; exact num_lt ox
  have cu := cut_any ao la ca xs w hla hca hx hax ox
  rw [← hN] at cu ⊢
  have CU := hide cu
  have HTAB : Hid (Tab w) := htab
  clear cu hN hax ox htab
  go_enter Tryz.func112, Tryz.ntmps112
  go_wp2_with fail
  refine CU.out.mono ?_
  rintro e w1 ⟨co, cc, cs, rfl, hcl, hcat, his, hcm, hb1⟩
  rcases hcs : cs.length with _ | t
  · have hz : cs = [] := List.length_eq_zero_iff.1 hcs
    have hN0 : N = 0 := by rw [hz] at his; exact his.2.2.symm
    clear hcat his hcl hcm hz HN
    subst hN0
    go_wp2
    go_ret
    exact ⟨by rw [Lib.decDigits_one (by omega)]; rfl, hb1⟩
  · obtain ⟨cb, cf, rfl, hcb, hcell⟩ : ∃ cb cf, co = some ⟨cb, cf, none⟩ ∧ cb < w1.heap.size ∧ ∀ i, i < cs.length → w1.cell? ⟨cb, cf + i, none⟩ = some (.int .u64 ((dg cs i : Nat) : Int)) := by
      rcases hcat with h | h
      · rw [h] at hcs; simp at hcs
      · exact h
    have hdig : ∀ j, dg cs j = chunkD N j := fun j => by rw [← dig_at (by decide) his.1 j, his.2.2]; rfl
    have hcell' : ∀ j, j ≤ t → w1.cell? ⟨cb, cf + j, none⟩ = some (.int .u64 ((chunkD N j : Nat) : Int)) := fun j hj => by rw [hcell j (by omega), hdig]
    have htop : N / U19 ^ t ≠ 0 := by
      intro e
      have h1 := his.2.1 t hcs
      rw [hdig t] at h1
      unfold chunkD at h1
      rw [e, Nat.zero_mod] at h1
      exact h1 rfl
    have hall : ∀ j, j ≤ t → N / U19 ^ j ≠ 0 := by
      intro j hj e
      refine htop (Nat.div_eq_of_lt ?_)
      have h1 : N < U19 ^ j := by
        rcases Nat.lt_or_ge N (U19 ^ j) with h | h
        · exact h
        · have := Nat.div_pos h (Nat.pow_pos (show 0 < U19 by decide)); omega
      exact Nat.lt_of_lt_of_le h1 (Nat.pow_le_pow_right (by decide) hj)
    have hfirst : Lib.decDigits (chunkD N t) = Lib.decDigits (N / U19 ^ t) := by
      have h1 := num_lt his.1
      rw [his.2.2, hcs, Nat.pow_succ] at h1
      unfold chunkD
      rw [Nat.mod_eq_of_lt ((Nat.div_lt_iff_lt_mul (Nat.pow_pos (by decide))).2 (by rw [Nat.mul_comm]; exact h1))]
    have HC := hide hcell'
    have HALL := hide hall
    have htl : t ≤ 2 * la := by omega
    have c0 := HC.out t (Nat.le_refl _)
    have hlt : (t : Int) < ((t + 1 : Nat) : Int) := by omega
    have hnt : ¬ (t : Int) < 0 := by omega
    have c0' : (w1.alloc (Obj.cells #[Value.pointer none, Value.slice none 0 0] 157)).cell? ⟨cb, cf + t, none⟩ = some (.int .u64 ((chunkD N t : Nat) : Int)) := by
      rw [World.cell?_of_block (w := w1) (Below.heap_alloc _ _ _ hcb)]; exact c0
    obtain ⟨d0, hd0⟩ : ∃ d, d = chunkD N t := ⟨_, rfl⟩
    have fm := fun W hT => fmtUint_any (chunkD N t) (chunk_lt N t) W hT
    rw [← hd0] at c0' fm hfirst
    obtain ⟨ds, hds⟩ : ∃ ds : ByteArray, ds = ⟨(Lib.decDigits d0).toArray⟩ := ⟨_, rfl⟩
    rw [← hds] at fm
    have FM := hide fm
    have HDS := hide hds
    have HF := hide hfirst
    have hbn := bld_new w1
    have hT2 : Tab (w1.alloc (Obj.cells #[Value.pointer none, Value.slice none 0 0] 157)) := (HTAB.out.below hb1).alloc _
    have HT2 := hide hT2
    have HBN := hide hbn
    have hb12 : Below w1.heap.size w1 (w1.alloc (Obj.cells #[Value.pointer none, Value.slice none 0 0] 157)) := (Below.refl _ _).alloc (Nat.le_refl _) _
    have HB12 := hide hb12
    have HB1 := hide hb1
    have hlen : ∀ j, (Lib.decDigits (N / U19 ^ j)).length ≤ 20 * la + 1 := text_len HN.out
    have HLEN := hide hlen
    clear hcat hcell hdig hcell' htop hall hfirst fm hd0 hds c0 his hcl hcm hbn hT2 hb12 hb1 hlen hcs
    go_wp2_with fail
    refine (FM.out _ HT2.out).mono ?_
    rintro e w3 ⟨rfl, hb3⟩
    have hbu3 : Lib.IsBuilder 157 5 w1.heap.size w1.heap.size [] w3 := by
      rcases HBN.out with h | h
      · exact .inl (bld_below h hb3)
      · exact .inr (bld_below h hb3)
    have hb13 := HB12.out.trans (hb3.mono HB12.out.size)
    have hsz3 := hb13.size
    have hds0 : ds.size ≤ 200000000 := by
      rw [HDS.out]
      show (Lib.decDigits d0).length ≤ _
      rw [HF.out]
      have := HLEN.out t
      omega
    clear hb3 c0'
    go_wp2_with fail
    refine (writeString_any w1.heap.size w1.heap.size [] ds _ hbu3 (by simp; omega) hsz3).mono ?_
    rintro e w4 ⟨rfl, hbu4, hb4⟩
    have hbt : Lib.BuilderAt 157 5 w1.heap.size w1.heap.size (.pointer (some ⟨w1.heap.size, 0, none⟩)) (Lib.byteCells (Lib.decDigits (N / U19 ^ t))) w4 := by
      rw [← HF.out, ← Lib.strCells_toArray, ← HDS.out]; simpa using hbu4
    have hb14 := hb13.trans hb4
    have HBT := hide hbt
    have HB14 := hide hb14
    clear hbu3 hbu4 hb13 hb4 hsz3 hbt hb14
    go_wp2
    go_loopw [6, 7] (fun i _ wr => ∃ k : Nat, k ≤ t ∧ i = .int .i64 ((k : Int) - 1) ∧ Below w1.heap.size w1 wr ∧ Lib.BuilderAt 157 5 w1.heap.size w1.heap.size (.pointer (some ⟨w1.heap.size, 0, none⟩)) (Lib.byteCells (Lib.decDigits (N / U19 ^ k))) wr) (fun i _ _ => (intOf i + 1).toNat)
    case atStart => exact ⟨t, Nat.le_refl _, rfl, HB14.out, HBT.out⟩
    case round =>
      clear HBT HB14
      obtain ⟨k, hk, rfl, hbr, hbu⟩ := hrel
      have hszr := hbr.size
      rcases k with _ | k
      · rw [Nat.pow_zero, Nat.div_one] at hbu
        have hI : Lib.IsBuilder 157 5 w1.heap.size w1.heap.size (Lib.byteCells (Lib.decDigits N)) wr := .inr hbu
        clear hbu
        go_wp2_with fail
        refine (Tryz.Builder_String_any w1.heap.size w1.heap.size (Lib.decDigits N) _ hI hszr).mono ?_
        rintro e w5 ⟨rfl, hb5⟩
        have hbw := HB1.out.trans ((hbr.trans hb5).mono HB1.out.size)
        clear hI hb5 hbr
        go_wp2
        go_ret
        exact ⟨rfl, hbw⟩
      · have c0 : wr.cell? ⟨cb, cf + k, none⟩ = some (.int .u64 ((chunkD N k : Nat) : Int)) := (hbr.cell hcb).trans (HC.out k (by omega))
        have hct := chunk_text (N := N) (k := k) (HALL.out (k + 1) (by omega))
        have hd19 := chunk_dd (N := N) (k := k)
        have hlenk := HLEN.out k
        have hT : Tab wr := HTAB.out.below (HB1.out.trans (hbr.mono HB1.out.size))
        have fm := fun W hT => fmtUint_any (chunkD N k) (chunk_lt N k) W hT
        obtain ⟨d, hd⟩ : ∃ d, d = chunkD N k := ⟨_, rfl⟩
        rw [← hd] at c0 fm hct hd19
        obtain ⟨dz, hdz⟩ : ∃ dz : ByteArray, dz = ⟨(Lib.decDigits d).toArray⟩ := ⟨_, rfl⟩
        rw [← hdz] at fm
        obtain ⟨m, hm⟩ : ∃ m, m = (Lib.decDigits d).length := ⟨_, rfl⟩
        have hzs : dz.size = m := by rw [hdz, hm]; rfl
        obtain ⟨c, hc⟩ : ∃ c, c + m = 19 := ⟨19 - m, by omega⟩
        have hc1 : (19 : Int) - (m : Int) = (c : Int) := by omega
        have hcn : 19 - (Lib.decDigits d).length = c := by omega
        rw [hcn] at hct
        have FMk := hide fm
        have HDZ := hide hdz
        have HCT := hide hct
        have HZS := hide hzs
        have hkt : (k : Int) < ((t + 1 : Nat) : Int) := by omega
        have hbl : (Lib.decDigits (N / U19 ^ (k + 1))).length ≤ 20 * la + 1 := HLEN.out (k + 1)
        have HT := hide hT
        clear hct hd19 hlenk hd hdz hm hzs fm hcn hT
        go_wp2_with fail
        refine (FMk.out _ HT.out).mono ?_
        rintro e w5 ⟨rfl, hb5⟩
        have hbu5 := bld_below hbu hb5
        have hbr5 := hbr.trans (hb5.mono hszr)
        have hsz5 := hbr5.size
        have hzi : ((dz.size : Nat) : Int) = (m : Int) := by rw [HZS.out]
        clear hb5 hbu hbr c0 hszr
        obtain ⟨zs, hzs⟩ : ∃ zs : ByteArray, zs = ⟨(List.replicate c (48 : UInt8)).toArray⟩ := ⟨_, rfl⟩
        have rp : Calls Tryz.prog 135 #[.string ⟨#[48]⟩, .int .i64 (c : Int)] w5 fun e w' => e = .returned (.string zs) ∧ Below w5.heap.size w5 w' := by
          have h := Tryz.strings_Repeat ⟨#[48]⟩ c w5 (by omega) (by show 1 * c ≤ _; omega)
          rw [show (⟨#[48]⟩ : ByteArray).data.toList = [48] from rfl, repeat0, ← hzs] at h
          exact h
        have RP := hide rp
        have HZ0 := hide hzs
        have hz0 : zs.size = c := by rw [hzs]; show (List.replicate c (48 : UInt8)).length = c; simp
        clear rp hzs
        go_wp2_with fail
        refine RP.out.mono ?_
        rintro e w6 ⟨rfl, hb6⟩
        have hbu6 := bld_below hbu5 hb6
        have hbr6 := hbr5.trans (hb6.mono hsz5)
        have hsz6 := hbr6.size
        clear hb6 hbu5 hbr5 hsz5
        go_wp2_with fail
        refine (writeString_any w1.heap.size w1.heap.size _ zs _ (.inr hbu6) (by rw [Lib.byteCells_length]; omega) hsz6).mono ?_
        rintro e w7 ⟨rfl, hbu7, hb7⟩
        have hbr7 := hbr6.trans hb7
        have hsz7 := hbr7.size
        clear hb7 hbu6 hbr6 hsz6
        go_wp2_with fail
        refine (writeString_any w1.heap.size w1.heap.size _ dz _ (.inr hbu7) (by rw [List.length_append, Lib.byteCells_length, Lib.strCells_length, HZS.out]; omega) hsz7).mono ?_
        rintro e w8 ⟨rfl, hbu8, hb8⟩
        have hbr8 := hbr7.trans hb8
        rw [HZ0.out, HDZ.out, Lib.strCells_toArray, Lib.strCells_toArray, List.append_assoc, ← Lib.byteCells_append, ← Lib.byteCells_append, ← HCT.out] at hbu8
        have HB8 := hide hbu8
        have HBR8 := hide hbr8
        clear hb8 hbu7 hbr7 hsz7 hbu8 hbr8
        go_wp2
        go_roundw
        case rel => exact ⟨k, by omega, by go_num, HBR8.out, HB8.out⟩
        case measure => simp [intOf]

end Go.Proofs.YtobloamnaemfnaaGreatDoor

namespace Go.Proofs.YtobloamnaemfnaaGreatDoor
open Go.RowKit

def Nt (w : World) (v : Value) (n : Nat) : Prop := ∃ o c xs, v = .slice o (List.length xs) c ∧ xs.length ≤ c ∧ c ≤ 1000000 ∧ At .u64 w o xs ∧ Is B64 xs n

def Sm (n : Nat) : Prop := n < B64 ^ 10000

theorem ten8000 : powT 10 8000 < B64 ^ 10000 := by decide +kernel
theorem Sm.of {n k : Nat} (h : n < 10 ^ k) (hk : k ≤ 8000) : Sm n :=
  Nat.lt_trans (Nat.lt_of_lt_of_le h (powT_ge (by omega) hk)) ten8000

theorem Nt.below {w w' : World} {v : Value} {n : Nat} (h : Nt w v n) (hb : Below w.heap.size w w') : Nt w' v n := by
  obtain ⟨o, c, xs, h1, h2, h3, h4, h5⟩ := h
  exact ⟨o, c, xs, h1, h2, h3, h4.below hb, h5⟩

theorem Nt.of {w : World} {v : Value} {n base m : Nat} {r : List Nat} (h : Own .u64 134 w base m v r) (his : Is B64 r n) (hm : m ≤ 1000000) : Nt w v n := by
  obtain ⟨o, c, rfl, h1, h2, h3⟩ := h.shape
  exact ⟨o, c, r, rfl, h1, by omega, h3, his⟩

def Far (base : Nat) (v : Value) : Prop := ∀ o l c, v = .slice o l c → ∀ a, o = some a → base ≤ a.block

theorem Far.of {w : World} {v : Value} {base m : Nat} {r : List Nat} (h : Own .u64 134 w base m v r) : Far base v := by
  intro o l c hv a ha
  rcases h with ⟨rfl, _⟩ | ⟨g, full, rfl, h2, _⟩
  · cases hv; cases ha
  · cases hv; cases ha; exact h2

theorem is_len {xs : List Nat} {n : Nat} (h : Is B64 xs n) (hs : Sm n) : xs.length ≤ 10000 := by
  have h3 := trimmed_small (xs := xs) (t := 10000) (by rw [h.2.2]; exact hs)
  rw [trimmed_of_top h.2.1] at h3
  exact h3

def NtPost (w : World) (n : Nat) (e : Ending) (w' : World) : Prop := ∃ v, e = .returned v ∧ Nt w' v n ∧ Below w.heap.size w w' ∧ Far w.heap.size v

theorem nt_of (x : Nat) (w : World) (hx : x < B64) : Calls Tryz.prog 190 #[.int .u64 (x : Int)] w (NtPost w x) := by
  refine (of_any x w hx).mono ?_
  rintro e w' ⟨v, r, rfl, h1, h2, h3⟩
  exact ⟨v, rfl, Nt.of h1 h2 (by omega), h3, Far.of h1⟩

theorem nt_mul (a b : Value) (x y : Nat) (w : World) (ha : Nt w a x) (hb : Nt w b y) (hx : Sm x) (hy : Sm y) : Calls Tryz.prog 113 #[a, b] w (NtPost w (x * y)) := by
  obtain ⟨o, c, xs, rfl, h1, h2, h3, h4⟩ := ha
  obtain ⟨o', c', ys, rfl, h1', h2', h3', h4'⟩ := hb
  have l1 := is_len h4 hx
  have l2 := is_len h4' hy
  refine (mul_any o o' _ c _ c' xs ys w h1 (by omega) h1' (by omega) rfl rfl h3 h3' h4.1 h4'.1).mono ?_
  rintro e w' ⟨v, r, rfl, g1, g2, g3⟩
  rw [h4.2.2, h4'.2.2] at g2
  exact ⟨v, rfl, Nt.of g1 g2 (by omega), g3, Far.of g1⟩

def NtDiv (w : World) (q r : Nat) (e : Ending) (w' : World) : Prop := ∃ v1 v2, e = .returned (.tuple #[v1, v2, .int .i64 0]) ∧ Nt w' v1 q ∧ Nt w' v2 r ∧ Below w.heap.size w w'

theorem nt_div (a b : Value) (x y : Nat) (w : World) (ha : Nt w a x) (hb : Nt w b y) (hx : Sm x) (hy : Sm y) (h0 : y ≠ 0) : Calls Tryz.prog 194 #[a, b] w (NtDiv w (x / y) (x % y)) := by
  obtain ⟨o, c, xs, rfl, h1, h2, h3, h4⟩ := ha
  obtain ⟨o', c', ys, rfl, h1', h2', h3', h4'⟩ := hb
  have l1 := is_len h4 hx
  have l2 := is_len h4' hy
  refine (divmod_any o o' _ c _ c' xs ys w h1 (by omega) h1' (by omega) rfl rfl h3 h3' h4.1 h4'.1 (by rw [h4'.2.2]; exact h0)).mono ?_
  rintro e w' ⟨v1, r1, v2, r2, rfl, g1, g2, g3, g4, g5, _⟩
  rw [h4.2.2, h4'.2.2] at g3 g4
  exact ⟨v1, v2, rfl, Nt.of g1 g3 (by omega), Nt.of g2 g4 (by omega), g5⟩

def NtErr (w : World) (n : Nat) (er : Int) (e : Ending) (w' : World) : Prop := ∃ v, e = .returned (.tuple #[v, .int .i64 er]) ∧ Nt w' v n ∧ Below w.heap.size w w' ∧ Far w.heap.size v

theorem nt_cmp (a b : Value) (x y : Nat) (z : Int) (w : World) (ha : Nt w a x) (hb : Nt w b y) (hx : Sm x) (hy : Sm y) (hz : cmpN x y = z) : Calls Tryz.prog 209 #[a, b] w fun e w' => e = .returned (.int .i64 z) ∧ Below w.heap.size w w' := by
  obtain ⟨o, c, xs, rfl, h1, h2, h3, h4⟩ := ha
  obtain ⟨o', c', ys, rfl, h1', h2', h3', h4'⟩ := hb
  have l1 := is_len h4 hx
  have l2 := is_len h4' hy
  exact cmp_num o o' _ c _ c' xs ys w (by omega) (by omega) rfl rfl h3 h3' h4.1 h4'.1 z (by rw [h4.2.2, h4'.2.2]; exact hz)

theorem nt_text (a : Value) (x : Nat) (w : World) (ha : Nt w a x) (htab : Tab w) : Calls Tryz.prog 112 #[a] w fun e w' => e = .returned (.string ⟨(Lib.decDigits x).toArray⟩) ∧ Below w.heap.size w w' := by
  obtain ⟨o, c, xs, rfl, h1, h2, h3, h4⟩ := ha
  have h := text_any o _ c xs w h1 (by omega) rfl h3 h4.1 htab
  rw [h4.2.2] at h
  exact h

theorem nt_pow10 (n : Int) (k : Nat) (w : World) (hn : n = (k : Int)) (hk : k ≤ 8192) : Calls Tryz.prog 231 #[.int .i64 n] w (NtErr w (10 ^ k) 0) := by
  subst hn
  refine (pow10_in k w hk).mono ?_
  rintro e w' ⟨v, r, rfl, g1, g2, g3⟩
  exact ⟨v, rfl, Nt.of g1 g2 (by omega), g3, Far.of g1⟩

end Go.Proofs.YtobloamnaemfnaaGreatDoor

namespace Go.Proofs.YtobloamnaemfnaaGreatDoor
open Go.RowKit

def zv (neg : Bool) (n : Nat) : Int := if neg then -(n : Int) else (n : Int)

section
variable {w w' : World} {b : Nat} {x y : Value} {t : TypeId}
end

end Go.Proofs.YtobloamnaemfnaaGreatDoor

namespace Go.Proofs.YtobloamnaemfnaaGreatDoor
open Go.RowKit

end Go.Proofs.YtobloamnaemfnaaGreatDoor

namespace Go.Proofs.YtobloamnaemfnaaGreatDoor
open Go.RowKit

end Go.Proofs.YtobloamnaemfnaaGreatDoor
