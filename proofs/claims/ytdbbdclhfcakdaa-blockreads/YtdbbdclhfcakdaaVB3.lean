/-
  What the reference's Load does.
  Lists of reads in memory; two disks side by side.
  What quipulaw10's copied and stays do.
  What quipulaw10's stays does.
  BlockReads answers true.
  From what a row of the given statements hands over to the words of the walks: numbers, a fault, lists of faults and of reads.
  An argument that is a list of reads, as a row of the given statements hands it over.
-/
import Derived.Test.YtdbbdclhfcakdaaVB2
import Derived.Laws.StructEq
import Derived.Test.YtdbbdclhfcakdaaRows
import Derived.ProofKit
import Derived.OpenShut
import Derived.SizedLaws
import Derived.JoinedCond
import Derived.ChangeSame
import Derived.Lib.SmallJoins
import Derived.Deep.SlicePairs
namespace Go.Proofs.Ytdbbdclhfcakdaa
open Go.RowKit

section
variable {img : ByteArray} {fs : List Flt} {e f r : Nat} {acc : List UInt8}
end

end Go.Proofs.Ytdbbdclhfcakdaa

namespace Go.Proofs.Ytdbbdclhfcakdaa
open Go.RowKit

def nthO (os : List (Int × Int)) (i : Nat) : Int × Int := os[i]?.getD (0, 0)

def OSl (w : World) (v : Value) (os : List (Int × Int)) : Prop := ∃ ao cap, v = .slice ao os.length cap ∧ os.length ≤ cap ∧ (os = [] ∨ ∃ b o, ao = some ⟨b, o, none⟩ ∧ b < w.heap.size ∧ ∀ i, i < os.length → w.cell? ⟨b, o + i * 2, none⟩ = some (.int .i64 (nthO os i).1) ∧ w.cell? ⟨b, o + i * 2 + 1, none⟩ = some (.int .i64 (nthO os i).2))

def rdsN (img : ByteArray) (fs : List Flt) (os : List (Int × Int)) : Nat → Nat
  | 0 => 0
  | k + 1 => (readT img fs (rdsN img fs os k) (nthO os k).1 (nthO os k).2).2.2

theorem readT_le (img : ByteArray) (fs : List Flt) (r : Nat) (a n : Int) : (readT img fs r a n).2.2 ≤ r + 1 := by
  unfold readT
  split
  · exact Nat.le_refl _
  · exact Nat.le_succ _
theorem rdsN_le (img : ByteArray) (fs : List Flt) (os : List (Int × Int)) : ∀ k, rdsN img fs os k ≤ k
  | 0 => Nat.le_refl _
  | k + 1 => Nat.le_trans (readT_le _ _ _ _ _) (Nat.succ_le_succ (rdsN_le img fs os k))

structure Pair2 (w0 w : World) (D E : Nat) (u x : Value) (img : ByteArray) (fs : List Flt) (r : Nat) : Prop where
  d : Dsk 60 w D u img fs r
  e : Dsk 46 w E x img fs r
  ne : D ≠ E
  ou : Off u E
  ox : Off x D
  lu : Low u w.heap.size
  b : Below w0.heap.size w0 w
  hD : w0.heap.size ≤ D
  hE : w0.heap.size ≤ E

theorem Pair2.below {w0 w w' : World} {D E : Nat} {u x : Value} {img : ByteArray} {fs : List Flt} {r : Nat} (h : Pair2 w0 w D E u x img fs r) (hb : Below w.heap.size w w') : Pair2 w0 w' D E u x img fs r :=
  ⟨h.d.below hb, h.e.below hb, h.ne, h.ou, h.ox, fun b o l c e => Nat.lt_of_lt_of_le (h.lu b o l c e) hb.size, h.b.trans (hb.mono h.b.size), h.hD, h.hE⟩

theorem Pair2.step {w0 w w1 w2 : World} {D E : Nat} {u x : Value} {img : ByteArray} {fs : List Flt} {r r' : Nat} (h : Pair2 w0 w D E u x img fs r) (h1 : But D w w1) (d1 : Dsk 60 w1 D u img fs r') (h2 : But E w1 w2) (d2 : Dsk 46 w2 E x img fs r') : Pair2 w0 w2 D E u x img fs r' :=
  ⟨d1.but h2 h.ne h.ou, d2, h.ne, h.ou, h.ox, fun b o l c e => Nat.lt_of_lt_of_le (h.lu b o l c e) (Nat.le_trans h1.size h2.size), h.b.trans ((h1.to_below h.b.size h.hD).trans (h2.to_below (Nat.le_trans h.b.size h1.size) h.hE)), h.hD, h.hE⟩

theorem Pair2.other {w0 w w1 : World} {D E : Nat} {u x : Value} {img : ByteArray} {fs : List Flt} {r : Nat} (h : Pair2 w0 w D E u x img fs r) (h1 : But D w w1) : Dsk 46 w1 E x img fs r := h.e.but h1 (fun e => h.ne e.symm) h.ox

theorem pair_new {w0 w1 w2 : World} {D E : Nat} {u x : Value} {img : ByteArray} {fs : List Flt} (hd : Dsk 60 w1 D u img fs 0) (hu : ∀ b o l c, u = .slice (some ⟨b, o, none⟩) l c → b < w1.heap.size) (b1 : Below w0.heap.size w0 w1) (hD : w0.heap.size ≤ D)
    (he : Dsk 46 w2 E x img fs 0) (hx : ∀ b o l c, x = .slice (some ⟨b, o, none⟩) l c → w1.heap.size ≤ b ∧ b < w2.heap.size) (b2 : Below w1.heap.size w1 w2) (hE : w1.heap.size ≤ E) : Pair2 w0 w2 D E u x img fs 0 := by
  have hDl := hd.blk.lt
  refine ⟨hd.below b2, he, by omega, fun b o l c e => ?_, fun b o l c e => ?_, fun b o l c e => ?_, b1.trans (b2.mono b1.size), hD, Nat.le_trans b1.size hE⟩
  · have := hu b o l c e; omega
  · have := (hx b o l c e).1; omega
  · have := hu b o l c e; have := b2.size; omega

end Go.Proofs.Ytdbbdclhfcakdaa

namespace Go.Proofs.Ytdbbdclhfcakdaa
open Go.RowKit

def mark7 : Flt := ⟨-7, 0, 0, 0⟩

theorem cellsF_app (a b : List Flt) : cellsF (a ++ b) = cellsF a ++ cellsF b := by unfold cellsF; rw [List.flatMap_append]

theorem flt_eq (f : Flt) (W : World) : (binOp .neq 40 (.agg #[.int .i64 f.at_, .int .i64 f.kind, .int .i64 f.byte, .int .i64 f.bit]) (.agg #[.int .i64 f.at_, .int .i64 f.kind, .int .i64 f.byte, .int .i64 f.bit])).run Try.prog W = .ok (.bool false) W := by
  simp [go_sem, Try.underlying40, Try.underlying3, Program.fieldsOf]

set_option maxRecDepth 100000 in
set_option maxHeartbeats 2000000 in
theorem copied_at (ad : Addr) (cap : Nat) (fs : List Flt) (w : World) (hl : fs.length * 32 ≤ 140737488351232) (h : ∀ j u, (cellsF fs)[j]? = some u → w.cell? (ad.add j) = some u) : Calls Try.prog 14 #[.slice (some ad) fs.length cap] w fun e w' => ∃ g c, e = .returned (.slice (some ⟨g, 0, none⟩) fs.length c) ∧ w'.ownsRow w.heap.size 40 4 (.slice (some ⟨g, 0, none⟩) (fs.length + 1) c) (fs.length + 1) (cellsF (fs ++ [mark7])) ∧ Below w.heap.size w w' := by
  obtain ⟨i0, hi, hz0, hz1, hz2⟩ := info_parts Try.infoF
  have HN := hide h
  have HB0 : Hid (Below w.heap.size w (w.alloc (.cells #[] 40))) := (Below.refl _ _).alloc (Nat.le_refl _) _
  clear h
  go_enter Try.func14, Try.ntmps14
  go_wp2_with (at_builtin; refine wpList_append_own _ rfl _ _ 29 rfl w.heap.size 40 i0 (.agg #[.int .i64 0, .int .i64 0, .int .i64 0, .int .i64 0]) 4 32 Try.underlying29 hi hz0 hz1 hz2 rfl (by decide) _ 0 [] rfl (World.ownsRow_made w #[] 0 (Nat.le_refl _) (by decide) rfl) ad fs.length cap (cellsF fs) rfl (cellsF_len fs) ?_ (cellsF_one fs) ?_ ?_ ?_ ?_)
  · intro j u hj
    have := HN.out j u hj
    rw [HB0.out.cell (World.block_lt_of_cell? w _ this)]
    exact this
  · unfold maxLen; omega
  · omega
  · simp
  · intro v' w' hown hgr _
    have hown2 : w'.ownsRow w.heap.size 40 4 v' fs.length (cellsF fs) := by simpa using hown
    have HBf := hide (HB0.out.grown hgr (by simp) (fun q hq => by simp [Value.ownBlock] at hq; omega))
    obtain ⟨uo, uc, rfl⟩ : ∃ uo uc, v' = .slice uo fs.length uc := by
      rcases hown2.2 with ⟨rfl, h0⟩ | ⟨g, c, cur, rfl, _⟩
      · exact ⟨none, 0, by rw [h0]⟩
      · exact ⟨_, _, rfl⟩
    have HOW := hide hown2
    have hal : Below w'.heap.size w' (w'.alloc (.cells #[.int .i64 (-7), .int .i64 0, .int .i64 0, .int .i64 0] 40)) := (Below.refl _ _).alloc (Nat.le_refl _) _
    have HBg := hide (HBf.out.trans (hal.mono HBf.out.size))
    have HOW2 : Hid ((w'.alloc (.cells #[.int .i64 (-7), .int .i64 0, .int .i64 0, .int .i64 0] 40)).ownsRow w.heap.size 40 4 (.slice uo fs.length uc) fs.length (cellsF fs)) := hide (World.ownsRow.kept HOW.out (row := none) ⟨hal.os, hal.tape, hal.output, hal.size, fun k hk _ => hal.block k hk⟩ (by cases uo <;> simp [Value.ownBlock]))
    have BQ := hide (Blk.newAt w' w'.heap.size rfl #[.int .i64 (-7), .int .i64 0, .int .i64 0, .int .i64 0] 40)
    clear hown hgr hown2 hal
    go_wp2_with (at_builtin; refine wpList_append_own _ rfl _ _ 29 rfl w.heap.size 40 i0 (.agg #[.int .i64 0, .int .i64 0, .int .i64 0, .int .i64 0]) 4 32 Try.underlying29 hi hz0 hz1 hz2 rfl (by decide) _ fs.length (cellsF fs) rfl HOW2.out ⟨w'.heap.size, 0, none⟩ 1 1 (cellsF [mark7]) rfl rfl ?_ (cellsF_one _) ?_ ?_ ?_ ?_)
    · intro j u hj
      have e : cellsF [mark7] = [.int .i64 (-7), .int .i64 0, .int .i64 0, .int .i64 0] := rfl
      rw [e] at hj
      rw [Addr.add_lit, Nat.zero_add, BQ.out.cell j]
      rw [← hj]
      simp
    · unfold maxLen; omega
    · omega
    · have := HBg.out.size
      exact this
    · intro v' w3 hown hgr _
      rw [← cellsF_app] at hown
      obtain ⟨g, c, rfl, hcap, hgb⟩ : ∃ g c, v' = .slice (some ⟨g, 0, none⟩) (fs.length + 1) c ∧ fs.length + 1 ≤ c ∧ w.heap.size ≤ g := by
        rcases hown.2 with ⟨_, h0⟩ | ⟨g, c, cur, rfl, hg, _, hn, _⟩
        · omega
        · exact ⟨g, c, rfl, hn, hg⟩
      have HOF := hide hown
      have HBh := hide (HBg.out.grown hgr HBg.out.size (fun q hq => (World.ownsRow.lt HOW2.out q hq).1))
      have hfc : (fs.length : Int) ≤ (c : Int) := by omega
      clear hown hgr
      go_wp2
      go_ret
      exact ⟨g, c, rfl, HOF.out, HBh.out⟩

set_option maxRecDepth 100000 in
set_option maxHeartbeats 2000000 in
theorem copied_nil (w : World) : Calls Try.prog 14 #[.slice none 0 0] w fun e w' => ∃ g c, e = .returned (.slice (some ⟨g, 0, none⟩) 0 c) ∧ w'.ownsRow w.heap.size 40 4 (.slice (some ⟨g, 0, none⟩) 1 c) 1 (cellsF [mark7]) ∧ Below w.heap.size w w' := by
  obtain ⟨i0, hi, hz0, hz1, hz2⟩ := info_parts Try.infoF
  have HB0 : Hid (Below w.heap.size w (w.alloc (.cells #[] 40))) := (Below.refl _ _).alloc (Nat.le_refl _) _
  have HOW := hide (World.ownsRow_made (base := w.heap.size) (e := 40) (size := 4) w #[] 0 (Nat.le_refl _) (by decide) rfl)
  have hal : Below (w.alloc (.cells #[] 40)).heap.size (w.alloc (.cells #[] 40)) ((w.alloc (.cells #[] 40)).alloc (.cells #[.int .i64 (-7), .int .i64 0, .int .i64 0, .int .i64 0] 40)) := (Below.refl _ _).alloc (Nat.le_refl _) _
  have HBg := hide (HB0.out.trans (hal.mono HB0.out.size))
  have HOW2 : Hid (((w.alloc (.cells #[] 40)).alloc (.cells #[.int .i64 (-7), .int .i64 0, .int .i64 0, .int .i64 0] 40)).ownsRow w.heap.size 40 4 (.slice (some ⟨w.heap.size, 0, none⟩) 0 0) 0 []) := hide (World.ownsRow.kept HOW.out (row := none) ⟨hal.os, hal.tape, hal.output, hal.size, fun k hk _ => hal.block k hk⟩ (by simp [Value.ownBlock]))
  have BQ := hide (Blk.newAt (w.alloc (.cells #[] 40)) (w.heap.size + 1) (by simp) #[.int .i64 (-7), .int .i64 0, .int .i64 0, .int .i64 0] 40)
  clear hal
  go_enter Try.func14, Try.ntmps14
  go_wp2_with (at_builtin; first
    | refine wpList_append_own_none rfl _ _ 29 rfl w.heap.size 40 i0 4 Try.underlying29 hi _ 0 [] rfl HOW.out rfl ?_
    | (refine wpList_append_own _ rfl _ _ 29 rfl w.heap.size 40 i0 (.agg #[.int .i64 0, .int .i64 0, .int .i64 0, .int .i64 0]) 4 32 Try.underlying29 hi hz0 hz1 hz2 rfl (by decide) _ 0 [] rfl HOW2.out ⟨w.heap.size + 1, 0, none⟩ 1 1 (cellsF [mark7]) rfl rfl ?_ (cellsF_one _) ?_ ?_ ?_ ?_))
  · intro j u hj
    have e : cellsF [mark7] = [.int .i64 (-7), .int .i64 0, .int .i64 0, .int .i64 0] := rfl
    rw [e] at hj
    rw [Addr.add_lit, Nat.zero_add, BQ.out.cell j]
    rw [← hj]
    simp
  all_goals (try (first | (unfold maxLen; omega) | omega | exact HBg.out.size))
  · intro v' w3 hown hgr _
    obtain ⟨g, c, rfl, hcap, hgb⟩ : ∃ g c, v' = .slice (some ⟨g, 0, none⟩) 1 c ∧ 1 ≤ c ∧ w.heap.size ≤ g := by
      rcases hown.2 with ⟨_, h0⟩ | ⟨g, c, cur, rfl, hg, _, hn, _⟩
      · omega
      · exact ⟨g, c, rfl, hn, hg⟩
    have HOF := hide hown
    have HBh := hide (HBg.out.grown hgr HBg.out.size (fun q hq => (World.ownsRow.lt HOW2.out q hq).1))
    have hfc : (0 : Int) ≤ (c : Int) := by omega
    clear hown hgr
    go_wp2
    go_ret
    exact ⟨g, c, rfl, HOF.out, HBh.out⟩

theorem copied_any {w : World} {v : Value} {fs : List Flt} (h : FArg w v fs) (hl : fs.length * 32 ≤ 140737488351232) : Calls Try.prog 14 #[v] w fun e w' => ∃ g c, e = .returned (.slice (some ⟨g, 0, none⟩) fs.length c) ∧ w'.ownsRow w.heap.size 40 4 (.slice (some ⟨g, 0, none⟩) (fs.length + 1) c) (fs.length + 1) (cellsF (fs ++ [mark7])) ∧ Below w.heap.size w w' := by
  obtain ⟨⟨ao, cap, rfl, _, h3⟩, hn⟩ := h
  cases ao with
  | none =>
    rcases h3 with rfl | ⟨b, o, he, _⟩
    · obtain rfl := hn _ _ rfl
      exact copied_nil w
    · cases he
  | some ad =>
    refine copied_at ad cap fs w hl ?_
    rcases id h3 with rfl | ⟨b, o, he, _⟩
    · intro j u hj; simp [cellsF] at hj
    · cases he
      exact h3.news

end Go.Proofs.Ytdbbdclhfcakdaa

namespace Go.Proofs.Ytdbbdclhfcakdaa
open Go.RowKit

def At4 (w : World) (b o : Nat) (f : Flt) (i : Nat) : Prop := w.cell? ⟨b, o + i * 4, none⟩ = some (.int .i64 f.at_) ∧ w.cell? ⟨b, o + i * 4 + 1, none⟩ = some (.int .i64 f.kind) ∧ w.cell? ⟨b, o + i * 4 + 2, none⟩ = some (.int .i64 f.byte) ∧ w.cell? ⟨b, o + i * 4 + 3, none⟩ = some (.int .i64 f.bit)

set_option maxRecDepth 100000 in
set_option maxHeartbeats 2000000 in
theorem stays_go (g c b o cap n : Nat) (fs : List Flt) (w : World) (hl : n * 32 ≤ 140737488351232) (hc : n + 1 ≤ c) (hgl : g < w.heap.size) (hbl : b < w.heap.size) (h1 : ∀ i, i < n → At4 w g 0 (nth fs i) i) (h2 : ∀ i, i < n → At4 w b o (nth fs i) i) (h3 : w.cell? ⟨g, n * 4, none⟩ = some (.int .i64 (-7))) :
    Calls Try.prog 17 #[.slice (some ⟨g, 0, none⟩) n c, .slice (some ⟨b, o, none⟩) n cap] w fun e w' => e = .returned (.bool true) ∧ Below w.heap.size w w' := by
  have H1 := hide h1
  have H2 := hide h2
  have H3 := hide h3
  clear h1 h2 h3
  go_enter Try.func17, Try.ntmps17
  go_wp2
  go_loopw [5] (fun p wr => ∃ k : Nat, k ≤ n ∧ p = .int .i64 (k : Int) ∧ Hid (Below w.heap.size w wr)) (fun p _ => n - (intOf p).toNat)
  case atStart => exact ⟨0, Nat.zero_le _, rfl, Below.refl _ _⟩
  case round =>
    obtain ⟨k, hk, rfl, HB⟩ := hrel
    by_cases hlt : k < n
    · have hlt' : (k : Int) < (n : Int) := by omega
      obtain ⟨a0, a1, a2, a3⟩ := H1.out k hlt
      obtain ⟨b0, b1, b2, b3⟩ := H2.out k hlt
      have cg : ∀ j, wr.cell? ⟨g, j, none⟩ = w.cell? ⟨g, j, none⟩ := fun j => HB.out.cell hgl
      have cb : ∀ j, wr.cell? ⟨b, j, none⟩ = w.cell? ⟨b, j, none⟩ := fun j => HB.out.cell hbl
      rw [← cg, Nat.zero_add] at a0 a1 a2 a3
      rw [← cb] at b0 b1 b2 b3
      generalize nth fs k = f at *
      have hfe := flt_eq f
      clear cg cb
      go_wp2_with fail
      go_region
      go_wp2
      exact ⟨⟨k + 1, by omega, by go_num, HB.out.drew⟩, by simp [intOf]; omega⟩
    · obtain rfl : k = n := by omega
      have hlt' : ¬ (k : Int) < (k : Int) := by omega
      have c7 : wr.cell? ⟨g, k * 4, none⟩ = some (.int .i64 (-7)) := (HB.out.cell hgl).trans H3.out
      have hc1 : (k : Int) + 1 ≤ (c : Int) := by omega
      have hk1 : (k : Int) < (k : Int) + 1 := by omega
      have htn : ((k : Int) + 1).toNat = k + 1 := by omega
      clear hlt
      go_wp2
      go_ret
      exact ⟨rfl, HB.out⟩

set_option maxRecDepth 100000 in
set_option maxHeartbeats 2000000 in
theorem stays_nil (g c cap : Nat) (ao : Option Addr) (w : World) (hc : 1 ≤ c) (h3 : w.cell? ⟨g, 0, none⟩ = some (.int .i64 (-7))) :
    Calls Try.prog 17 #[.slice (some ⟨g, 0, none⟩) 0 c, .slice ao 0 cap] w fun e w' => e = .returned (.bool true) ∧ Below w.heap.size w w' := by
  have hc1 : (1 : Int) ≤ (c : Int) := by omega
  go_enter Try.func17, Try.ntmps17
  go_wp2
  go_loopw [5] (fun p wr => p = .int .i64 0 ∧ wr = w) (fun p _ => 0)
  case atStart => exact ⟨rfl, rfl⟩
  case round =>
    obtain ⟨rfl, hw⟩ := hrel
    replace hw := hw.symm
    subst hw
    go_wp2
    go_ret
    exact ⟨rfl, Below.refl _ _⟩

theorem own_at4 {w : World} {base g n c : Nat} {fs : List Flt} (h : w.ownsRow base 40 4 (.slice (some ⟨g, 0, none⟩) n c) n (cellsF fs)) (hn : n = fs.length) : base ≤ g ∧ g < w.heap.size ∧ n ≤ c ∧ ∀ i, i < n → At4 w g 0 (nth fs i) i := by
  subst hn
  have hlt := World.ownsRow.lt h g rfl
  obtain ⟨⟨ao, cap, he, hle, hfa⟩, _⟩ := FOwn.of_owns h
  simp only [Value.slice.injEq] at he
  obtain ⟨rfl, _, rfl⟩ := he
  refine ⟨hlt.1, hlt.2, hle, fun i hi => ?_⟩
  rcases hfa with rfl | ⟨b, o, he, _, hc⟩
  · simp at hi
  · simp only [Option.some.injEq, Addr.mk.injEq] at he
    obtain ⟨rfl, rfl, _⟩ := he
    exact hc i hi

theorem stays_any {w : World} {v : Value} {fs : List Flt} {g c base : Nat} (h : FArg w v fs) (hl : fs.length * 32 ≤ 140737488351232) (ho : w.ownsRow base 40 4 (.slice (some ⟨g, 0, none⟩) (fs.length + 1) c) (fs.length + 1) (cellsF (fs ++ [mark7]))) :
    Calls Try.prog 17 #[.slice (some ⟨g, 0, none⟩) fs.length c, v] w fun e w' => e = .returned (.bool true) ∧ Below w.heap.size w w' := by
  obtain ⟨_, hgl, hc, ha⟩ := own_at4 ho (by simp)
  have h7 : w.cell? ⟨g, fs.length * 4, none⟩ = some (.int .i64 (-7)) := by
    have := (ha fs.length (by omega)).1
    rw [Nat.zero_add] at this
    have e : nth (fs ++ [mark7]) fs.length = mark7 := by unfold nth; simp
    rw [e] at this
    exact this
  obtain ⟨⟨ao, cap, rfl, _, h3⟩, _⟩ := h
  rcases h3 with rfl | ⟨b, o, rfl, hb, h3⟩
  · exact stays_nil g c cap ao w hc h7
  · refine stays_go g c b o cap fs.length fs w hl hc hgl hb (fun i hi => ?_) (fun i hi => h3 i hi) h7
    have := ha i (by omega)
    have e : nth (fs ++ [mark7]) i = nth fs i := by unfold nth; rw [List.getElem?_append_left hi]
    rwa [e] at this

end Go.Proofs.Ytdbbdclhfcakdaa

namespace Go.Proofs.Ytdbbdclhfcakdaa
open Go.RowKit

def GB (w : World) (g N : Nat) : Prop := ∃ cur : Array Value, w.heap[g]? = some (.cells cur 40 (0, 0)) ∧ cur.size = N

theorem GB.cell {w : World} {g N i : Nat} (h : GB w g N) (hi : i < N) : ∃ x, w.cell? ⟨g, i, none⟩ = some x := by
  obtain ⟨cur, hh, hs⟩ := h
  exact ⟨cur[i]'(by omega), by simp [World.cell?, hh, show i < cur.size by omega]⟩
theorem GB.free {w : World} {g N : Nat} (h : GB w g N) (i : Nat) : w.frozen? ⟨g, i, none⟩ = false := by
  obtain ⟨cur, hh, hs⟩ := h
  simp [World.frozen?, hh]
theorem GB.set {w : World} {g N : Nat} (h : GB w g N) (i : Nat) (v : Value) : GB (w.setCell ⟨g, i, none⟩ v) g N := by
  obtain ⟨cur, hh, hs⟩ := h
  refine ⟨cur.set! i v, ?_, by simpa using hs⟩
  simp only [World.setCell, Array.getElem?_modify, if_true, hh, Option.map_some]
  rfl
theorem GB.below {w w' : World} {g N : Nat} (h : GB w g N) (hb : Below w.heap.size w w') : GB w' g N := by
  obtain ⟨cur, hh, hs⟩ := h
  exact ⟨cur, by rw [hb.block g (lt_of_block hh)]; exact hh, hs⟩
theorem GB.of_owns {w : World} {base g n c : Nat} {xs : List Value} (h : w.ownsRow base 40 4 (.slice (some ⟨g, 0, none⟩) n c) n xs) : GB w g (c * 4) := by
  rcases h.2 with ⟨he, _⟩ | ⟨g', c', cur, he, _, hh, _, _, hs, _⟩
  · simp at he
  · simp only [Value.slice.injEq, Option.some.injEq, Addr.mk.injEq] at he
    obtain ⟨⟨rfl, _⟩, _, rfl⟩ := he
    exact ⟨cur, hh, hs⟩

theorem Pair2.over {w0 w w' : World} {D E g : Nat} {u x : Value} {img : ByteArray} {fs : List Flt} {r : Nat} (h : Pair2 w0 w D E u x img fs r) (hb : But g w w') (h1 : D ≠ g) (h2 : E ≠ g) (h3 : Off u g) (h4 : Off x g) (h5 : w0.heap.size ≤ g) : Pair2 w0 w' D E u x img fs r :=
  ⟨h.d.but hb h1 h3, h.e.but hb h2 h4, h.ne, h.ou, h.ox, fun b o l c e => Nat.lt_of_lt_of_le (h.lu b o l c e) hb.size, h.b.trans (hb.to_below h.b.size h5), h.hD, h.hE⟩

set_option maxRecDepth 100000 in
set_option maxHeartbeats 4000000 in
theorem reads_bad (w : World) (img : ByteArray) (v q : Value) (fs : List Flt) (hf : FArg w v fs) (hfl : fs.length * 32 ≤ 140737488351232) (E : Int) (h1 : ∀ X u, FArg X u fs → Calls Try.prog 15 #[.string img, u] X fun e w' => e = .returned (.tuple #[.pointer none, .int .i64 E]) ∧ Below X.heap.size X w') (h2 : ∀ X u, FArg X u fs → Calls Try.prog 16 #[.string img, u] X fun e w' => e = .returned (.tuple #[.pointer none, .int .i64 E]) ∧ Below X.heap.size X w') : Calls Try.prog 4 #[.string img, v, q] w fun e w' => e = .returned (.bool true) ∧ Below w.heap.size w w' := by
  have H1 := hide h1
  have H2 := hide h2
  have hq : (E != E) = false := by simp
  clear h1 h2
  have K5 := hide (fun X => fixed_any X)
  have K0 := hide (copied_any hf hfl)
  have HF := hide hf
  obtain ⟨n, hn⟩ : ∃ n, n = fs.length := ⟨_, rfl⟩
  rw [← hn] at K0 hfl
  have HNN := hide hn
  clear hf hn
  go_enter Try.func4, Try.ntmps4
  go_wp2_with fail
  refine K0.out.mono ?_
  rintro e w1 ⟨g, c, rfl, hown, hb⟩
  have HOW := hide hown
  have HB1 := hide hb
  obtain ⟨hg1, hg2, hnc, hat⟩ := own_at4 hown (by rw [List.length_append, HNN.out]; rfl)
  have HFO : Hid (FArg w1 (.slice (some ⟨g, 0, none⟩) n c) fs) := hide (by
    refine ⟨⟨_, _, by rw [HNN.out], by rw [← HNN.out]; omega, .inr ⟨g, 0, rfl, hg2, fun i hi => ?_⟩⟩, fun l c e => by simp at e⟩
    have := hat i (by rw [HNN.out]; omega)
    have e : nth (fs ++ [mark7]) i = nth fs i := by unfold nth; rw [List.getElem?_append_left hi]
    rwa [e] at this)
  clear hown hb hat K0
  go_wp2_with fail
  refine (H1.out w1 _ HFO.out).mono ?_
  rintro e w2 ⟨rfl, hb⟩
  have HB2 := hide (HB1.out.trans (hb.mono HB1.out.size))
  have H12 := hide hb
  clear hb
  go_wp2_with fail
  refine (H2.out w2 _ (HF.out.below HB2.out)).mono ?_
  rintro e w2' ⟨rfl, hb⟩
  have HB2' := hide (HB2.out.trans (hb.mono HB2.out.size))
  have H13 := hide (H12.out.trans (hb.mono H12.out.size))
  have HOW2 := hide (World.ownsRow.kept HOW.out (row := none) ⟨H13.out.os, H13.out.tape, H13.out.output, H13.out.size, fun k hk _ => H13.out.block k hk⟩ (.inr (by simp [Value.ownBlock])))
  have KS := hide (stays_any (HF.out.below HB2'.out) (by rw [← HNN.out]; exact hfl) (by rw [← HNN.out]; exact HOW2.out))
  rw [← HNN.out] at KS
  clear hb HB2 H12
  go_wp2_with fail
  refine KS.out.mono ?_
  rintro e w3 ⟨rfl, hb⟩
  have HB3 := hide (HB2'.out.trans (hb.mono HB2'.out.size))
  have HGB := hide ((GB.of_owns HOW2.out).below hb)
  clear hb KS HOW2 HOW HFO HF H13 HB2' H1 H2
  go_wp2
  go_loopw [12] (fun p wr => ∃ k : Nat, k ≤ n ∧ p = .int .i64 (k : Int) ∧ Hid (But g w3 wr ∧ GB wr g (c * 4))) (fun p _ => n - (intOf p).toNat)
  case atStart => exact ⟨0, Nat.zero_le _, rfl, But.refl _ _, HGB.out⟩
  case round =>
    obtain ⟨k, hk, rfl, HG⟩ := hrel
    by_cases hlt : k < n
    · have hlt' : (k : Int) < (n : Int) := by omega
      obtain ⟨x0, y0⟩ := HG.out.2.cell (i := k * 4) (by omega)
      obtain ⟨x1, y1⟩ := HG.out.2.cell (i := k * 4 + 1) (by omega)
      obtain ⟨x2, y2⟩ := HG.out.2.cell (i := k * 4 + 2) (by omega)
      obtain ⟨x3, y3⟩ := HG.out.2.cell (i := k * 4 + 3) (by omega)
      have f0 := HG.out.2.free (k * 4)
      have f1 := HG.out.2.free (k * 4 + 1)
      have f2 := HG.out.2.free (k * 4 + 2)
      have f3 := HG.out.2.free (k * 4 + 3)
      have ng : ∀ i j : Nat, i ≠ j → ¬ k * 4 + i = k * 4 + j := fun i j h => by omega
      clear ng
      go_wp2
      exact ⟨⟨k + 1, by omega, by go_num, (((HG.out.1.set _ _).set _ _).set _ _).set _ _, (((HG.out.2.set _ _).set _ _).set _ _).set _ _⟩, by simp [intOf]; omega⟩
    · obtain rfl : k = n := by omega
      have hlt' : ¬ (k : Int) < (k : Int) := by omega
      clear hlt
      have HBX := hide (HB3.out.trans (HG.out.1.to_below HB3.out.size hg1))
      go_wp2_with fail
      refine (K5.out _).mono ?_
      rintro e w7 ⟨rfl, hb⟩
      have HB7 := hide (HBX.out.trans (hb.mono HBX.out.size))
      clear hb
      go_wp2
      go_ret
      exact ⟨rfl, HB7.out⟩

set_option maxRecDepth 100000 in
set_option maxHeartbeats 4000000 in
theorem reads_ok (w : World) (img : ByteArray) (v q : Value) (fs : List Flt) (os : List (Int × Int)) (hi : img.size ≤ 65552) (hf : FArg w v fs) (hfl : fs.length * 32 ≤ 140737488351232) (hm : mayAllF fs = true) (hq : OSl w q os) (hol : os.length ≤ 10000000000000) : Calls Try.prog 4 #[.string img, v, q] w fun e w' => e = .returned (.bool true) ∧ Below w.heap.size w w' := by
  have HM := hide hm
  obtain ⟨ao, cap, rfl, hoc, hoa⟩ := hq
  have HOA := hide hoa
  obtain ⟨L, hL⟩ : ∃ L, L = os.length := ⟨_, rfl⟩
  rw [← hL] at hoc hol ⊢
  have HL := hide hL
  clear hm hoa hL
  have K5 := hide (fun X => fixed_any X)
  have K0 := hide (copied_any hf hfl)
  have HF := hide hf
  obtain ⟨n, hn⟩ : ∃ n, n = fs.length := ⟨_, rfl⟩
  rw [← hn] at K0 hfl
  have HNN := hide hn
  clear hf hn
  go_enter Try.func4, Try.ntmps4
  go_wp2_with fail
  refine K0.out.mono ?_
  rintro e w1 ⟨g, c, rfl, hown, hb⟩
  have HOW := hide hown
  have HB1 := hide hb
  obtain ⟨hg1, hg2, hnc, hat⟩ := own_at4 hown (by rw [List.length_append, HNN.out]; rfl)
  have HFO : Hid (FArg w1 (.slice (some ⟨g, 0, none⟩) n c) fs) := hide (by
    refine ⟨⟨_, _, by rw [HNN.out], by rw [← HNN.out]; omega, .inr ⟨g, 0, rfl, hg2, fun i hi => ?_⟩⟩, fun l c e => by simp at e⟩
    have := hat i (by rw [HNN.out]; omega)
    have e : nth (fs ++ [mark7]) i = nth fs i := by unfold nth; rw [List.getElem?_append_left hi]
    rwa [e] at this)
  clear hown hb hat K0
  have K1 := hide (New_ok img hi HFO.out HM.out)
  go_wp2_with fail
  refine K1.out.mono ?_
  rintro e w2 ⟨D, u, rfl, hD, hds, hu, hb⟩
  have HB2 := hide (HB1.out.trans (hb.mono HB1.out.size))
  have H12 := hide hb
  have HDS := hide hds
  have HU := hide hu
  have K2 := hide (rNew_ok img hi (HF.out.below HB2.out) HM.out)
  have HDg : Hid (g < D ∧ w.heap.size ≤ D) := hide (by have := HB1.out.size; omega)
  clear hb hds hu hD K1
  go_wp2_with fail
  refine K2.out.mono ?_
  rintro e w2' ⟨E, rfl, hE, x, hes, hx, hb⟩
  have HP := hide (pair_new HDS.out (fun b o l c e => (HU.out b o l c e).2) HB2.out HDg.out.2 hes hx hb hE)
  have HGO : Hid (D ≠ g ∧ E ≠ g ∧ Off u g ∧ Off x g) := hide (by
    have hDl := HDS.out.blk.lt
    refine ⟨by have := HDg.out.1; omega, by have := HDg.out.1; omega, fun b o l c e => ?_, fun b o l c e => ?_⟩
    · have := (HU.out b o l c e).1; omega
    · have := (hx b o l c e).1; have := HDg.out.1; omega)
  have H13 := hide (H12.out.trans (hb.mono H12.out.size))
  have HOW2 := hide (World.ownsRow.kept HOW.out (row := none) ⟨H13.out.os, H13.out.tape, H13.out.output, H13.out.size, fun k hk _ => H13.out.block k hk⟩ (.inr (by simp [Value.ownBlock])))
  have KS := hide (stays_any (HF.out.below HP.out.b) (by rw [← HNN.out]; exact hfl) (by rw [← HNN.out]; exact HOW2.out))
  rw [← HNN.out] at KS
  clear hb hes hx hE K2 HDS HU HDg HB2 H12
  go_wp2_with fail
  refine KS.out.mono ?_
  rintro e w3 ⟨rfl, hb⟩
  have HP3 := hide (HP.out.below hb)
  have HGB := hide ((GB.of_owns HOW2.out).below hb)
  clear hb KS HOW2 HOW HFO HF H13 HP HM
  go_wp2
  go_loopw [12] (fun p wr => ∃ k : Nat, k ≤ n ∧ p = .int .i64 (k : Int) ∧ Hid (But g w3 wr ∧ GB wr g (c * 4))) (fun p _ => n - (intOf p).toNat)
  case atStart => exact ⟨0, Nat.zero_le _, rfl, But.refl _ _, HGB.out⟩
  case round =>
    obtain ⟨k, hk, rfl, HG⟩ := hrel
    by_cases hlt : k < n
    · have hlt' : (k : Int) < (n : Int) := by omega
      obtain ⟨x0, y0⟩ := HG.out.2.cell (i := k * 4) (by omega)
      obtain ⟨x1, y1⟩ := HG.out.2.cell (i := k * 4 + 1) (by omega)
      obtain ⟨x2, y2⟩ := HG.out.2.cell (i := k * 4 + 2) (by omega)
      obtain ⟨x3, y3⟩ := HG.out.2.cell (i := k * 4 + 3) (by omega)
      have f0 := HG.out.2.free (k * 4)
      have f1 := HG.out.2.free (k * 4 + 1)
      have f2 := HG.out.2.free (k * 4 + 2)
      have f3 := HG.out.2.free (k * 4 + 3)
      have ng : ∀ i j : Nat, i ≠ j → ¬ k * 4 + i = k * 4 + j := fun i j h => by omega
      clear ng
      go_wp2
      exact ⟨⟨k + 1, by omega, by go_num, (((HG.out.1.set _ _).set _ _).set _ _).set _ _, (((HG.out.2.set _ _).set _ _).set _ _).set _ _⟩, by simp [intOf]; omega⟩
    · obtain rfl : k = n := by omega
      have hlt' : ¬ (k : Int) < (k : Int) := by omega
      clear hlt
      have HP4 := hide (HP3.out.over HG.out.1 HGO.out.1 HGO.out.2.1 HGO.out.2.2.1 HGO.out.2.2.2 hg1)
      obtain ⟨w4, hw4⟩ : ∃ x, x = wr := ⟨_, rfl⟩
      subst hw4
      clear HP3 HGO HGB HG hg1 hg2 hnc
      go_wp2
      go_loopw [13] (fun p wr => ∃ k : Nat, k ≤ L ∧ p = .int .i64 (k : Int) ∧ Hid (Pair2 w wr D E u x img fs (rdsN img fs os k))) (fun p _ => L - (intOf p).toNat)
      case atStart => exact ⟨0, Nat.zero_le _, rfl, HP4.out⟩
      case round =>
        clear HP4
        obtain ⟨k, hk, rfl, HPk⟩ := hrel
        have hrk := rdsN_le img fs os k
        by_cases hlt : k < L
        · have hlt' : (k : Int) < (L : Int) := by omega
          obtain ⟨b, o, hao, hbl, hcl⟩ : ∃ b o, ao = some ⟨b, o, none⟩ ∧ b < w.heap.size ∧ ∀ i, i < os.length → w.cell? ⟨b, o + i * 2, none⟩ = some (.int .i64 (nthO os i).1) ∧ w.cell? ⟨b, o + i * 2 + 1, none⟩ = some (.int .i64 (nthO os i).2) := by
            rcases HOA.out with rfl | h
            · have := HL.out; simp at this; omega
            · exact h
          subst hao
          have hc := hcl k (by rw [← HL.out]; exact hlt)
          have hrn : rdsN img fs os (k + 1) = (readT img fs (rdsN img fs os k) (nthO os k).1 (nthO os k).2).2.2 := rfl
          generalize rdsN img fs os k = r at *
          generalize nthO os k = pr at *
          obtain ⟨A1, A2⟩ := pr
          dsimp only at hc hrn
          have hbD : b ≠ D ∧ b ≠ E := by have := HPk.out.hD; have := HPk.out.hE; omega
          have cw : ∀ j, wr.cell? ⟨b, j, none⟩ = w.cell? ⟨b, j, none⟩ := fun j => HPk.out.b.cell hbl
          have hbw : b < wr.heap.size := Nat.lt_of_lt_of_le hbl HPk.out.b.size
          rw [← cw, ← cw] at hc
          obtain ⟨a1, a2⟩ := hc
          have R1 := fun X hX => Read_any A1 A2 img fs r D u X hX hi (by omega)
          have R2 := fun X hX => rRead_any A1 A2 img fs r E x X hX hi (by omega)
          have HRN := hide hrn
          clear hrn
          generalize readT img fs r A1 A2 = T at *
          obtain ⟨ra, re, r2⟩ := T
          dsimp only at R1 R2 HRN
          have C0 : Hid (∀ X, Hid (Below wr.heap.size wr X) → Calls Try.prog 18 #[.pointer (some ⟨D, 0, none⟩), .int .i64 A1, .int .i64 A2] X fun e w' => e = .returned (.tuple #[.string ra, .int .i64 re]) ∧ Hid (But D wr w' ∧ Dsk 60 w' D u img fs r2) ∧ w'.cell? ⟨b, o + k * 2, none⟩ = some (.int .i64 A1) ∧ w'.cell? ⟨b, o + k * 2 + 1, none⟩ = some (.int .i64 A2)) := by
            intro X bX
            refine (R1 X (HPk.out.d.below bX.out)).mono ?_
            rintro e w' ⟨rfl, hbu, hds⟩
            have bb := (But.of_below bX.out).trans hbu
            exact ⟨rfl, ⟨bb, hds⟩, (bb.cell hbw hbD.1).trans a1, (bb.cell hbw hbD.1).trans a2⟩
          have C1 : Hid (∀ V, Hid (But D wr V) → ∀ X, Hid (Below V.heap.size V X) → Calls Try.prog 19 #[.pointer (some ⟨E, 0, none⟩), .int .i64 A1, .int .i64 A2] X fun e w' => e = .returned (.tuple #[.string ra, .int .i64 re]) ∧ Hid (But E V w' ∧ Dsk 46 w' E x img fs r2) ∧ w'.cell? ⟨b, o + k * 2, none⟩ = some (.int .i64 A1) ∧ w'.cell? ⟨b, o + k * 2 + 1, none⟩ = some (.int .i64 A2)) := by
            intro V hV X bX
            refine (R2 X ((HPk.out.other hV.out).below bX.out)).mono ?_
            rintro e w' ⟨rfl, hbu, hds⟩
            have bb := (But.of_below bX.out).trans hbu
            have hbv := Nat.lt_of_lt_of_le hbw hV.out.size
            exact ⟨rfl, ⟨bb, hds⟩, (bb.cell hbv hbD.2).trans ((hV.out.cell hbw hbD.1).trans a1), (bb.cell hbv hbD.2).trans ((hV.out.cell hbw hbD.1).trans a2)⟩
          have b0 := bdrB wr
          have HPs := hide (fun w1 w2 (h1 : But D wr w1) d1 (h2 : But E w1 w2) d2 => HPk.out.step (r' := r2) h1 d1 h2 d2)
          clear R1 R2 cw hcl hbD hbw hbl hrk
          go_wp2_with fail
          have mk0 : True := trivial
          go_region_held3 (fun w' => w'.cell? ⟨b, o + k * 2, none⟩ = some (.int .i64 A1) ∧ w'.cell? ⟨b, o + k * 2 + 1, none⟩ = some (.int .i64 A2)) (go_keep) (first
            | (clear mk0; go_at_call 18; refine (C0.out _ b0).mono ?_; rintro e v1 ⟨rfl, P1, q1, q2⟩; have mk1 : True := trivial))
          have C2 := hide (C1.out v1 P1.out.1)
          have b1 := bdrB v1
          clear C0 C1 b0 mk1 a1 a2
          go_wp2_with fail
          have mk0 : True := trivial
          go_region_held3 (fun w' => w'.cell? ⟨b, o + k * 2, none⟩ = some (.int .i64 A1) ∧ w'.cell? ⟨b, o + k * 2 + 1, none⟩ = some (.int .i64 A2)) (go_keep) (first
            | (clear mk0; go_at_call 19; refine (C2.out _ b1).mono ?_; rintro e v2 ⟨rfl, P2, s1, s2⟩; have mk1 : True := trivial))
          have HPn := hide (HPs.out v1 v2 P1.out.1 P1.out.2 P2.out.1 P2.out.2)
          have c0 : v2.cell? ⟨E, 2, none⟩ = some (.int .i64 (r2 : Int)) := HPn.out.e.blk.cell 2
          clear C2 b1 mk1 P1 P2 HPs q1 q2 s1 s2
          have C0 : Hid (∀ X, Hid (Below v2.heap.size v2 X) → Calls Try.prog 20 #[.pointer (some ⟨D, 0, none⟩)] X fun e w' => e = .returned (.int .i64 (r2 : Int)) ∧ Hid (Below v2.heap.size v2 w') ∧ w'.cell? ⟨E, 2, none⟩ = some (.int .i64 (r2 : Int))) := by
            intro X bX
            refine (Reads_any (HPn.out.d.below bX.out)).mono ?_
            rintro e w' ⟨rfl, rfl⟩
            exact ⟨rfl, bX.out, (HPn.out.e.below bX.out).blk.cell 2⟩
          have C1 : Hid (∀ X, Hid (Below v2.heap.size v2 X) → Calls Try.prog 21 #[.pointer (some ⟨D, 0, none⟩)] X fun e w' => e = .returned (.int .i64 (img.size : Int)) ∧ Hid (Below v2.heap.size v2 w') ∧ w'.cell? ⟨E, 2, none⟩ = some (.int .i64 (r2 : Int))) := by
            intro X bX
            refine (Size_any (HPn.out.d.below bX.out)).mono ?_
            rintro e w' ⟨rfl, rfl⟩
            exact ⟨rfl, bX.out, (HPn.out.e.below bX.out).blk.cell 2⟩
          have b0 := bdrB v2
          have t1 : (ra.toList == ra.toList) = true := by simp
          have t2 : (re != re) = false := by simp
          have t3 : ((r2 : Int) != (r2 : Int)) = false := by simp
          have t4 : ((img.size : Int) != (img.size : Int)) = false := by simp
          go_wp2_with fail
          have mk0 : True := trivial
          go_region_held3 (fun w' => w'.cell? ⟨E, 2, none⟩ = some (.int .i64 (r2 : Int))) (go_keep) (first
            | (clear mk0; go_at_call 20; refine (C0.out _ b0).mono ?_; rintro e v3 ⟨rfl, b1, z1⟩; have mk1 : True := trivial)
            | (clear mk1; go_at_call 21; refine (C1.out _ b1).mono ?_; rintro e v4 ⟨rfl, b2, z2⟩; have mk2 : True := trivial))
          have HPf := hide (HPn.out.below b2.out)
          rw [← HRN.out] at HPf
          clear C0 C1 b0 b1 b2 mk2 HPn z1 z2
          go_wp2
          exact ⟨⟨k + 1, by omega, by go_num, HPf⟩, by simp [intOf]; omega⟩
        · obtain rfl : k = L := by omega
          have hlt' : ¬ (k : Int) < (k : Int) := by omega
          have HBX := hide HPk.out.b
          clear hlt hrk HPk
          go_wp2_with fail
          refine (K5.out _).mono ?_
          rintro e w7 ⟨rfl, hb⟩
          have HB7 := hide (HBX.out.trans (hb.mono HBX.out.size))
          clear hb
          go_wp2
          go_ret
          exact ⟨rfl, HB7.out⟩

theorem reads_row (w : World) (img : ByteArray) (_ : img.size ≤ 140737488355328) (v : Value) (fs : List Flt) (hf : FArg w v fs) (hfl : fs.length * 32 ≤ 140737488351232) (q : Value) (os : List (Int × Int)) (hq : OSl w q os) (hol : os.length * 16 ≤ 140737488351232) : Calls Try.prog 4 #[.string img, v, q] w fun e w' => e = .returned (.bool true) ∧ Below w.heap.size w w' := by
  by_cases hi : img.size ≤ 65552
  · by_cases hm : mayAllF fs = true
    · exact reads_ok w img v q fs os hi hf hfl hm hq (by omega)
    · have hmf : mayAllF fs = false := by simpa using hm
      exact reads_bad w img v q fs hf hfl 103 (fun X u hX => New_fault img hi hX (by omega) hmf) (fun X u hX => rNew_fault img hi hX (by omega) hmf)
  · exact reads_bad w img v q fs hf hfl 106 (fun X u _ => New_long img u X (by omega)) (fun X u _ => rNew_long img u X (by omega))

end Go.Proofs.Ytdbbdclhfcakdaa

namespace Go.Proofs.Ytdbbdclhfcakdaa
open Go.ChangeShapes Go.WideShapes Go.ChangeAt Go.RowKit

theorem Try.own : ownKnob Try.prog.godebug = none := by kernel_rfl
theorem Try.laidOut : laidOutB Try.prog = true := by kernel_rfl
theorem Try.cellsFl : Try.prog.cellsOf 40 = 4 := by kernel_rfl
theorem Try.cellsI : Try.prog.cellsOf 3 = 1 := by kernel_rfl
theorem Try.bytesFl : Try.prog.bytesOf 40 = 32 := by kernel_rfl

theorem choose_flt {n : Nat} {p : Nat → Flt → Prop} (h : ∀ i, i < n → ∃ f, p i f) : ∃ fs : List Flt, fs.length = n ∧ ∀ i, i < n → p i (nth fs i) := by
  haveI : Inhabited Flt := ⟨Flt.zero⟩
  obtain ⟨q, hq⟩ := Deep.choose_lt (α := Flt) h
  refine ⟨(List.range n).map q, by simp, fun i hi => ?_⟩
  have e : nth ((List.range n).map q) i = q i := by unfold nth; simp [hi]
  rw [e]
  exact hq i hi

set_option maxRecDepth 100000 in
theorem viewF {H : Type} {enc : TypeId × Value → H} {W : World} {base : Nat} {v : Value} {d : DataW H} {p : List MemPlace} (hval : Value.okWide Try.prog W .any base 29 v) (h : DataW.Trod enc Try.prog W 0 (fun _ => true) true 29 v d p) :
    ∃ fs : List Flt, FArg W v fs ∧ ∀ {ts : List TypeId} {ds : List (DataW H)}, (DataW.weightsEach Try.prog ts ds).all (· ≤ reachBytes) = true → ∀ {j : Nat}, ts[j]? = some 29 → ds[j]? = some d → fs.length * 32 ≤ 140737488351232 := by
  obtain ⟨o, l, c, rfl⟩ := okWide_slice Try.underlying29 hval
  obtain ⟨fuel, hf⟩ := h
  rcases Deep.open_slice Try.underlying29 hf with ⟨hc, hx⟩ | ⟨a, len, cap, m, n, D, Pl, hc, _, hl, hm, hmm, hx, hel⟩
  · simp [Value.cells] at hc
    obtain ⟨rfl, rfl, rfl⟩ := hc
    exact ⟨[], ⟨⟨none, 0, rfl, Nat.le_refl _, .inl rfl⟩, fun l c e => by simp at e; omega⟩, fun _ _ _ _ => Nat.zero_le _⟩
  · simp [Value.cells] at hc
    obtain ⟨rfl, rfl, rfl⟩ := hc
    simp only [if_true] at hmm
    subst hmm
    rw [Try.cellsFl] at hel
    have each : ∀ i, i < l → ∃ f : Flt, W.cell? (a.add (i * 4)) = some (.int .i64 f.at_) ∧ W.cell? (a.add (i * 4 + 1)) = some (.int .i64 f.kind) ∧ W.cell? (a.add (i * 4 + 2)) = some (.int .i64 f.byte) ∧ W.cell? (a.add (i * 4 + 3)) = some (.int .i64 f.bit) := by
      intro i hi
      obtain ⟨cs', h1, h2⟩ := hel i (by omega)
      obtain ⟨_, hlen, hcell⟩ := World.cells?_some h1
      obtain ⟨xs, k, _, _, _, hxl, hfd⟩ := DataW.trod_struct Try.underlying40 h2
      match cs', hlen with
      | [c0, c1, c2, c3], _ =>
        match xs, (show xs.length = 4 by simpa using hxl) with
        | [y0, y1, y2, y3], _ =>
          have k0 : DataW.trod enc Try.prog W 0 (fun _ => true) true k 3 [c0] = some y0 := by simpa [Try.cellsI] using hfd 0 _ rfl
          have k1 : DataW.trod enc Try.prog W 0 (fun _ => true) true k 3 [c1] = some y1 := by simpa [Try.cellsI] using hfd 1 _ rfl
          have k2 : DataW.trod enc Try.prog W 0 (fun _ => true) true k 3 [c2] = some y2 := by simpa [Try.cellsI] using hfd 2 _ rfl
          have k3 : DataW.trod enc Try.prog W 0 (fun _ => true) true k 3 [c3] = some y3 := by simpa [Try.cellsI] using hfd 3 _ rfl
          obtain ⟨z0, e0, _⟩ := DataW.trod_int Try.underlying3 k0
          obtain ⟨z1, e1, _⟩ := DataW.trod_int Try.underlying3 k1
          obtain ⟨z2, e2, _⟩ := DataW.trod_int Try.underlying3 k2
          obtain ⟨z3, e3, _⟩ := DataW.trod_int Try.underlying3 k3
          simp at e0 e1 e2 e3
          subst e0 e1 e2 e3
          have g0 := hcell 0 (by omega)
          have g1 := hcell 1 (by omega)
          have g2 := hcell 2 (by omega)
          have g3 := hcell 3 (by omega)
          rw [Deep.add_add] at g0 g1 g2 g3
          exact ⟨⟨z0, z1, z2, z3⟩, by simpa using g0, by simpa using g1, by simpa using g2, by simpa using g3⟩
    obtain ⟨fs, hfl, hfs⟩ := choose_flt each
    subst hfl
    refine ⟨fs, ⟨⟨some a, _, rfl, hl, ?_⟩, fun l c e => by simp at e⟩, fun hz j ht hd => ?_⟩
    · by_cases h0 : fs = []
      · exact .inl h0
      · obtain ⟨b, off, sp⟩ := a
        have hp : 0 < fs.length := List.length_pos_iff.2 h0
        have hs : sp = none := by simpa [Addr.add] using World.cell?_spot (hfs 0 hp).1
        subst hs
        refine .inr ⟨b, off, rfl, by simpa [Addr.add] using World.block_lt_of_cell? W _ (hfs 0 hp).1, fun i hi => ?_⟩
        obtain ⟨q0, q1, q2, q3⟩ := hfs i hi
        rw [Addr.add_lit] at q0 q1 q2 q3
        exact ⟨q0, by rw [Nat.add_assoc]; exact q1, by rw [Nat.add_assoc]; exact q2, by rw [Nat.add_assoc]; exact q3⟩
    · have hd' : d = .slice ((List.range fs.length).map D) ((List.range (_ - fs.length)).map fun j => D (fs.length + j)) := congrArg Prod.fst hx
      rw [hd'] at hd
      have hzz := sized_slice hz ht hd Try.underlying29
      rw [Try.bytesFl] at hzz
      simp only [List.length_map, List.length_range] at hzz
      have h3 : reachBytes = 140737488351232 := by decide
      omega

end Go.Proofs.Ytdbbdclhfcakdaa

namespace Go.Proofs.Ytdbbdclhfcakdaa
open Go.ChangeShapes Go.WideShapes Go.ChangeAt Go.RowKit

theorem Try.cellsOp2 : Try.prog.cellsOf 43 = 2 := by kernel_rfl
theorem Try.bytesOp2 : Try.prog.bytesOf 43 = 16 := by kernel_rfl

theorem choose_op {n : Nat} {p : Nat → Int × Int → Prop} (h : ∀ i, i < n → ∃ f, p i f) : ∃ os : List (Int × Int), os.length = n ∧ ∀ i, i < n → p i (nthO os i) := by
  obtain ⟨q, hq⟩ := Deep.choose_lt (α := Int × Int) h
  refine ⟨(List.range n).map q, by simp, fun i hi => ?_⟩
  have e : nthO ((List.range n).map q) i = q i := by unfold nthO; simp [hi]
  rw [e]
  exact hq i hi

set_option maxRecDepth 100000 in
theorem viewOps {H : Type} {enc : TypeId × Value → H} {W : World} {base : Nat} {v : Value} {d : DataW H} {p : List MemPlace} (hval : Value.okWide Try.prog W .any base 30 v) (h : DataW.Trod enc Try.prog W 0 (fun _ => true) true 30 v d p) :
    ∃ os : List (Int × Int), OSl W v os ∧ ∀ {ts : List TypeId} {ds : List (DataW H)}, (DataW.weightsEach Try.prog ts ds).all (· ≤ reachBytes) = true → ∀ {j : Nat}, ts[j]? = some 30 → ds[j]? = some d → os.length * 16 ≤ 140737488351232 := by
  obtain ⟨o, l, c, rfl⟩ := okWide_slice Try.underlying30 hval
  obtain ⟨fuel, hf⟩ := h
  rcases Deep.open_slice Try.underlying30 hf with ⟨hc, hx⟩ | ⟨a, len, cap, m, n, D, Pl, hc, _, hl, hm, hmm, hx, hel⟩
  · simp [Value.cells] at hc
    obtain ⟨rfl, rfl, rfl⟩ := hc
    exact ⟨[], ⟨none, 0, rfl, Nat.le_refl _, .inl rfl⟩, fun _ _ _ _ => Nat.zero_le _⟩
  · simp [Value.cells] at hc
    obtain ⟨rfl, rfl, rfl⟩ := hc
    simp only [if_true] at hmm
    subst hmm
    rw [Try.cellsOp2] at hel
    have each : ∀ i, i < l → ∃ f : Int × Int, W.cell? (a.add (i * 2)) = some (.int .i64 f.1) ∧ W.cell? (a.add (i * 2 + 1)) = some (.int .i64 f.2) := by
      intro i hi
      obtain ⟨cs', h1, h2⟩ := hel i (by omega)
      obtain ⟨_, hlen, hcell⟩ := World.cells?_some h1
      obtain ⟨xs, k, _, _, _, hxl, hfd⟩ := DataW.trod_struct Try.underlying43 h2
      match cs', hlen with
      | [c0, c1], _ =>
        match xs, (show xs.length = 2 by simpa using hxl) with
        | [y0, y1], _ =>
          have k0 : DataW.trod enc Try.prog W 0 (fun _ => true) true k 3 [c0] = some y0 := by simpa [Try.cellsI] using hfd 0 _ rfl
          have k1 : DataW.trod enc Try.prog W 0 (fun _ => true) true k 3 [c1] = some y1 := by simpa [Try.cellsI] using hfd 1 _ rfl
          obtain ⟨z0, e0, _⟩ := DataW.trod_int Try.underlying3 k0
          obtain ⟨z1, e1, _⟩ := DataW.trod_int Try.underlying3 k1
          simp at e0 e1
          subst e0 e1
          have g0 := hcell 0 (by omega)
          have g1 := hcell 1 (by omega)
          rw [Deep.add_add] at g0 g1
          exact ⟨(z0, z1), by simpa using g0, by simpa using g1⟩
    obtain ⟨os, hfl, hfs⟩ := choose_op each
    subst hfl
    refine ⟨os, ⟨some a, _, rfl, hl, ?_⟩, fun hz j ht hd => ?_⟩
    · by_cases h0 : os = []
      · exact .inl h0
      · obtain ⟨b, off, sp⟩ := a
        have hp : 0 < os.length := List.length_pos_iff.2 h0
        have hs : sp = none := by simpa [Addr.add] using World.cell?_spot (hfs 0 hp).1
        subst hs
        refine .inr ⟨b, off, rfl, by simpa [Addr.add] using World.block_lt_of_cell? W _ (hfs 0 hp).1, fun i hi => ?_⟩
        obtain ⟨q0, q1⟩ := hfs i hi
        rw [Addr.add_lit] at q0 q1
        exact ⟨q0, by rw [Nat.add_assoc]; exact q1⟩
    · have hd' : d = .slice ((List.range os.length).map D) ((List.range (_ - os.length)).map fun j => D (os.length + j)) := congrArg Prod.fst hx
      rw [hd'] at hd
      have hzz := sized_slice hz ht hd Try.underlying30
      rw [Try.bytesOp2] at hzz
      simp only [List.length_map, List.length_range] at hzz
      have h3 : reachBytes = 140737488351232 := by decide
      omega

end Go.Proofs.Ytdbbdclhfcakdaa
