/-
  What quipulaw02.same does of two numbers that are the same.
  whole's functions in the words of the numbers themselves.
  whole's numbers with a sign, as package dec makes them; what dec's counted does.
  Numbers that calls answer in a region that draws its order: where they lie, and what stays.
-/
import Derived.Test.YtifpacgacbpalaaGreatDoorZWhole
import Derived.Test.YtifpacgacbpalaaGreatDoorSame
import Derived.Test.YtifpacgacbpalaaGreatDoorZQ22
import Derived.Test.YtifpacgacbpalaaGreatDoorZQ12
import Derived.Test.YtifpacgacbpalaaGreatDoorZQ17
import Derived.Deep.RegionHeld3
import Derived.Deep.DeepCutAuto
namespace Go.Proofs.YtifpacgacbpalaaGreatDoor
open Go.RowKit

end Go.Proofs.YtifpacgacbpalaaGreatDoor

namespace Go.Proofs.YtifpacgacbpalaaGreatDoor
open Go.RowKit

/-- A sign and limbs are the number z, in whatever form. -/
def NV (s : Bool) (x : List Nat) (z : Int) : Prop := Ok B64 x ∧ zv s (num B64 x) = z
/-- A sign and limbs are the number z in its one form. -/
def NI (s : Bool) (x : List Nat) (z : Int) : Prop := s = decide (z < 0) ∧ Is B64 x z.natAbs

theorem NI.nv {s : Bool} {x : List Nat} {z : Int} (h : NI s x z) : NV s x z := by
  refine ⟨h.2.1, ?_⟩
  rw [h.2.2.2, h.1]
  unfold zv
  by_cases hz : z < 0
  · simp [hz]; omega
  · simp [hz]; omega

theorem NI.mk {s : Bool} {x : List Nat} {z : Int} (h : Hid (s = decide (z < 0))) (hi : Is B64 x z.natAbs) : NI s x z := ⟨h.out, hi⟩

theorem NI.uniq {s t : Bool} {x y : List Nat} {z u : Int} (h : NI s x z) (g : NI t y u) (e : z = u) : s = t ∧ x = y := by
  subst e
  exact ⟨h.1.trans g.1.symm, Is.uniq (by decide) h.2 g.2⟩

theorem NI.nil : NI false [] 0 := ⟨rfl, Is.none (by decide)⟩

theorem zv_mul (na nb : Bool) (x y : Nat) : zv (na != nb) (x * y) = zv na x * zv nb y := by
  cases na <;> cases nb <;> simp [zv, Int.neg_mul, Int.mul_neg]

section
variable (s t : Bool) (ao bo : Option Addr) (la ca lb cb : Nat) (xs ys : List Nat) (w : World) (hla : la ≤ ca) (hlb : lb ≤ cb) (hx : xs.length = la) (hy : ys.length = lb) (hax : At .u64 w ao xs) (hay : At .u64 w bo ys) (z u : Int) (hz : Hid (NV s xs z)) (hu : Hid (NV t ys u))
include hla hlb hx hy hax hay hz hu
theorem addz (hca : ca ≤ 10000000000) (hcb : cb ≤ 10000000000) : Calls Tryz.prog 67 #[.agg #[.bool s, .slice ao la ca], .agg #[.bool t, .slice bo lb cb]] w (WPost w (max la lb + 1) (z + u)) := by
  rw [← hz.out.2, ← hu.out.2]; exact addw_any s t ao bo la ca lb cb xs ys w hla hca hlb hcb hx hy hax hay hz.out.1 hu.out.1
end

theorem makez (s : Bool) (ao : Option Addr) (la ca : Nat) (xs : List Nat) (w : World) (hla : la ≤ ca) (hx : xs.length = la) (hax : At .u64 w ao xs) (z : Int) (hz : Hid (NV s xs z)) (hca : ca ≤ 1000000000000) :
    Calls Tryz.prog 93 #[.bool s, .slice ao la ca] w (WPost w la z) := by
  rw [← hz.out.2]; exact make_any s ao la ca xs w hla hca hx hax hz.out.1

theorem cmpZ_add (a b c : Int) : cmpZ (a + c) (b + c) = cmpZ a b := by
  unfold cmpZ
  simp [Int.add_lt_add_iff_right]

end Go.Proofs.YtifpacgacbpalaaGreatDoor

namespace Go.Proofs.YtifpacgacbpalaaGreatDoor
open Go.RowKit

/-- v is a whole number with a sign, in its one form, the number z. -/
def Zt (w : World) (v : Value) (z : Int) : Prop := ∃ o c xs, v = .agg #[.bool (decide (z < 0)), .slice o (List.length xs) c] ∧ xs.length ≤ c ∧ c ≤ 1000000 ∧ At .u64 w o xs ∧ Is B64 xs z.natAbs

theorem Zt.below {w w' : World} {v : Value} {z : Int} (h : Zt w v z) (hb : Below w.heap.size w w') : Zt w' v z := by
  obtain ⟨o, c, xs, h1, h2, h3, h4, h5⟩ := h
  exact ⟨o, c, xs, h1, h2, h3, h4.below hb, h5⟩

theorem Zt.nt {w : World} {s : Bool} {o : Option Addr} {l c : Nat} {z : Int} (h : Zt w (.agg #[.bool s, .slice o l c]) z) : s = decide (z < 0) ∧ Nt w (.slice o l c) z.natAbs := by
  obtain ⟨o', c', xs, h1, h2, h3, h4, h5⟩ := h
  simp only [Value.agg.injEq] at h1
  have e1 := congrArg (fun a : Array Value => a[0]?) h1
  have e2 := congrArg (fun a : Array Value => a[1]?) h1
  simp at e1 e2
  obtain ⟨e2, e3, e4⟩ := e2
  subst e1 e2 e3 e4
  exact ⟨rfl, o, c, xs, rfl, h2, h3, h4, h5⟩

/-- A whole number with a sign is answered. -/
def ZtPost (w : World) (z : Int) (e : Ending) (w' : World) : Prop := ∃ s o l c, e = .returned (.agg #[.bool s, .slice o l c]) ∧ Hid (Zt w' (.agg #[.bool s, .slice o l c]) z) ∧ Below w.heap.size w w' ∧ Hid (Far w.heap.size (.slice o l c))

theorem wpost_zt {w : World} {m : Nat} {z : Int} (hm : m ≤ 1000000) {e : Ending} {w' : World} (h : WPost w m z e w') : ZtPost w z e w' := by
  obtain ⟨s, v, r, hs, rfl, hown, his, hb⟩ := h
  obtain ⟨o, c, rfl, h1, h2, h3⟩ := hown.shape
  refine ⟨s, o, r.length, c, rfl, ⟨o, c, r, ?_, h1, by omega, h3, his⟩, hb, Far.of hown⟩
  rw [hs.out]

theorem Zt.put {w : World} {s : Bool} {o : Option Addr} {l c : Nat} {z : Int} {base : Nat} (h : Zt w (.agg #[.bool s, .slice o l c]) z) (hf : Far base (.slice o l c)) {a : Addr} (ha : a.block < base) (u : Value) : Zt (w.setCell a u) (.agg #[.bool s, .slice o l c]) z := by
  obtain ⟨rfl, g⟩ := h.nt
  obtain ⟨o', c', xs, e, h2, h3, h4, h5⟩ := g.put hf ha u
  cases e
  exact ⟨_, _, xs, rfl, h2, h3, h4, h5⟩

theorem zt_make (neg : Bool) (a : Value) (n : Nat) (w : World) (ha : Nt w a n) (hn : Sm n) : Calls Tryz.prog 93 #[.bool neg, a] w (ZtPost w (zv neg n)) := by
  obtain ⟨o, c, xs, rfl, h1, h2, h3, h4⟩ := ha
  have l1 := is_len h4 hn
  have g := make_any neg o _ c xs w h1 (by omega) rfl h3 h4.1
  rw [h4.2.2] at g
  exact g.mono fun e w' h => wpost_zt (by omega) h

theorem zt_add (a b : Value) (x y : Int) (w : World) (ha : Zt w a x) (hb : Zt w b y) (hx : Sm x.natAbs) (hy : Sm y.natAbs) : Calls Tryz.prog 67 #[a, b] w (ZtPost w (x + y)) := by
  obtain ⟨o, c, xs, rfl, h1, h2, h3, h4⟩ := ha
  obtain ⟨o', c', ys, rfl, h1', h2', h3', h4'⟩ := hb
  have l1 := is_len h4 hx
  have l2 := is_len h4' hy
  have nx : NV (decide (x < 0)) xs x := ⟨h4.1, by rw [h4.2.2]; unfold zv; by_cases h : x < 0 <;> simp [h] <;> omega⟩
  have ny : NV (decide (y < 0)) ys y := ⟨h4'.1, by rw [h4'.2.2]; unfold zv; by_cases h : y < 0 <;> simp [h] <;> omega⟩
  exact (addz _ _ o o' _ c _ c' xs ys w h1 h1' rfl rfl h3 h3' x y nx ny (by omega) (by omega)).mono fun e w' h => wpost_zt (by omega) h

theorem ztparse (s : ByteArray) (n : Nat) (w : World) (hs : s.size ≤ 8192) (hok : OkT (bys s)) (hn : decV (bys s) = n) : Calls Tryz.prog 91 #[.string s] w fun e w' => ∃ o l c, e = .returned (.tuple #[.slice o l c, .int .i64 0]) ∧ Hid (Nt w' (.slice o l c) n) ∧ Below w.heap.size w w' := by
  refine (parse_any s w (decV (bys s)) 0 (.inr (.inr ⟨hs, hok, rfl, rfl⟩))).mono ?_
  rintro e w' ⟨v, r, rfl, g1, g2, g3⟩
  have g4 := Nt.of g1 g2 (by omega)
  obtain ⟨o, c, xs, rfl, g5⟩ := g4
  rw [hn] at g5
  exact ⟨o, xs.length, c, rfl, ⟨o, c, xs, rfl, g5⟩, g3⟩

theorem repeat_any (c : Nat) (w : World) (hc : c ≤ 100000) : Calls Tryz.prog 92 #[.string ⟨#[48]⟩, .int .i64 (c : Int)] w fun e w' => e = .returned (.string ⟨(List.replicate c (48 : UInt8)).toArray⟩) ∧ Below w.heap.size w w' := by
  have h := Tryz.strings_Repeat ⟨#[48]⟩ c w (by omega) (by show 1 * c ≤ _; omega)
  rw [show (⟨#[48]⟩ : ByteArray).data.toList = [48] from rfl, repeat0] at h
  exact h

theorem digB_rep (c : Nat) : DigB (List.replicate c (48 : UInt8)) := by
  intro k hk
  rw [List.length_replicate] at hk
  unfold byt
  rw [List.getElem?_replicate, if_pos hk]
  decide

theorem decV_rep : ∀ c : Nat, decV (List.replicate c (48 : UInt8)) = 0
  | 0 => rfl
  | c + 1 => by rw [List.replicate_succ, decV_cons, decV_rep c]; simp

theorem okT_rep {l : List UInt8} (h : OkT l) (h0 : byt l 0 ≠ 48) (c : Nat) : OkT (l ++ List.replicate c 48) ∧ decV (l ++ List.replicate c 48) = decV l * 10 ^ c := by
  refine ⟨h.append (fun e => h0 (by rw [e]; rfl)) (digB_rep c), ?_⟩
  rw [decV_append, decV_rep, List.length_replicate, Nat.add_zero]

set_option maxHeartbeats 1000000 in
theorem counted_nil (na : Bool) (ea x : Int) (w : World) : Calls Tryz.prog 68 #[dcV 0 na ⟨#[]⟩ ea, .int .i64 x] w (ZtPost w 0) := by
  have Ba0 := hide ((Blk.newAt w (w.heap.size) (rfl) #[.int .i64 0, .bool na, .string ⟨#[]⟩, .int .i64 ea] 23).alloc (.cells #[.bool false, .slice none 0 0] 87))
  have Br0 := hide (Blk.newAt (w.alloc (.cells #[.int .i64 0, .bool na, .string ⟨#[]⟩, .int .i64 ea] 23)) (w.heap.size + 1) (by simp) #[.bool false, .slice none 0 0] 87)
  have HB0 : Hid (Below w.heap.size w ((w.alloc (.cells #[.int .i64 0, .bool na, .string ⟨#[]⟩, .int .i64 ea] 23)).alloc (.cells #[.bool false, .slice none 0 0] 87))) := (((Below.refl _ _).alloc (Nat.le_refl _) _).alloc (by simp <;> omega) _)
  go_enter Tryz.func68, Tryz.ntmps68
  go_wp2
  refine bodyPost_ret (results_pair rfl _ _ _ _ _ rfl (show Pair _ _ _ _ _ from Br0.out)) rfl ?_
  exact ⟨false, none, 0, 0, rfl, ⟨none, 0, [], rfl, by simp, by omega, At.nil _ _ _, Is.none (by decide)⟩, HB0.out, fun o l c h a e => by cases h; cases e⟩

set_option maxRecDepth 100000 in
set_option maxHeartbeats 2000000 in
theorem counted_fin (na : Bool) (ta : ByteArray) (ea x : Int) (k : Nat) (w : World) (h0 : ta.size ≠ 0) (b1 : ta.size ≤ 1000) (hok : OkT (bys ta)) (h48 : byt (bys ta) 0 ≠ 48) (hk : ea - x = (k : Int)) (hk2 : k ≤ 7000) (hsm : Sm (decV (bys ta) * 10 ^ k)) : Calls Tryz.prog 68 #[dcV 0 na ta ea, .int .i64 x] w (ZtPost w (zv na (decV (bys ta) * 10 ^ k))) := by
  have h2 := toList_ne h0
  have RP := hide (fun W => repeat_any k W (by omega))
  rw [← hk] at RP
  obtain ⟨Z, hZ⟩ : ∃ Z : ByteArray, Z = ⟨(List.replicate k (48 : UInt8)).toArray⟩ := ⟨_, rfl⟩
  rw [← hZ] at RP
  have hZs : Z.size = k := by rw [hZ, size_mk0, List.length_replicate]
  have hZb : bys (ta ++ Z) = bys ta ++ List.replicate k 48 := by rw [bys_append, hZ, bys_mk (List.replicate k 48)]
  obtain ⟨q1, q2⟩ := okT_rep hok h48 k
  rw [← hZb] at q1 q2
  obtain ⟨n, hn⟩ : ∃ n, n = decV (bys ta) * 10 ^ k := ⟨_, rfl⟩
  rw [← hn] at q2 hsm ⊢
  have PS := hide (fun W => ztparse (ta ++ Z) n W (by rw [ByteArray.size_append, hZs]; omega) q1 q2)
  have s1 : ¬ 9223372036854775807 < ta.size + Z.size := by omega
  have HSM := hide hsm
  have hw : IntKind.i64.wrap (ea - x) = ea - x := by rw [IntKind.wrap_i64]; omega
  clear h0 hk hZ hZs hZb q1 q2 hn hsm hok h48 b1 hk2
  have Ba0 := hide ((Blk.newAt w (w.heap.size) (rfl) #[.int .i64 0, .bool na, .string ta, .int .i64 ea] 23).alloc (.cells #[.bool false, .slice none 0 0] 87))
  have Br0 := hide (Blk.newAt (w.alloc (.cells #[.int .i64 0, .bool na, .string ta, .int .i64 ea] 23)) (w.heap.size + 1) (by simp) #[.bool false, .slice none 0 0] 87)
  have HB0 : Hid (Below w.heap.size w ((w.alloc (.cells #[.int .i64 0, .bool na, .string ta, .int .i64 ea] 23)).alloc (.cells #[.bool false, .slice none 0 0] 87))) := (((Below.refl _ _).alloc (Nat.le_refl _) _).alloc (by simp <;> omega) _)
  obtain ⟨W, hW⟩ : ∃ W, W = ((w.alloc (.cells #[.int .i64 0, .bool na, .string ta, .int .i64 ea] 23)).alloc (.cells #[.bool false, .slice none 0 0] 87)) := ⟨_, rfl⟩
  rw [← hW] at HB0 Ba0 Br0 
  have HW := hide hW
  clear hW
  have ya0 : W.cell? ⟨w.heap.size, 0, none⟩ = some (.int .i64 0) := Ba0.out.cell 0
  have ya1 : W.cell? ⟨w.heap.size, 1, none⟩ = some (.bool na) := Ba0.out.cell 1
  have ya2 : W.cell? ⟨w.heap.size, 2, none⟩ = some (.string ta) := Ba0.out.cell 2
  have ya3 : W.cell? ⟨w.heap.size, 3, none⟩ = some (.int .i64 ea) := Ba0.out.cell 3
  have yr0 : W.cell? ⟨w.heap.size + 1, 0, none⟩ = some (.bool false) := Br0.out.cell 0
  have yr1 : W.cell? ⟨w.heap.size + 1, 1, none⟩ = some (.slice none 0 0) := Br0.out.cell 1
  go_enter Tryz.func68, Tryz.ntmps68
  have b0 : Hid (Below W.heap.size W W.drew) := bdrewD W
  have C0 : Hid (∀ X, Hid (Below W.heap.size W X) → Calls Tryz.prog 92 #[.string ⟨#[48]⟩, .int .i64 (ea - x)] X fun e w' => e = .returned (.string Z) ∧ Hid (Below W.heap.size W w') ∧ w'.cell? ⟨w.heap.size, 0, none⟩ = some (.int .i64 0) ∧ w'.cell? ⟨w.heap.size, 1, none⟩ = some (.bool na) ∧ w'.cell? ⟨w.heap.size, 2, none⟩ = some (.string ta) ∧ w'.cell? ⟨w.heap.size, 3, none⟩ = some (.int .i64 ea) ∧ w'.cell? ⟨w.heap.size + 1, 0, none⟩ = some (.bool false) ∧ w'.cell? ⟨w.heap.size + 1, 1, none⟩ = some (.slice none 0 0)) := by
    intro X bX
    refine (RP.out X).mono ?_
    rintro e w' ⟨rfl, hb⟩
    have bb := bX.out.trans (hb.mono bX.out.size)
    have Baq := Ba0.out.below bb Ba0.out.lt
    have Brq := Br0.out.below bb Br0.out.lt
    exact ⟨rfl, bb, Baq.cell 0, Baq.cell 1, Baq.cell 2, Baq.cell 3, Brq.cell 0, Brq.cell 1⟩
  have C1 : Hid (∀ X, Hid (Below W.heap.size W X) → Calls Tryz.prog 91 #[.string (ta ++ Z)] X fun e w' => (∃ o l c, e = .returned (.tuple #[.slice o l c, .int .i64 0]) ∧ Hid (Nt w' (.slice o l c) n)) ∧ Hid (Below W.heap.size W w') ∧ w'.cell? ⟨w.heap.size, 0, none⟩ = some (.int .i64 0) ∧ w'.cell? ⟨w.heap.size, 1, none⟩ = some (.bool na) ∧ w'.cell? ⟨w.heap.size, 2, none⟩ = some (.string ta) ∧ w'.cell? ⟨w.heap.size, 3, none⟩ = some (.int .i64 ea) ∧ w'.cell? ⟨w.heap.size + 1, 0, none⟩ = some (.bool false) ∧ w'.cell? ⟨w.heap.size + 1, 1, none⟩ = some (.slice none 0 0)) := by
    intro X bX
    refine (PS.out X).mono ?_
    rintro e w' ⟨o, l, c, rfl, hn, hb⟩
    have bb := bX.out.trans (hb.mono bX.out.size)
    have Baq := Ba0.out.below bb Ba0.out.lt
    have Brq := Br0.out.below bb Br0.out.lt
    exact ⟨⟨o, l, c, rfl, hn⟩, bb, Baq.cell 0, Baq.cell 1, Baq.cell 2, Baq.cell 3, Brq.cell 0, Brq.cell 1⟩
  go_wp2_with fail
  simp only [← HW.out]
  have mk0 : True := trivial
  go_region_held3 (fun w' => w'.cell? ⟨w.heap.size, 0, none⟩ = some (.int .i64 0) ∧ w'.cell? ⟨w.heap.size, 1, none⟩ = some (.bool na) ∧ w'.cell? ⟨w.heap.size, 2, none⟩ = some (.string ta) ∧ w'.cell? ⟨w.heap.size, 3, none⟩ = some (.int .i64 ea) ∧ w'.cell? ⟨w.heap.size + 1, 0, none⟩ = some (.bool false) ∧ w'.cell? ⟨w.heap.size + 1, 1, none⟩ = some (.slice none 0 0)) (go_keep) (first
    | (clear mk0; go_at_call 92; refine (C0.out _ b0).mono ?_; rintro e w1 ⟨rfl, b1, q0_0, q0_1, q0_2, q0_3, q0_4, q0_5⟩; have mk1 : True := trivial)
    | (clear mk1; go_at_call 91; refine (C1.out _ b1).mono ?_; rintro e w2 ⟨⟨o, l, c, rfl, hn⟩, b2, q1_0, q1_1, q1_2, q1_3, q1_4, q1_5⟩; have mk2 : True := trivial))
  have Ba2 := hide (Ba0.out.below b2.out Ba0.out.lt)
  have Br2 := hide (Br0.out.below b2.out Br0.out.lt)
  have HB2 := hide (HB0.out.trans (b2.out.mono HB0.out.size))
  clear mk2 b0 b1 b2 C0 C1 q0_0 q0_1 q0_2 q0_3 q0_4 q0_5 q1_0 q1_1 q1_2 q1_3 q1_4 q1_5 Ba0 Br0 HB0 ya0 ya1 ya2 ya3 yr0 yr1
  have ya0 : w2.cell? ⟨w.heap.size, 0, none⟩ = some (.int .i64 0) := Ba2.out.cell 0
  have ya1 : w2.cell? ⟨w.heap.size, 1, none⟩ = some (.bool na) := Ba2.out.cell 1
  have ya2 : w2.cell? ⟨w.heap.size, 2, none⟩ = some (.string ta) := Ba2.out.cell 2
  have ya3 : w2.cell? ⟨w.heap.size, 3, none⟩ = some (.int .i64 ea) := Ba2.out.cell 3
  have yr0 : w2.cell? ⟨w.heap.size + 1, 0, none⟩ = some (.bool false) := Br2.out.cell 0
  have yr1 : w2.cell? ⟨w.heap.size + 1, 1, none⟩ = some (.slice none 0 0) := Br2.out.cell 1
  have hlt2 := Br2.out.lt
  have MK := hide (zt_make na _ n _ hn.out HSM.out)
  clear hn HSM
  go_wp2_with fail
  refine (MK.out).mono ?_
  rintro e w3 ⟨s, o2, l2, c2, rfl, hz, hb, hf⟩
  have Ba3 := hide (Ba2.out.below hb Ba2.out.lt)
  have Br3 := hide (Br2.out.below hb Br2.out.lt)
  have HB3 := hide (HB2.out.trans (hb.mono HB2.out.size))
  clear hb Ba2 Br2 HB2 ya0 ya1 ya2 ya3 yr0 yr1
  have hlt := hlt2
  have fr0 := Br3.out.free 0
  have fr1 := Br3.out.free 1
  have ya0 : w3.cell? ⟨w.heap.size, 0, none⟩ = some (.int .i64 0) := Ba3.out.cell 0
  have ya1 : w3.cell? ⟨w.heap.size, 1, none⟩ = some (.bool na) := Ba3.out.cell 1
  have ya2 : w3.cell? ⟨w.heap.size, 2, none⟩ = some (.string ta) := Ba3.out.cell 2
  have ya3 : w3.cell? ⟨w.heap.size, 3, none⟩ = some (.int .i64 ea) := Ba3.out.cell 3
  have yr0 : w3.cell? ⟨w.heap.size + 1, 0, none⟩ = some (.bool false) := Br3.out.cell 0
  have yr1 : w3.cell? ⟨w.heap.size + 1, 1, none⟩ = some (.slice none 0 0) := Br3.out.cell 1
  go_wp2
  refine bodyPost_ret (results_pair rfl _ _ _ _ _ rfl ((show Pair _ _ _ _ _ from Br3.out).put _ _)) rfl ?_
  exact ⟨s, o2, l2, c2, rfl, (hz.out.put hf.out hlt _).put hf.out hlt _, (HB3.out.setCell (Nat.le_succ _) _).setCell (Nat.le_succ _) _, hf.out.mono (by omega)⟩

end Go.Proofs.YtifpacgacbpalaaGreatDoor

namespace Go.Proofs.YtifpacgacbpalaaGreatDoor
open Go.RowKit

/-- The numbers x lie at o, in a block from lo on and below hi. -/
def Res (k : IntKind) (W : World) (o : Option Addr) (x : List Nat) (lo hi : Nat) : Prop := At k W o x ∧ ∀ b f, x ≠ [] → o = some ⟨b, f, none⟩ → lo ≤ b ∧ b < hi

theorem Res.below {k : IntKind} {W W' : World} {o : Option Addr} {x : List Nat} {lo hi : Nat} (h : Res k W o x lo hi) (hb : Below W.heap.size W W') : Res k W' o x lo hi := ⟨h.1.below hb, h.2⟩

theorem Res.set {k : IntKind} {W : World} {o : Option Addr} {x : List Nat} {lo hi H i : Nat} (h : Res k W o x lo hi) (hH : H < lo ∨ hi ≤ H) (v : Value) : Res k (W.setCell ⟨H, i, none⟩ v) o x lo hi := by
  refine ⟨?_, h.2⟩
  rcases h.1 with h' | ⟨b, f, h1, h2, h3⟩
  · exact .inl h'
  · by_cases hx : x = []
    · exact .inl hx
    · have h4 := h.2 b f hx h1
      refine .inr ⟨b, f, h1, by simpa [World.setCell] using h2, fun j hj => ?_⟩
      rw [← h3 j hj]
      have hne : H ≠ b := by omega
      refine World.cell?_of_block ?_
      simp [World.setCell, Array.getElem?_modify, hne]

theorem Res.of_own {k : IntKind} {e : TypeId} {W : World} {base m cap : Nat} {o : Option Addr} {x : List Nat} (h : Own k e W base m (.slice o x.length cap) x) (hat : At k W o x) : Res k W o x base W.heap.size := by
  refine ⟨hat, fun b f hx e => ?_⟩
  rcases h with ⟨_, h2⟩ | ⟨g, full, h1, h2, h3, _⟩
  · exact absurd h2 hx
  · simp only [Value.slice.injEq] at h1
    rw [e] at h1
    simp only [Option.some.injEq, Addr.mk.injEq] at h1
    have := h3.lt
    omega

theorem bdrew (w : World) : Below w.heap.size w w.drew := ⟨rfl, rfl, rfl, Nat.le_refl _, fun _ _ => rfl⟩
theorem bal {w W : World} (h : Hid (Below w.heap.size w W)) (o : Obj) : Hid (Below w.heap.size w (W.alloc o)) := h.out.alloc h.out.size o

/-- What a call of whole answers in a region: the number z, in its one form. -/
structure WR (W W' : World) (m : Nat) (z : Int) (s : Bool) (o : Option Addr) (c : Nat) (r : List Nat) : Prop where
  ni : NI s r z
  le : r.length ≤ c
  few : c ≤ m
  res : Res .u64 W' o r W.heap.size W'.heap.size
  bel : Below W.heap.size W W'

theorem WR.of {W W' : World} {m : Nat} {z : Int} {e : Ending} (h : WPost W m z e W') : ∃ s o c r, e = .returned (.agg #[.bool s, .slice o (List.length r) c]) ∧ Hid (WR W W' m z s o c r) := by
  obtain ⟨s, v, r, hs, rfl, hown, his, hb⟩ := h
  obtain ⟨o, c, rfl, h1, h2, h3⟩ := hown.shape
  exact ⟨s, o, c, r, rfl, NI.mk hs his, h1, h2, Res.of_own hown h3, hb⟩

/-- Behind a region that calls twice and lays both answers in variables: block H holds the first, block K the second. -/
structure Both (w W : World) (T : TypeId) (H K : Nat) (x1 y1 x2 y2 : Value) (o1 : Option Addr) (r1 : List Nat) (o2 : Option Addr) (r2 : List Nat) (k : IntKind) : Prop where
  bel : Below w.heap.size w W
  p1 : Pair W H x1 y1 T
  p2 : Pair W K x2 y2 T
  at1 : At k W o1 r1
  at2 : At k W o2 r2

theorem both {w W : World} {T : TypeId} {H K : Nat} {a b c d x1 y1 x2 y2 : Value} {o1 o2 : Option Addr} {r1 r2 : List Nat} {k : IntKind} {l1 h1 l2 h2 : Nat} (hb : Below w.heap.size w W) (p1 : Pair W H a b T) (p2 : Pair W K c d T) (hH : w.heap.size ≤ H) (hK : w.heap.size ≤ K) (hne : H ≠ K)
    (f1 : Res k W o1 r1 l1 h1) (f2 : Res k W o2 r2 l2 h2) (e1 : (H < l1 ∨ h1 ≤ H) ∧ (K < l1 ∨ h1 ≤ K)) (e2 : (H < l2 ∨ h2 ≤ H) ∧ (K < l2 ∨ h2 ≤ K)) :
    Both w ((((W.setCell ⟨H, 0, none⟩ x1).setCell ⟨H, 1, none⟩ y1).setCell ⟨K, 0, none⟩ x2).setCell ⟨K, 1, none⟩ y2) T H K x1 y1 x2 y2 o1 r1 o2 r2 k := by
  refine ⟨(((hb.setCell hH _).setCell hH _).setCell hK _).setCell hK _, ?_, ?_, ?_, ?_⟩
  · exact ((p1.put _ _).other (by exact hne) _).other (by exact hne) _
  · exact ((p2.other (by exact Ne.symm hne) _).other (by exact Ne.symm hne) _).put _ _
  · exact ((((f1.set e1.1 _).set e1.1 _).set e1.2 _).set e1.2 _).1
  · exact ((((f2.set e2.1 _).set e2.1 _).set e2.2 _).set e2.2 _).1

section
variable {w W : World} {T : TypeId} {H : Nat} {a b x1 y1 x2 y2 : Value} {o1 o2 : Option Addr} {r1 r2 : List Nat} {k : IntKind} {l1 h1 l2 h2 : Nat}
/-- The first lies in a block that was there, the second in a new one. -/
theorem both_on (hb : Below w.heap.size w W) (p1 : Pair W H a b T) (hH : w.heap.size ≤ H) (f1 : Res k W o1 r1 l1 h1) (f2 : Res k W o2 r2 l2 h2) (e1 : H < l1 ∨ h1 ≤ H) (e2 : H < l2 ∨ h2 ≤ H) :
    Both w (((W.setCell ⟨H, 0, none⟩ x1).setCell ⟨H, 1, none⟩ y1).alloc (.cells #[x2, y2] T)) T H W.heap.size x1 y1 x2 y2 o1 r1 o2 r2 k := by
  have hb' := (hb.setCell (show w.heap.size ≤ (⟨H, 0, none⟩ : Addr).block from hH) x1).setCell (show w.heap.size ≤ (⟨H, 1, none⟩ : Addr).block from hH) y1
  refine ⟨hb'.alloc hb'.size _, (p1.put _ _).alloc _, Pair.newAt _ _ (by simp) _ _ _, ?_, ?_⟩
  · exact (((f1.set e1 x1).set e1 y1).1).below ((Below.refl _ _).alloc (Nat.le_refl _) _)
  · exact (((f2.set e2 x1).set e2 y1).1).below ((Below.refl _ _).alloc (Nat.le_refl _) _)
/-- The second lies in a block that was there, the first in a new one. -/
theorem both_no (hb : Below w.heap.size w W) (p1 : Pair W H a b T) (hH : w.heap.size ≤ H) (f1 : Res k W o1 r1 l1 h1) (f2 : Res k W o2 r2 l2 h2) (e1 : H < l1 ∨ h1 ≤ H) (e2 : H < l2 ∨ h2 ≤ H) :
    Both w (((W.setCell ⟨H, 0, none⟩ x2).setCell ⟨H, 1, none⟩ y2).alloc (.cells #[x1, y1] T)) T W.heap.size H x1 y1 x2 y2 o1 r1 o2 r2 k := by
  have h := both_on (x1 := x2) (y1 := y2) (x2 := x1) (y2 := y1) hb p1 hH f2 f1 e2 e1
  exact ⟨h.bel, h.p2, h.p1, h.at2, h.at1⟩
theorem both_nn (hb : Below w.heap.size w W) (f1 : Res k W o1 r1 l1 h1) (f2 : Res k W o2 r2 l2 h2) :
    Both w ((W.alloc (.cells #[x1, y1] T)).alloc (.cells #[x2, y2] T)) T W.heap.size (W.heap.size + 1) x1 y1 x2 y2 o1 r1 o2 r2 k := by
  have hb1 := hb.alloc hb.size (.cells #[x1, y1] T)
  refine ⟨hb1.alloc hb1.size _, (Pair.new _ _ _ _).alloc _, Pair.newAt _ _ (by simp) _ _ _, ?_, ?_⟩
  · exact (f1.1.below ((Below.refl _ _).alloc (Nat.le_refl _) _)).below ((Below.refl _ _).alloc (Nat.le_refl _) _)
  · exact (f2.1.below ((Below.refl _ _).alloc (Nat.le_refl _) _)).below ((Below.refl _ _).alloc (Nat.le_refl _) _)
theorem both_mm (hb : Below w.heap.size w W) (f1 : Res k W o1 r1 l1 h1) (f2 : Res k W o2 r2 l2 h2) :
    Both w ((W.alloc (.cells #[x2, y2] T)).alloc (.cells #[x1, y1] T)) T (W.heap.size + 1) W.heap.size x1 y1 x2 y2 o1 r1 o2 r2 k := by
  have h := both_nn (x1 := x2) (y1 := y2) (x2 := x1) (y2 := y1) (T := T) hb f2 f1
  exact ⟨h.bel, h.p2, h.p1, h.at2, h.at1⟩
end

/-- Where the ways through such a region meet: the variables' pointers and the world. -/
structure Cut2 (w : World) (z u : Int) (m n : Nat) (v1 v2 : Value) (W : World) : Prop where
  ex : ∃ (H K : Nat) (s1 : Bool) (o1 : Option Addr) (c1 : Nat) (r1 : List Nat) (s2 : Bool) (o2 : Option Addr) (c2 : Nat) (r2 : List Nat), v1 = .pointer (some ⟨H, 0, none⟩) ∧ v2 = .pointer (some ⟨K, 0, none⟩) ∧
    Both w W 87 H K (.bool s1) (.slice o1 r1.length c1) (.bool s2) (.slice o2 r2.length c2) o1 r1 o2 r2 .u64 ∧ NI s1 r1 z ∧ NI s2 r2 u ∧ r1.length ≤ c1 ∧ c1 ≤ m ∧ r2.length ≤ c2 ∧ c2 ≤ n

end Go.Proofs.YtifpacgacbpalaaGreatDoor
