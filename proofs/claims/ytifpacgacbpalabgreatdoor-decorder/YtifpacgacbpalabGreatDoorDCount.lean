/-
  whole's numbers with a sign, as package dec makes them; what dec's counted does.
-/
import Derived.Test.YtifpacgacbpalabGreatDoorDPrint
import Derived.Test.YtifpacgacbpalabGreatDoorZQ14
import Derived.Test.YtifpacgacbpalabGreatDoorZQ7
import Derived.Test.YtifpacgacbpalabGreatDoorZParse
import Derived.Deep.RegionHeld3
namespace Go.Proofs.YtifpacgacbpalabGreatDoor
open Go.RowKit

/-- v is a whole number with a sign, in its one form, the number z. -/
def Zt (w : World) (v : Value) (z : Int) : Prop := ∃ o c xs, v = .agg #[.bool (decide (z < 0)), .slice o (List.length xs) c] ∧ xs.length ≤ c ∧ c ≤ 1000000 ∧ At .u64 w o xs ∧ Is B64 xs z.natAbs

theorem Zt.below {w w' : World} {v : Value} {z : Int} (h : Zt w v z) (hb : Below w.heap.size w w') : Zt w' v z := by
  obtain ⟨o, c, xs, h1, h2, h3, h4, h5⟩ := h
  exact ⟨o, c, xs, h1, h2, h3, h4.below hb, h5⟩

theorem Zt.nt {w : World} {s : Bool} {o : Option Addr} {l c : Nat} {z : Int} (h : Zt w (.agg #[.bool s, .slice o l c]) z) : s = decide (z < 0) ∧ Nt w (.slice o l c) z.natAbs := by
  obtain ⟨o', c', xs, h1, h2, h3, h4, h5⟩ := h
  simp only [Value.agg.injEq] at h1
  have e1 := congrArg (fun a : Array Value => a[0]?) h1
  have e2 := congrArg (fun a : Array Value => a[1]?) h1
  simp at e1 e2
  obtain ⟨e2, e3, e4⟩ := e2
  subst e1 e2 e3 e4
  exact ⟨rfl, o, c, xs, rfl, h2, h3, h4, h5⟩

/-- A whole number with a sign is answered. -/
def ZtPost (w : World) (z : Int) (e : Ending) (w' : World) : Prop := ∃ s o l c, e = .returned (.agg #[.bool s, .slice o l c]) ∧ Hid (Zt w' (.agg #[.bool s, .slice o l c]) z) ∧ Below w.heap.size w w' ∧ Hid (Far w.heap.size (.slice o l c))

theorem wpost_zt {w : World} {m : Nat} {z : Int} (hm : m ≤ 1000000) {e : Ending} {w' : World} (h : WPost w m z e w') : ZtPost w z e w' := by
  obtain ⟨s, v, r, hs, rfl, hown, his, hb⟩ := h
  obtain ⟨o, c, rfl, h1, h2, h3⟩ := hown.shape
  refine ⟨s, o, r.length, c, rfl, ⟨o, c, r, ?_, h1, by omega, h3, his⟩, hb, Far.of hown⟩
  rw [hs.out]

theorem Zt.put {w : World} {s : Bool} {o : Option Addr} {l c : Nat} {z : Int} {base : Nat} (h : Zt w (.agg #[.bool s, .slice o l c]) z) (hf : Far base (.slice o l c)) {a : Addr} (ha : a.block < base) (u : Value) : Zt (w.setCell a u) (.agg #[.bool s, .slice o l c]) z := by
  obtain ⟨rfl, g⟩ := h.nt
  obtain ⟨o', c', xs, e, h2, h3, h4, h5⟩ := g.put hf ha u
  cases e
  exact ⟨_, _, xs, rfl, h2, h3, h4, h5⟩

theorem zt_make (neg : Bool) (a : Value) (n : Nat) (w : World) (ha : Nt w a n) (hn : Sm n) : Calls Tryz.prog 58 #[.bool neg, a] w (ZtPost w (zv neg n)) := by
  obtain ⟨o, c, xs, rfl, h1, h2, h3, h4⟩ := ha
  have l1 := is_len h4 hn
  have g := make_any neg o _ c xs w h1 (by omega) rfl h3 h4.1
  rw [h4.2.2] at g
  exact g.mono fun e w' h => wpost_zt (by omega) h

theorem zt_add (a b : Value) (x y : Int) (w : World) (ha : Zt w a x) (hb : Zt w b y) (hx : Sm x.natAbs) (hy : Sm y.natAbs) : Calls Tryz.prog 38 #[a, b] w (ZtPost w (x + y)) := by
  obtain ⟨o, c, xs, rfl, h1, h2, h3, h4⟩ := ha
  obtain ⟨o', c', ys, rfl, h1', h2', h3', h4'⟩ := hb
  have l1 := is_len h4 hx
  have l2 := is_len h4' hy
  have nx : NV (decide (x < 0)) xs x := ⟨h4.1, by rw [h4.2.2]; unfold zv; by_cases h : x < 0 <;> simp [h] <;> omega⟩
  have ny : NV (decide (y < 0)) ys y := ⟨h4'.1, by rw [h4'.2.2]; unfold zv; by_cases h : y < 0 <;> simp [h] <;> omega⟩
  exact (addz _ _ o o' _ c _ c' xs ys w h1 h1' rfl rfl h3 h3' x y nx ny (by omega) (by omega)).mono fun e w' h => wpost_zt (by omega) h

theorem ztparse (s : ByteArray) (n : Nat) (w : World) (hs : s.size ≤ 8192) (hok : OkT (bys s)) (hn : decV (bys s) = n) : Calls Tryz.prog 56 #[.string s] w fun e w' => ∃ o l c, e = .returned (.tuple #[.slice o l c, .int .i64 0]) ∧ Hid (Nt w' (.slice o l c) n) ∧ Below w.heap.size w w' := by
  refine (parse_any s w (decV (bys s)) 0 (.inr (.inr ⟨hs, hok, rfl, rfl⟩))).mono ?_
  rintro e w' ⟨v, r, rfl, g1, g2, g3⟩
  have g4 := Nt.of g1 g2 (by omega)
  obtain ⟨o, c, xs, rfl, g5⟩ := g4
  rw [hn] at g5
  exact ⟨o, xs.length, c, rfl, ⟨o, c, xs, rfl, g5⟩, g3⟩

theorem repeat_any (c : Nat) (w : World) (hc : c ≤ 100000) : Calls Tryz.prog 57 #[.string ⟨#[48]⟩, .int .i64 (c : Int)] w fun e w' => e = .returned (.string ⟨(List.replicate c (48 : UInt8)).toArray⟩) ∧ Below w.heap.size w w' := by
  have h := Tryz.strings_Repeat ⟨#[48]⟩ c w (by omega) (by show 1 * c ≤ _; omega)
  rw [show (⟨#[48]⟩ : ByteArray).data.toList = [48] from rfl, repeat0] at h
  exact h

theorem digB_rep (c : Nat) : DigB (List.replicate c (48 : UInt8)) := by
  intro k hk
  rw [List.length_replicate] at hk
  unfold byt
  rw [List.getElem?_replicate, if_pos hk]
  decide

theorem decV_rep : ∀ c : Nat, decV (List.replicate c (48 : UInt8)) = 0
  | 0 => rfl
  | c + 1 => by rw [List.replicate_succ, decV_cons, decV_rep c]; simp

theorem okT_rep {l : List UInt8} (h : OkT l) (h0 : byt l 0 ≠ 48) (c : Nat) : OkT (l ++ List.replicate c 48) ∧ decV (l ++ List.replicate c 48) = decV l * 10 ^ c := by
  refine ⟨h.append (fun e => h0 (by rw [e]; rfl)) (digB_rep c), ?_⟩
  rw [decV_append, decV_rep, List.length_replicate, Nat.add_zero]

set_option maxHeartbeats 1000000 in
theorem counted_nil (na : Bool) (ea x : Int) (w : World) : Calls Tryz.prog 39 #[dcV 0 na ⟨#[]⟩ ea, .int .i64 x] w (ZtPost w 0) := by
  have Ba0 := hide ((Blk.newAt w (w.heap.size) (rfl) #[.int .i64 0, .bool na, .string ⟨#[]⟩, .int .i64 ea] 23).alloc (.cells #[.bool false, .slice none 0 0] 63))
  have Br0 := hide (Blk.newAt (w.alloc (.cells #[.int .i64 0, .bool na, .string ⟨#[]⟩, .int .i64 ea] 23)) (w.heap.size + 1) (by simp) #[.bool false, .slice none 0 0] 63)
  have HB0 : Hid (Below w.heap.size w ((w.alloc (.cells #[.int .i64 0, .bool na, .string ⟨#[]⟩, .int .i64 ea] 23)).alloc (.cells #[.bool false, .slice none 0 0] 63))) := (((Below.refl _ _).alloc (Nat.le_refl _) _).alloc (by simp <;> omega) _)
  go_enter Tryz.func39, Tryz.ntmps39
  go_wp2
  refine bodyPost_ret (results_pair rfl _ _ _ _ _ rfl (show Pair _ _ _ _ _ from Br0.out)) rfl ?_
  exact ⟨false, none, 0, 0, rfl, ⟨none, 0, [], rfl, by simp, by omega, At.nil _ _ _, Is.none (by decide)⟩, HB0.out, fun o l c h a e => by cases h; cases e⟩

set_option maxRecDepth 100000 in
set_option maxHeartbeats 2000000 in
theorem counted_fin (na : Bool) (ta : ByteArray) (ea x : Int) (k : Nat) (w : World) (h0 : ta.size ≠ 0) (b1 : ta.size ≤ 1000) (hok : OkT (bys ta)) (h48 : byt (bys ta) 0 ≠ 48) (hk : ea - x = (k : Int)) (hk2 : k ≤ 7000) (hsm : Sm (decV (bys ta) * 10 ^ k)) : Calls Tryz.prog 39 #[dcV 0 na ta ea, .int .i64 x] w (ZtPost w (zv na (decV (bys ta) * 10 ^ k))) := by
  have h2 := toList_ne h0
  have RP := hide (fun W => repeat_any k W (by omega))
  rw [← hk] at RP
  obtain ⟨Z, hZ⟩ : ∃ Z : ByteArray, Z = ⟨(List.replicate k (48 : UInt8)).toArray⟩ := ⟨_, rfl⟩
  rw [← hZ] at RP
  have hZs : Z.size = k := by rw [hZ, size_mk0, List.length_replicate]
  have hZb : bys (ta ++ Z) = bys ta ++ List.replicate k 48 := by rw [bys_append, hZ, bys_mk (List.replicate k 48)]
  obtain ⟨q1, q2⟩ := okT_rep hok h48 k
  rw [← hZb] at q1 q2
  obtain ⟨n, hn⟩ : ∃ n, n = decV (bys ta) * 10 ^ k := ⟨_, rfl⟩
  rw [← hn] at q2 hsm ⊢
  have PS := hide (fun W => ztparse (ta ++ Z) n W (by rw [ByteArray.size_append, hZs]; omega) q1 q2)
  have s1 : ¬ 9223372036854775807 < ta.size + Z.size := by omega
  have HSM := hide hsm
  have hw : IntKind.i64.wrap (ea - x) = ea - x := by rw [IntKind.wrap_i64]; omega
  clear h0 hk hZ hZs hZb q1 q2 hn hsm hok h48 b1 hk2
  have Ba0 := hide ((Blk.newAt w (w.heap.size) (rfl) #[.int .i64 0, .bool na, .string ta, .int .i64 ea] 23).alloc (.cells #[.bool false, .slice none 0 0] 63))
  have Br0 := hide (Blk.newAt (w.alloc (.cells #[.int .i64 0, .bool na, .string ta, .int .i64 ea] 23)) (w.heap.size + 1) (by simp) #[.bool false, .slice none 0 0] 63)
  have HB0 : Hid (Below w.heap.size w ((w.alloc (.cells #[.int .i64 0, .bool na, .string ta, .int .i64 ea] 23)).alloc (.cells #[.bool false, .slice none 0 0] 63))) := (((Below.refl _ _).alloc (Nat.le_refl _) _).alloc (by simp <;> omega) _)
  obtain ⟨W, hW⟩ : ∃ W, W = ((w.alloc (.cells #[.int .i64 0, .bool na, .string ta, .int .i64 ea] 23)).alloc (.cells #[.bool false, .slice none 0 0] 63)) := ⟨_, rfl⟩
  rw [← hW] at HB0 Ba0 Br0 
  have HW := hide hW
  clear hW
  have ya0 : W.cell? ⟨w.heap.size, 0, none⟩ = some (.int .i64 0) := Ba0.out.cell 0
  have ya1 : W.cell? ⟨w.heap.size, 1, none⟩ = some (.bool na) := Ba0.out.cell 1
  have ya2 : W.cell? ⟨w.heap.size, 2, none⟩ = some (.string ta) := Ba0.out.cell 2
  have ya3 : W.cell? ⟨w.heap.size, 3, none⟩ = some (.int .i64 ea) := Ba0.out.cell 3
  have yr0 : W.cell? ⟨w.heap.size + 1, 0, none⟩ = some (.bool false) := Br0.out.cell 0
  have yr1 : W.cell? ⟨w.heap.size + 1, 1, none⟩ = some (.slice none 0 0) := Br0.out.cell 1
  go_enter Tryz.func39, Tryz.ntmps39
  have b0 : Hid (Below W.heap.size W W.drew) := bdrewD W
  have C0 : Hid (∀ X, Hid (Below W.heap.size W X) → Calls Tryz.prog 57 #[.string ⟨#[48]⟩, .int .i64 (ea - x)] X fun e w' => e = .returned (.string Z) ∧ Hid (Below W.heap.size W w') ∧ w'.cell? ⟨w.heap.size, 0, none⟩ = some (.int .i64 0) ∧ w'.cell? ⟨w.heap.size, 1, none⟩ = some (.bool na) ∧ w'.cell? ⟨w.heap.size, 2, none⟩ = some (.string ta) ∧ w'.cell? ⟨w.heap.size, 3, none⟩ = some (.int .i64 ea) ∧ w'.cell? ⟨w.heap.size + 1, 0, none⟩ = some (.bool false) ∧ w'.cell? ⟨w.heap.size + 1, 1, none⟩ = some (.slice none 0 0)) := by
    intro X bX
    refine (RP.out X).mono ?_
    rintro e w' ⟨rfl, hb⟩
    have bb := bX.out.trans (hb.mono bX.out.size)
    have Baq := Ba0.out.below bb Ba0.out.lt
    have Brq := Br0.out.below bb Br0.out.lt
    exact ⟨rfl, bb, Baq.cell 0, Baq.cell 1, Baq.cell 2, Baq.cell 3, Brq.cell 0, Brq.cell 1⟩
  have C1 : Hid (∀ X, Hid (Below W.heap.size W X) → Calls Tryz.prog 56 #[.string (ta ++ Z)] X fun e w' => (∃ o l c, e = .returned (.tuple #[.slice o l c, .int .i64 0]) ∧ Hid (Nt w' (.slice o l c) n)) ∧ Hid (Below W.heap.size W w') ∧ w'.cell? ⟨w.heap.size, 0, none⟩ = some (.int .i64 0) ∧ w'.cell? ⟨w.heap.size, 1, none⟩ = some (.bool na) ∧ w'.cell? ⟨w.heap.size, 2, none⟩ = some (.string ta) ∧ w'.cell? ⟨w.heap.size, 3, none⟩ = some (.int .i64 ea) ∧ w'.cell? ⟨w.heap.size + 1, 0, none⟩ = some (.bool false) ∧ w'.cell? ⟨w.heap.size + 1, 1, none⟩ = some (.slice none 0 0)) := by
    intro X bX
    refine (PS.out X).mono ?_
    rintro e w' ⟨o, l, c, rfl, hn, hb⟩
    have bb := bX.out.trans (hb.mono bX.out.size)
    have Baq := Ba0.out.below bb Ba0.out.lt
    have Brq := Br0.out.below bb Br0.out.lt
    exact ⟨⟨o, l, c, rfl, hn⟩, bb, Baq.cell 0, Baq.cell 1, Baq.cell 2, Baq.cell 3, Brq.cell 0, Brq.cell 1⟩
  go_wp2_with fail
  simp only [← HW.out]
  have mk0 : True := trivial
  go_region_held3 (fun w' => w'.cell? ⟨w.heap.size, 0, none⟩ = some (.int .i64 0) ∧ w'.cell? ⟨w.heap.size, 1, none⟩ = some (.bool na) ∧ w'.cell? ⟨w.heap.size, 2, none⟩ = some (.string ta) ∧ w'.cell? ⟨w.heap.size, 3, none⟩ = some (.int .i64 ea) ∧ w'.cell? ⟨w.heap.size + 1, 0, none⟩ = some (.bool false) ∧ w'.cell? ⟨w.heap.size + 1, 1, none⟩ = some (.slice none 0 0)) (go_keep) (first
    | (clear mk0; go_at_call 57; refine (C0.out _ b0).mono ?_; rintro e w1 ⟨rfl, b1, q0_0, q0_1, q0_2, q0_3, q0_4, q0_5⟩; have mk1 : True := trivial)
    | (clear mk1; go_at_call 56; refine (C1.out _ b1).mono ?_; rintro e w2 ⟨⟨o, l, c, rfl, hn⟩, b2, q1_0, q1_1, q1_2, q1_3, q1_4, q1_5⟩; have mk2 : True := trivial))
  have Ba2 := hide (Ba0.out.below b2.out Ba0.out.lt)
  have Br2 := hide (Br0.out.below b2.out Br0.out.lt)
  have HB2 := hide (HB0.out.trans (b2.out.mono HB0.out.size))
  clear mk2 b0 b1 b2 C0 C1 q0_0 q0_1 q0_2 q0_3 q0_4 q0_5 q1_0 q1_1 q1_2 q1_3 q1_4 q1_5 Ba0 Br0 HB0 ya0 ya1 ya2 ya3 yr0 yr1
  have ya0 : w2.cell? ⟨w.heap.size, 0, none⟩ = some (.int .i64 0) := Ba2.out.cell 0
  have ya1 : w2.cell? ⟨w.heap.size, 1, none⟩ = some (.bool na) := Ba2.out.cell 1
  have ya2 : w2.cell? ⟨w.heap.size, 2, none⟩ = some (.string ta) := Ba2.out.cell 2
  have ya3 : w2.cell? ⟨w.heap.size, 3, none⟩ = some (.int .i64 ea) := Ba2.out.cell 3
  have yr0 : w2.cell? ⟨w.heap.size + 1, 0, none⟩ = some (.bool false) := Br2.out.cell 0
  have yr1 : w2.cell? ⟨w.heap.size + 1, 1, none⟩ = some (.slice none 0 0) := Br2.out.cell 1
  have hlt2 := Br2.out.lt
  have MK := hide (zt_make na _ n _ hn.out HSM.out)
  clear hn HSM
  go_wp2_with fail
  refine (MK.out).mono ?_
  rintro e w3 ⟨s, o2, l2, c2, rfl, hz, hb, hf⟩
  have Ba3 := hide (Ba2.out.below hb Ba2.out.lt)
  have Br3 := hide (Br2.out.below hb Br2.out.lt)
  have HB3 := hide (HB2.out.trans (hb.mono HB2.out.size))
  clear hb Ba2 Br2 HB2 ya0 ya1 ya2 ya3 yr0 yr1
  have hlt := hlt2
  have fr0 := Br3.out.free 0
  have fr1 := Br3.out.free 1
  have ya0 : w3.cell? ⟨w.heap.size, 0, none⟩ = some (.int .i64 0) := Ba3.out.cell 0
  have ya1 : w3.cell? ⟨w.heap.size, 1, none⟩ = some (.bool na) := Ba3.out.cell 1
  have ya2 : w3.cell? ⟨w.heap.size, 2, none⟩ = some (.string ta) := Ba3.out.cell 2
  have ya3 : w3.cell? ⟨w.heap.size, 3, none⟩ = some (.int .i64 ea) := Ba3.out.cell 3
  have yr0 : w3.cell? ⟨w.heap.size + 1, 0, none⟩ = some (.bool false) := Br3.out.cell 0
  have yr1 : w3.cell? ⟨w.heap.size + 1, 1, none⟩ = some (.slice none 0 0) := Br3.out.cell 1
  go_wp2
  refine bodyPost_ret (results_pair rfl _ _ _ _ _ rfl ((show Pair _ _ _ _ _ from Br3.out).put _ _)) rfl ?_
  exact ⟨s, o2, l2, c2, rfl, (hz.out.put hf.out hlt _).put hf.out hlt _, (HB3.out.setCell (Nat.le_succ _) _).setCell (Nat.le_succ _) _, hf.out.mono (by omega)⟩

end Go.Proofs.YtifpacgacbpalabGreatDoor
