/-
  How the reference reads a bundle, as plain mathematics: it stops at the first that is wrong; of a bundle's own bytes it reads what bundle reads.
  The calls whose answers the document fixes.
  What quipuref12's SameTable and Same answer of two that read the same.
  quipuref12.SameTexts of two lists that read the same.
  Laws of append within the room of a list of the call's own: nil or not, and at a step of a region that draws its order.
  What quipuref12's Copy makes: lists of the call's own, a mark behind each.
  The reference's list of texts, where its cursor lies; what at answers of it.
-/
import Derived.Test.YtihnakblcfealaaGreatDoorEB11
import Derived.Laws.StructEq
import Derived.OwnWalk
import Derived.Deep.RegionLaw
import Derived.Laws.OwnMore
import Derived.Test.YtihnakblcfealaaGreatDoorEB6
import Derived.Test.YtihnakblcfealaaGreatDoorEB9
namespace Go.Proofs.YtihnakblcfealaaGreatDoor
open Go.RowKit

def okE (ps : List ByteArray) (s : ByteArray) (st : St) : Bool :=
  decide (gV s st 2 < ps.length) && (decide (gV s (gS s st 2) 1 = 1) || decide (gV s (gS s (gS s st 2) 1) 4 < ps.length))

def refL (ps : List ByteArray) (s : ByteArray) : Nat → St → Bool → List Ent × Bool × St
  | 0, st, ok => ([], ok, st)
  | n + 1, st, ok => if ok = true ∧ st.2 = 0 then ((rdE ps s st).1 :: (refL ps s n (rdE ps s st).2 (okE ps s st)).1, (refL ps s n (rdE ps s st).2 (okE ps s st)).2) else ([], ok, st)

def refS (s : ByteArray) (st : St) : St := gS s (gS s (gS s st 2) 1) 2
def refLs (ps : List ByteArray) (s : ByteArray) (st : St) : List Ent × Bool × St := refL ps s (gV s (gS s (gS s st 2) 1) 2) (refS s st) (decide (gV s st 2 < ps.length))
def refG (ps : List ByteArray) (s : ByteArray) (st : St) : Tab × Bool × St :=
  (⟨txN ps (gV s st 2), parV (gV s (gS s st 2) 1), (refLs ps s st).1⟩, (refLs ps s st).2.1 && decide ((refLs ps s st).2.2.2 = 0), (refLs ps s st).2.2)

def refTs (ps : List ByteArray) (s : ByteArray) : Nat → St → Bool → List Tab × Bool × St
  | 0, st, ok => ([], ok, st)
  | n + 1, st, ok => if ok = true then ((refG ps s st).1 :: (refTs ps s n (refG ps s st).2.2 (refG ps s st).2.1).1, (refTs ps s n (refG ps s st).2.2 (refG ps s st).2.1).2) else ([], ok, st)

def refXs (s : ByteArray) : Nat → St → List ByteArray × St
  | 0, st => ([], st)
  | n + 1, st => if st.2 = 0 then (xV s st :: (refXs s n (xS s st)).1, (refXs s n (xS s st)).2) else ([], st)

def refP (s : ByteArray) : List ByteArray × St := refXs s (gV s (0, 0) 2) (gS s (0, 0) 2)
def refB (s : ByteArray) : List Tab × Bool × St := refTs (refP s).1 s (gV s (refP s).2 1) (gS s (refP s).2 1) (decide ((gS s (refP s).2 1).2 = 0))

theorem okE_back {s : ByteArray} {ps : List (List UInt8)} (hps : ps.length ≤ 4096) (p : Nat) (e : Ent) (he : PE ps e) (h : SL s p (entB ps e)) : okE (unB ps) s (p, 0) = true := by
  obtain ⟨hk, hv, ht⟩ := he
  obtain ⟨k, d, t, m⟩ := e
  simp only at hk ht
  unfold entB at h
  simp only at h
  obtain ⟨h12, h3⟩ := h.parts
  obtain ⟨h1, h2⟩ := h12.parts
  obtain ⟨_, k2⟩ := place_back hk
  obtain ⟨a1, a2⟩ := get2_back h1 (by omega)
  have hu : (unB ps).length = ps.length := by unfold unB; rw [List.length_map]
  unfold mayVal at hv
  simp only at hv
  have hd : d = 0 ∨ d = 1 ∨ d = 2 := by
    by_cases q0 : d = 0
    · exact .inl q0
    by_cases q1 : d = 1
    · exact .inr (.inl q1)
    by_cases q2 : d = 2
    · exact .inr (.inr q2)
    rw [if_neg q0, if_neg q1, if_neg q2] at hv
    cases hv
  obtain ⟨dn, rfl⟩ : ∃ dn : Nat, d = (dn : Int) := ⟨d.toNat, by omega⟩
  have hp2 : (p2 (placeS ps (bys k) : Int)).length = 2 := rfl
  rw [hp2] at h2
  obtain ⟨b1, b2⟩ := get1_back h2 (by omega)
  have hp3 : p + (p2 (placeS ps (bys k) : Int) ++ p1 (dn : Int)).length = p + 2 + 1 := rfl
  rw [hp3] at h3
  unfold okE
  rw [a1, a2, b1, b2, hu, decide_eq_true k2, Bool.true_and]
  by_cases q : dn = 1
  · rw [decide_eq_true q, Bool.true_or]
  · rw [if_neg (by omega)] at h3
    obtain ⟨_, t2⟩ := place_back (ht (by omega))
    obtain ⟨c1, _⟩ := get4_back h3 (by omega)
    rw [c1, decide_eq_true t2, Bool.or_true]

theorem refL_back {s : ByteArray} {ps : List (List UInt8)} (hps : ps.length ≤ 4096) : ∀ (es : List Ent) (p : Nat), (∀ e ∈ es, PE ps e) → SL s p (es.flatMap (entB ps)) → refL (unB ps) s es.length (p, 0) true = (es, true, (p + (es.flatMap (entB ps)).length, 0))
  | [], p, _, _ => rfl
  | e :: r, p, hP, hS => by
    rw [List.flatMap_cons] at hS ⊢
    have he := hP e (List.mem_cons_self ..)
    have hx := entry_back hps p e he hS.parts.1
    have ho := okE_back hps p e he hS.parts.1
    have hr := refL_back hps r (p + (entB ps e).length) (fun y hy => hP y (List.mem_cons_of_mem _ hy)) hS.parts.2
    show (if true = true ∧ (p, 0).2 = 0 then _ else _) = _
    rw [if_pos ⟨rfl, rfl⟩, hx, ho, hr, List.length_append, Nat.add_assoc]

theorem refG_back {s : ByteArray} {ps : List (List UInt8)} (hps : ps.length ≤ 4096) (p : Nat) (t : Tab) (ht : PT ps t) (h : SL s p (tabB ps t)) : refG (unB ps) s (p, 0) = (t, true, (p + (tabB ps t).length, 0)) := by
  obtain ⟨hn, hp1, hp2, hl, hE⟩ := ht
  obtain ⟨n, d, es⟩ := t
  simp only at hn hp1 hp2 hl hE
  have hlen : (tabB ps ⟨n, d, es⟩).length = 5 + 7 * es.length := tabB_len _ _
  unfold tabB at h
  simp only [List.append_assoc] at h
  obtain ⟨h1, h2⟩ := h.parts
  obtain ⟨h2, h3⟩ := h2.parts
  obtain ⟨k1, k2⟩ := place_back hn
  obtain ⟨a1, a2⟩ := get2_back h1 (by omega)
  obtain ⟨pn, hpn, hpl⟩ : ∃ pn : Nat, parB d = (pn : Int) ∧ pn < 256 ∧ parV pn = d := by
    unfold parB parV
    by_cases q : d = -1
    · exact ⟨255, by rw [if_pos q]; rfl, by decide, by rw [if_pos rfl, q]⟩
    · exact ⟨d.toNat, by rw [if_neg q]; omega, by omega, by rw [if_neg (by omega)]; omega⟩
  rw [hpn] at h2 h3
  have e2 : (p2 (placeS ps (bys n) : Int)).length = 2 := rfl
  rw [e2] at h2 h3
  obtain ⟨b1, b2⟩ := get1_back h2 hpl.1
  have e3 : p + 2 + (p1 (pn : Int)).length = p + 2 + 1 := rfl
  rw [e3] at h3
  obtain ⟨c1, c2⟩ := get2_back h3.parts.1 (by omega)
  have hu : (unB ps).length = ps.length := by unfold unB; rw [List.length_map]
  have e4 : p + 2 + 1 + (p2 (es.length : Int)).length = p + 2 + 1 + 2 := rfl
  have hL := h3.parts.2
  rw [e4] at hL
  have hr := refL_back hps es _ hE hL
  have hLs : refLs (unB ps) s (p, 0) = (es, true, (p + 2 + 1 + 2 + (es.flatMap (entB ps)).length, 0)) := by
    unfold refLs refS
    rw [a1, a2, b2, c1, c2, hu, decide_eq_true k2]
    exact hr
  rw [hlen]
  unfold refG
  rw [hLs, a1, a2, b1, k1, hpl.2, entsB_len]
  simp only [Prod.mk.injEq, true_and]
  refine ⟨rfl, ?_⟩
  exact ⟨by omega, trivial⟩

theorem refTs_back {s : ByteArray} {ps : List (List UInt8)} (hps : ps.length ≤ 4096) : ∀ (ts : List Tab) (p : Nat), (∀ t ∈ ts, PT ps t) → SL s p (ts.flatMap (tabB ps)) → refTs (unB ps) s ts.length (p, 0) true = (ts, true, (p + (ts.flatMap (tabB ps)).length, 0))
  | [], p, _, _ => rfl
  | t :: r, p, hP, hS => by
    rw [List.flatMap_cons] at hS ⊢
    have hx := refG_back hps p t (hP t (List.mem_cons_self ..)) hS.parts.1
    have hr := refTs_back hps r (p + (tabB ps t).length) (fun y hy => hP y (List.mem_cons_of_mem _ hy)) hS.parts.2
    show (if true = true then _ else _) = _
    rw [if_pos rfl, hx, hr, List.length_append, Nat.add_assoc]

theorem refXs_back {s : ByteArray} : ∀ (xs : List ByteArray) (p : Nat), (∀ x ∈ xs, ptxE x = 0) → SL s p (xs.flatMap fun t => bys (ptxV t)) → refXs s xs.length (p, 0) = (xs, (p + (xs.flatMap fun t => bys (ptxV t)).length, 0))
  | [], p, _, _ => rfl
  | x :: r, p, hP, hS => by
    rw [List.flatMap_cons] at hS ⊢
    have hx := text_back hS.parts.1 (hP x (List.mem_cons_self ..))
    unfold rdX at hx
    have h1 : xV s (p, 0) = x := congrArg Prod.fst hx
    have h2 : xS s (p, 0) = (p + (bys (ptxV x)).length, 0) := congrArg Prod.snd hx
    have hr := refXs_back r (p + (bys (ptxV x)).length) (fun y hy => hP y (List.mem_cons_of_mem _ hy)) hS.parts.2
    show (if (p, 0).2 = 0 then _ else _) = _
    rw [if_pos rfl, h1, h2, hr, List.length_append, Nat.add_assoc]

theorem ref_back {ts : List Tab} (h : checkT ts = 0) (s : ByteArray) (hs : bys s = encT ts) : (refB s).1 = ts ∧ (refB s).2.1 = true := by
  have hpl : (poolL (textsL ts)).length ≤ 4096 := by rw [pool_len]; exact (check_zero h).2.2
  obtain ⟨l1, l16, _⟩ := counts_len (check_zero h).1
  have hS : SL s 0 (encT ts) := ⟨Nat.zero_le _, [], by rw [List.drop_zero, hs, List.append_nil]⟩
  have hT := tabs_may h
  have hX : ∀ t ∈ unB (poolL (textsL ts)), ptxE t = 0 := by
    intro t ht
    unfold unB at ht
    obtain ⟨l, hl, rfl⟩ := List.mem_map.1 ht
    obtain ⟨x, hx, rfl⟩ := (pool_mem _ _).1 hl
    rw [mkByB]
    exact texts_may h x hx
  unfold encT at hS
  rw [List.append_assoc] at hS
  obtain ⟨hA, hB⟩ := hS.parts
  have hfl : txtB (poolL (textsL ts)) = (unB (poolL (textsL ts))).flatMap (fun t => bys (ptxV t)) := by
    unfold txtB unB
    rw [List.flatMap_map]
  have hul : (unB (poolL (textsL ts))).length = (poolL (textsL ts)).length := by unfold unB; rw [List.length_map]
  obtain ⟨a1, a2⟩ := get2_back hA.parts.1 (by omega)
  have hA2 := hA.parts.2
  have e0 : 0 + (p2 ((poolL (textsL ts)).length : Int)).length = 0 + 2 := rfl
  rw [e0, hfl] at hA2
  have e1 : refP s = (unB (poolL (textsL ts)), (0 + 2 + (txtB (poolL (textsL ts))).length, 0)) := by
    unfold refP
    rw [a1, a2, ← hul, refXs_back _ _ hX hA2, ← hfl]
  have e2 : 0 + (p2 ((poolL (textsL ts)).length : Int) ++ txtB (poolL (textsL ts))).length = 0 + 2 + (txtB (poolL (textsL ts))).length := by
    rw [List.length_append]; show 0 + (2 + _) = _; omega
  rw [e2] at hB
  obtain ⟨b1, b2⟩ := get1_back hB.parts.1 (by omega)
  have hB2 := hB.parts.2
  have hr := refTs_back hpl ts _ hT hB2
  unfold refB
  rw [e1]
  simp only
  rw [b1, b2]
  show (refTs _ _ _ _ (decide (0 = 0))).1 = ts ∧ _
  have e3 : 0 + 2 + (txtB (poolL (textsL ts))).length + (p1 (ts.length : Int)).length = 0 + 2 + (txtB (poolL (textsL ts))).length + 1 := rfl
  rw [e3] at hr
  rw [decide_eq_true rfl, hr]
  exact ⟨rfl, rfl⟩

theorem ref_dec (s : ByteArray) : (decOk s = true → (refB s).2.1 = true ∧ (refB s).1 = (rdB s).1) ∧ ((refB s).2.1 = true → checkT (refB s).1 = 0 → encT (refB s).1 = bys s → decOk s = true) := by
  refine ⟨fun h => ?_, fun _ h1 h2 => (dec_enc h1 s h2.symm).1⟩
  obtain ⟨h1, h2⟩ := of_decide_eq_true h
  obtain ⟨e1, e2⟩ := ref_back h1 s h2.symm
  exact ⟨e2, e1⟩

end Go.Proofs.YtihnakblcfealaaGreatDoor

namespace Go.Proofs.YtihnakblcfealaaGreatDoor
open Go.RowKit

set_option maxRecDepth 100000 in
set_option maxHeartbeats 2000000 in
theorem root_any (w : World) : Calls Tryz.prog 17 #[] w fun e w' => ∃ v, e = .returned (.agg #[v]) ∧ TSl w' v rootT ∧ Below w.heap.size w w' := by
  go_enter Tryz.func17, Tryz.ntmps17
  go_wp2
  refine bodyPost_ret (results_bun1 rfl _ _ _ _ rfl ((((Blk.new _ _ _).alloc _).alloc _).alloc _)) rfl ?_
  refine ⟨_, rfl, ?_, ((((Below.refl _ _).alloc (Nat.le_refl _) _).alloc (by simp) _).alloc (by simp; omega) _).alloc (by simp; omega) _⟩
  refine TSl.of_made (B := 0) (cs := [(⟨xRoot, -1, esR⟩, .slice (some ⟨w.heap.size + 1, 0, none⟩) 3 3), (⟨xEn, 0, esE⟩, .slice (some ⟨w.heap.size + 1 + 1, 0, none⟩) 1 1)]) ⟨.inr ⟨w.heap.size + 1 + 1 + 1, rfl, Nat.zero_le _, Blk.newAt _ _ (by simp) _ _⟩, fun c hc => ?_⟩
  simp only [List.mem_cons, List.not_mem_nil, or_false] at hc
  rcases hc with rfl | rfl
  · exact .inr ⟨w.heap.size + 1, rfl, Nat.zero_le _, ((Blk.newAt _ _ (by simp) _ _).alloc _).alloc _⟩
  · exact .inr ⟨w.heap.size + 1 + 1, rfl, Nat.zero_le _, (Blk.newAt _ _ (by simp) _ _).alloc _⟩

theorem szT_root : SzT rootT ∧ SzT oneT := by
  constructor
  · intro i
    rcases i with _ | _ | i
    · refine ⟨by decide, by decide, fun j => ?_⟩
      rcases j with _ | _ | _ | j <;> first | exact ⟨by decide, by decide⟩ | exact ⟨Nat.zero_le _, Nat.zero_le _⟩
    · refine ⟨by decide, by decide, fun j => ?_⟩
      rcases j with _ | j <;> first | exact ⟨by decide, by decide⟩ | exact ⟨Nat.zero_le _, Nat.zero_le _⟩
    · exact ⟨Nat.zero_le _, Nat.zero_le _, fun j => ⟨Nat.zero_le _, Nat.zero_le _⟩⟩
  · intro i
    rcases i with _ | i
    · exact ⟨by decide, by decide, fun j => ⟨Nat.zero_le _, Nat.zero_le _⟩⟩
    · exact ⟨Nat.zero_le _, Nat.zero_le _, fun j => ⟨Nat.zero_le _, Nat.zero_le _⟩⟩

set_option maxRecDepth 100000 in
set_option maxHeartbeats 4000000 in
theorem fixed_any (w : World) (hT : U8 w) : Calls Tryz.prog 7 #[] w fun e w' => e = .returned (.bool true) ∧ Below w.heap.size w w' := by
  obtain ⟨WA, hWA⟩ : ∃ WA, WA = w.alloc (.cells #[.string xR, .int .i64 (-1), .slice none 0 0] 31) := ⟨_, rfl⟩
  have BA : Hid (Below w.heap.size w WA) := hide (by rw [hWA]; exact (Below.refl _ _).alloc (Nat.le_refl _) _)
  have TS : TSl WA (.slice (some ⟨w.heap.size, 0, none⟩) 1 1) oneT := TSl.of_made (B := 0) (cs := [(⟨xR, -1, []⟩, .slice none 0 0)]) ⟨.inr ⟨w.heap.size, rfl, Nat.zero_le _, by rw [hWA]; exact Blk.newAt _ _ rfl _ _⟩, fun c hc => by
    simp only [List.mem_cons, List.not_mem_nil, or_false] at hc
    subst hc
    exact .inl ⟨rfl, rfl⟩⟩
  have HWA : Hid (w.alloc (.cells #[.string ⟨#[114]⟩, .int .i64 (-1), .slice none 0 0] 31) = WA) := hide hWA.symm
  have C1 := hide (Encode_any TS (by decide) szT_root.2 (hT.below BA.out))
  have e1 : encA oneT = .tuple #[.string xOne, .int .i64 0] := by
    unfold encA
    rw [fx_check1, if_pos rfl, fx_enc]
    rfl
  rw [e1] at C1
  have HT := hide hT
  have RT := hide root_any
  have FB : Hid (∀ X v, TSl X v rootT → U8 X → Calls Tryz.prog 16 #[.agg #[v], .string ⟨#[101, 110]⟩, .string ⟨#[98]⟩] X fun e w' => e = .returned (.tuple #[.agg #[.string ⟨#[97]⟩, .int .i64 0, .string ⟨#[121]⟩, .int .i64 0], .int .i64 0]) ∧ Below X.heap.size X w') := hide (fun X v h1 h2 => (Find_any xEn xB h1 (by decide) szT_root.1 h2).mono (fun e w' q => ⟨by rw [q.1, fx_find1]; rfl, q.2⟩))
  have FD : Hid (∀ X v, TSl X v rootT → U8 X → Calls Tryz.prog 16 #[.agg #[v], .string ⟨#[101, 110]⟩, .string ⟨#[100]⟩] X fun e w' => e = .returned (.tuple #[.agg #[.string ⟨#[]⟩, .int .i64 0, .string ⟨#[]⟩, .int .i64 0], .int .i64 125]) ∧ Below X.heap.size X w') := hide (fun X v h1 h2 => (Find_any xEn xD h1 (by decide) szT_root.1 h2).mono (fun e w' q => ⟨by rw [q.1, fx_find2]; rfl, q.2⟩))
  have KY : Hid (∀ X v, TSl X v rootT → U8 X → Calls Tryz.prog 18 #[.agg #[v], .string ⟨#[101, 110]⟩, .string ⟨#[]⟩] X fun e w' => (∃ q cap, e = .returned (.tuple #[.slice (some ⟨q, 0, none⟩) 3 cap, .int .i64 0])) ∧ Below X.heap.size X w') := hide (fun X v h1 h2 => (Keys_any xEn xO h1 (by decide) szT_root.1 h2).mono (fun e w' q => ⟨by obtain ⟨a, b, c, _⟩ := q.1 fx_ch; rw [fx_keys] at c; exact ⟨a, b, c⟩, q.2.2⟩))
  have DC : Hid (∀ X, U8 X → Calls Tryz.prog 4 #[.string xOne] X fun e w' => (∃ ao cap, e = .returned (.tuple #[.agg #[.slice ao 1 cap], .int .i64 0])) ∧ Below X.heap.size X w') := hide (fun X h2 => (Decode_any xOne X (by decide) h2).mono (fun e w' q => ⟨by
    obtain ⟨v, cs, h3, h4, h5⟩ := q.1 fx_dec
    rw [fx_read] at h4
    obtain ⟨ao, cap, rfl⟩ := h5.1.slice
    have hl : cs.length = 1 := by rw [← List.length_map (f := Prod.fst), h4]; rfl
    rw [hl] at h3
    exact ⟨ao, cap, h3⟩, q.2.2⟩))
  clear hWA TS e1 hT
  have hxo : (xOne.toList == [0, 1, 0, 1, 114, 1, 0, 0, 255, 0, 0]) = true := by kernel_rfl
  go_enter Tryz.func7, Tryz.ntmps7
  go_wp2_with (simp only [HWA.out])
  refine C1.out.mono ?_
  rintro x w1 ⟨rfl, hb1⟩
  have B1 := hide (BA.out.trans (hb1.mono BA.out.size))
  clear hb1 C1 BA HWA
  go_wp2_with fail
  refine (RT.out w1).mono ?_
  rintro x w2 ⟨v2, rfl, ht2, hb2⟩
  have B2 := hide (B1.out.trans (hb2.mono B1.out.size))
  have C2 := hide (FB.out w2 v2 ht2 (HT.out.below B2.out))
  clear ht2 hb2 FB B1
  go_wp2_with fail
  refine C2.out.mono ?_
  rintro x w3 ⟨rfl, hb3⟩
  have B3 := hide (B2.out.trans (hb3.mono B2.out.size))
  have B3' := hide (B3.out.alloc B3.out.size (.cells #[.string ⟨#[97]⟩, .int .i64 0, .string ⟨#[121]⟩, .int .i64 0] 33))
  have QX := hide (Blk.newAt w3 w3.heap.size rfl #[.string ⟨#[97]⟩, .int .i64 0, .string ⟨#[121]⟩, .int .i64 0] 33)
  have C3 := hide (RT.out (w3.alloc (.cells #[.string ⟨#[97]⟩, .int .i64 0, .string ⟨#[121]⟩, .int .i64 0] 33)))
  clear hb3 C2 B2 B3
  go_wp2_with fail
  refine C3.out.mono ?_
  rintro x w4 ⟨v4, rfl, ht4, hb4⟩
  have B4 := hide (B3'.out.trans (hb4.mono B3'.out.size))
  have Q4 := hide (QX.out.below hb4 QX.out.lt)
  have C4 := hide (FD.out w4 v4 ht4 (HT.out.below B4.out))
  clear ht4 hb4 FD C3 B3' QX
  go_wp2_with fail
  refine C4.out.mono ?_
  rintro x w5 ⟨rfl, hb5⟩
  have B5 := hide (B4.out.trans (hb5.mono B4.out.size))
  have Q5 := hide ((Q4.out.below hb5 Q4.out.lt).alloc (.cells #[.string ⟨#[]⟩, .int .i64 0, .string ⟨#[]⟩, .int .i64 0] 33))
  have B5' := hide (B5.out.alloc B5.out.size (.cells #[.string ⟨#[]⟩, .int .i64 0, .string ⟨#[]⟩, .int .i64 0] 33))
  have C5 := hide (RT.out (w5.alloc (.cells #[.string ⟨#[]⟩, .int .i64 0, .string ⟨#[]⟩, .int .i64 0] 33)))
  clear hb5 C4 Q4 B4 B5 RT
  go_wp2_with fail
  refine C5.out.mono ?_
  rintro x w6 ⟨v6, rfl, ht6, hb6⟩
  have B6 := hide (B5'.out.trans (hb6.mono B5'.out.size))
  have Q6 := hide (Q5.out.below hb6 Q5.out.lt)
  have C6 := hide (KY.out w6 v6 ht6 (HT.out.below B6.out))
  clear ht6 hb6 KY C5 B5' Q5
  go_wp2_with fail
  refine C6.out.mono ?_
  rintro x w7 ⟨⟨q, cq, rfl⟩, hb7⟩
  have B7 := hide (B6.out.trans (hb7.mono B6.out.size))
  have Q7 := hide (Q6.out.below hb7 Q6.out.lt)
  have C7 := hide (DC.out w7 (HT.out.below B7.out))
  clear hb7 C6 Q6 B6 DC HT
  go_wp2_with fail
  refine C7.out.mono ?_
  rintro x w8 ⟨⟨ao, cap, rfl⟩, hb8⟩
  have B8 := hide ((B7.out.trans (hb8.mono B7.out.size)).alloc (B7.out.trans (hb8.mono B7.out.size)).size (.cells #[.slice ao 1 cap] 24))
  have Q8 := hide ((Q7.out.below hb8 Q7.out.lt).alloc (.cells #[.slice ao 1 cap] 24))
  have y0 := Q8.out.cell 0
  have y1 := Q8.out.cell 1
  have y2 := Q8.out.cell 2
  have y3 := Q8.out.cell 3
  clear hb8 C7 Q7 B7
  go_wp2
  go_ret
  exact ⟨rfl, B8.out⟩

end Go.Proofs.YtihnakblcfealaaGreatDoor

namespace Go.Proofs.YtihnakblcfealaaGreatDoor
open Go.RowKit

set_option maxRecDepth 100000 in
set_option maxHeartbeats 4000000 in
theorem sameTable_eq {w : World} {a1 a2 : Option Addr} {c1 c2 : Nat} (n : ByteArray) (p : Int) (es : List Ent) (h1 : ESl w (.slice a1 es.length c1) es) (h2 : ESl w (.slice a2 es.length c2) es) (hl : es.length ≤ 4398046511104) :
    Calls Tryz.prog 15 #[.agg #[.string n, .int .i64 p, .slice a1 es.length c1], .agg #[.string n, .int .i64 p, .slice a2 es.length c2]] w fun e w' => e = .returned (.bool true) ∧ Below w.heap.size w w' := by
  obtain ⟨_, _, e1, hc1, hA1⟩ := h1
  simp only [Value.slice.injEq] at e1
  obtain ⟨rfl, _, rfl⟩ := e1
  obtain ⟨_, _, e2, hc2, hA2⟩ := h2
  simp only [Value.slice.injEq] at e2
  obtain ⟨rfl, _, rfl⟩ := e2
  have HA1 := hide hA1
  have HA2 := hide hA2
  obtain ⟨L, hL⟩ : ∃ L, L = es.length := ⟨_, rfl⟩
  rw [← hL] at hc1 hc2 hl ⊢
  have HL := hide hL
  obtain ⟨WA, hWA⟩ : ∃ WA, WA = (w.alloc (.cells #[.string n, .int .i64 p, .slice a1 L c1] 31)).alloc (.cells #[.string n, .int .i64 p, .slice a2 L c2] 31) := ⟨_, rfl⟩
  have BA : Hid (Below w.heap.size w WA) := hide (by rw [hWA]; exact ((Below.refl _ _).alloc (Nat.le_refl _) _).alloc ((Below.refl _ _).alloc (Nat.le_refl _) _).size _)
  have Q1 : Hid (Blk WA w.heap.size #[.string n, .int .i64 p, .slice a1 L c1] 31) := hide (by rw [hWA]; exact (Blk.new _ _ _).alloc _)
  have Q2 : Hid (Blk WA (w.heap.size + 1) #[.string n, .int .i64 p, .slice a2 L c2] 31) := hide (by rw [hWA]; exact Blk.newAt _ _ (by simp) _ _)
  have HWA := hide hWA.symm
  have q10 := Q1.out.cell 0
  have q11 := Q1.out.cell 1
  have q12 := Q1.out.cell 2
  have q20 := Q2.out.cell 0
  have q21 := Q2.out.cell 1
  have q22 := Q2.out.cell 2
  clear hA1 hA2 hL hWA
  go_enter Tryz.func15, Tryz.ntmps15
  go_wp2_with (simp only [HWA.out])
  go_loopw [5] (fun p wr => ∃ k : Nat, k ≤ L ∧ p = .int .i64 (k : Int) ∧ Hid (Below WA.heap.size WA wr)) (fun p _ => L - (intOf p).toNat)
  case atStart => exact ⟨0, Nat.zero_le _, rfl, Below.refl _ _⟩
  case round =>
    obtain ⟨k, hk, rfl, HW⟩ := hrel
    have HWW := hide (BA.out.trans (HW.out.mono BA.out.size))
    have r12 := (Q1.out.below HW.out Q1.out.lt).cell 2
    have r22 := (Q2.out.below HW.out Q2.out.lt).cell 2
    by_cases hlt : k < L
    · have hlt' : (k : Int) < (L : Int) := by omega
      have hkt : k < es.length := by rw [← HL.out]; exact hlt
      obtain ⟨b1, o1, ha1, hb1, hcl1⟩ : ∃ b o, a1 = some ⟨b, o, none⟩ ∧ b < w.heap.size ∧ ∀ i, i < es.length → w.cell? ⟨b, o + i * 4, none⟩ = some (.string (entN es i).key) ∧ w.cell? ⟨b, o + i * 4 + 1, none⟩ = some (.int .i64 (entN es i).kind) ∧ w.cell? ⟨b, o + i * 4 + 2, none⟩ = some (.string (entN es i).text) ∧ w.cell? ⟨b, o + i * 4 + 3, none⟩ = some (.int .i64 (entN es i).num) := by
        rcases HA1.out with h | h
        · rw [h] at hkt; simp at hkt
        · exact h
      obtain ⟨b2, o2, ha2, hb2, hcl2⟩ : ∃ b o, a2 = some ⟨b, o, none⟩ ∧ b < w.heap.size ∧ ∀ i, i < es.length → w.cell? ⟨b, o + i * 4, none⟩ = some (.string (entN es i).key) ∧ w.cell? ⟨b, o + i * 4 + 1, none⟩ = some (.int .i64 (entN es i).kind) ∧ w.cell? ⟨b, o + i * 4 + 2, none⟩ = some (.string (entN es i).text) ∧ w.cell? ⟨b, o + i * 4 + 3, none⟩ = some (.int .i64 (entN es i).num) := by
        rcases HA2.out with h | h
        · rw [h] at hkt; simp at hkt
        · exact h
      subst ha1 ha2
      obtain ⟨x0, x1, x2, x3⟩ := hcl1 k hkt
      obtain ⟨y0, y1, y2, y3⟩ := hcl2 k hkt
      have bc1 : ∀ i, wr.cell? ⟨b1, i, none⟩ = w.cell? ⟨b1, i, none⟩ := fun i => HWW.out.cell hb1
      have bc2 : ∀ i, wr.cell? ⟨b2, i, none⟩ = w.cell? ⟨b2, i, none⟩ := fun i => HWW.out.cell hb2
      rw [← bc1] at x0 x1 x2 x3
      rw [← bc2] at y0 y1 y2 y3
      generalize entN es k = g at *
      have HD : Hid (Below WA.heap.size WA wr.drew) := HW.out.drew
      clear bc1 bc2 hcl1 hcl2 hkt HWW HW
      go_wp2_with fail
      go_region
      go_wp2
      exact ⟨⟨k + 1, by omega, by go_num, HD⟩, by simp [intOf]; omega⟩
    · obtain rfl : k = L := by omega
      have hlt' : ¬ (k : Int) < (k : Int) := by omega
      clear hlt
      go_wp2
      go_ret
      exact ⟨rfl, HWW.out⟩

set_option maxRecDepth 100000 in
set_option maxHeartbeats 4000000 in
theorem same_eq {w : World} {v1 v2 : Value} {ts : List Tab} (h1 : TSl w v1 ts) (h2 : TSl w v2 ts) (hl : ts.length ≤ 4398046511104) (hz : SzT ts) :
    Calls Tryz.prog 6 #[.agg #[v1], .agg #[v2]] w fun e w' => e = .returned (.bool true) ∧ Below w.heap.size w w' := by
  obtain ⟨a1, c1, rfl, hc1, hA1⟩ := h1
  obtain ⟨a2, c2, rfl, hc2, hA2⟩ := h2
  have HA1 := hide hA1
  have HA2 := hide hA2
  have HZ := hide hz
  obtain ⟨L, hL⟩ : ∃ L, L = ts.length := ⟨_, rfl⟩
  rw [← hL] at hc1 hc2 hl ⊢
  have HL := hide hL
  obtain ⟨WA, hWA⟩ : ∃ WA, WA = (w.alloc (.cells #[.slice a1 L c1] 24)).alloc (.cells #[.slice a2 L c2] 24) := ⟨_, rfl⟩
  have BA : Hid (Below w.heap.size w WA) := hide (by rw [hWA]; exact ((Below.refl _ _).alloc (Nat.le_refl _) _).alloc ((Below.refl _ _).alloc (Nat.le_refl _) _).size _)
  have Q1 : Hid (Blk WA w.heap.size #[.slice a1 L c1] 24) := hide (by rw [hWA]; exact (Blk.new _ _ _).alloc _)
  have Q2 : Hid (Blk WA (w.heap.size + 1) #[.slice a2 L c2] 24) := hide (by rw [hWA]; exact Blk.newAt _ _ (by simp) _ _)
  have HWA := hide hWA.symm
  have q10 := Q1.out.cell 0
  have q20 := Q2.out.cell 0
  clear hA1 hA2 hL hWA hz
  go_enter Tryz.func6, Tryz.ntmps6
  go_wp2_with (simp only [HWA.out])
  go_loopw [5] (fun p wr => ∃ k : Nat, k ≤ L ∧ p = .int .i64 (k : Int) ∧ Hid (Below WA.heap.size WA wr)) (fun p _ => L - (intOf p).toNat)
  case atStart => exact ⟨0, Nat.zero_le _, rfl, Below.refl _ _⟩
  case round =>
    obtain ⟨k, hk, rfl, HW⟩ := hrel
    have HWW := hide (BA.out.trans (HW.out.mono BA.out.size))
    have r1 := (Q1.out.below HW.out Q1.out.lt).cell 0
    have r2 := (Q2.out.below HW.out Q2.out.lt).cell 0
    by_cases hlt : k < L
    · have hlt' : (k : Int) < (L : Int) := by omega
      have hkt : k < ts.length := by rw [← HL.out]; exact hlt
      obtain ⟨b1, o1, ha1, hb1, hcl1⟩ : ∃ b o, a1 = some ⟨b, o, none⟩ ∧ b < w.heap.size ∧ ∀ i, i < ts.length → TabAt w b o i (tabN ts i) := by
        rcases HA1.out with h | h
        · rw [h] at hkt; simp at hkt
        · exact h
      obtain ⟨b2, o2, ha2, hb2, hcl2⟩ : ∃ b o, a2 = some ⟨b, o, none⟩ ∧ b < w.heap.size ∧ ∀ i, i < ts.length → TabAt w b o i (tabN ts i) := by
        rcases HA2.out with h | h
        · rw [h] at hkt; simp at hkt
        · exact h
      subst ha1 ha2
      obtain ⟨x0, x1, u1, x2, hE1⟩ := (hcl1 k hkt).below hb1 HWW.out
      obtain ⟨y0, y1, u2, y2, hE2⟩ := (hcl2 k hkt).below hb2 HWW.out
      obtain ⟨_, zl, _⟩ := HZ.out k
      obtain ⟨g, hg⟩ : ∃ g, g = tabN ts k := ⟨_, rfl⟩
      rw [← hg] at x0 x1 y0 y1 hE1 hE2 zl
      have hb1' : b1 < wr.heap.size := Nat.lt_of_lt_of_le hb1 HWW.out.size
      have hb2' : b2 < wr.heap.size := Nat.lt_of_lt_of_le hb2 HWW.out.size
      have hQ1' : w.heap.size < wr.heap.size := Nat.lt_of_lt_of_le Q1.out.lt HW.out.size
      have hQ2' : w.heap.size + 1 < wr.heap.size := Nat.lt_of_lt_of_le Q2.out.lt HW.out.size
      have hE1' := hE1
      have hE2' := hE2
      obtain ⟨a3, c3, rfl, _, _⟩ := hE1'
      obtain ⟨a4, c4, rfl, _, _⟩ := hE2'
      have b0 : Hid (Below wr.heap.size wr wr.drew) := (Below.refl _ _).drew
      have KP : Hid (∀ w', Below wr.heap.size wr w' → w'.cell? ⟨w.heap.size, 0, none⟩ = some (.slice (some ⟨b1, o1, none⟩) L c1) ∧ w'.cell? ⟨w.heap.size + 1, 0, none⟩ = some (.slice (some ⟨b2, o2, none⟩) L c2) ∧ w'.cell? ⟨b1, o1 + k * 3, none⟩ = some (.string g.name) ∧ w'.cell? ⟨b1, o1 + k * 3 + 1, none⟩ = some (.int .i64 g.parent) ∧ w'.cell? ⟨b1, o1 + k * 3 + 2, none⟩ = some (.slice a3 g.ents.length c3) ∧ w'.cell? ⟨b2, o2 + k * 3, none⟩ = some (.string g.name) ∧ w'.cell? ⟨b2, o2 + k * 3 + 1, none⟩ = some (.int .i64 g.parent) ∧ w'.cell? ⟨b2, o2 + k * 3 + 2, none⟩ = some (.slice a4 g.ents.length c4)) := hide (fun w' hb => ⟨(hb.cell hQ1').trans r1, (hb.cell hQ2').trans r2, (hb.cell hb1').trans x0, (hb.cell hb1').trans x1, (hb.cell hb1').trans x2, (hb.cell hb2').trans y0, (hb.cell hb2').trans y1, (hb.cell hb2').trans y2⟩)
      have C0 : Hid (∀ X, Hid (Below wr.heap.size wr X) → Calls Tryz.prog 15 #[.agg #[.string g.name, .int .i64 g.parent, .slice a3 g.ents.length c3], .agg #[.string g.name, .int .i64 g.parent, .slice a4 g.ents.length c4]] X fun x w' => x = .returned (.bool true) ∧ Hid (Below wr.heap.size wr w') ∧ w'.cell? ⟨w.heap.size, 0, none⟩ = some (.slice (some ⟨b1, o1, none⟩) L c1) ∧ w'.cell? ⟨w.heap.size + 1, 0, none⟩ = some (.slice (some ⟨b2, o2, none⟩) L c2) ∧ w'.cell? ⟨b1, o1 + k * 3, none⟩ = some (.string g.name) ∧ w'.cell? ⟨b1, o1 + k * 3 + 1, none⟩ = some (.int .i64 g.parent) ∧ w'.cell? ⟨b1, o1 + k * 3 + 2, none⟩ = some (.slice a3 g.ents.length c3) ∧ w'.cell? ⟨b2, o2 + k * 3, none⟩ = some (.string g.name) ∧ w'.cell? ⟨b2, o2 + k * 3 + 1, none⟩ = some (.int .i64 g.parent) ∧ w'.cell? ⟨b2, o2 + k * 3 + 2, none⟩ = some (.slice a4 g.ents.length c4)) := hide (fun X hX => (sameTable_eq g.name g.parent g.ents (hE1.below hX.out) (hE2.below hX.out) zl).mono (fun x w' q => ⟨q.1, hide (hX.out.trans (q.2.mono hX.out.size)), KP.out w' (hX.out.trans (q.2.mono hX.out.size))⟩))
      generalize g.ents.length = M at *
      clear hcl1 hcl2 hkt hE1 hE2 hg hb1 hb2 hb1' hb2' hQ1' hQ2' HWW KP
      go_wp2_with fail
      have mk0 : True := trivial
      go_region_held3 (fun w' => w'.cell? ⟨w.heap.size, 0, none⟩ = some (.slice (some ⟨b1, o1, none⟩) L c1) ∧ w'.cell? ⟨w.heap.size + 1, 0, none⟩ = some (.slice (some ⟨b2, o2, none⟩) L c2) ∧ w'.cell? ⟨b1, o1 + k * 3, none⟩ = some (.string g.name) ∧ w'.cell? ⟨b1, o1 + k * 3 + 1, none⟩ = some (.int .i64 g.parent) ∧ w'.cell? ⟨b1, o1 + k * 3 + 2, none⟩ = some (.slice a3 M c3) ∧ w'.cell? ⟨b2, o2 + k * 3, none⟩ = some (.string g.name) ∧ w'.cell? ⟨b2, o2 + k * 3 + 1, none⟩ = some (.int .i64 g.parent) ∧ w'.cell? ⟨b2, o2 + k * 3 + 2, none⟩ = some (.slice a4 M c4)) (go_keep) (first
        | (clear mk0; go_at_call 15; refine (C0.out _ b0).mono ?_; rintro x z1 ⟨rfl, P1, t0, t1, t2, t3, t4, t5, t6, t7⟩; have mk1 : True := trivial))
      have HN := hide (HW.out.trans (P1.out.mono HW.out.size))
      clear C0 b0 mk1 P1 t0 t1 t2 t3 t4 t5 t6 t7
      go_wp2
      exact ⟨⟨k + 1, by omega, by go_num, HN⟩, by simp [intOf]; omega⟩
    · obtain rfl : k = L := by omega
      have hlt' : ¬ (k : Int) < (k : Int) := by omega
      clear hlt
      go_wp2
      go_ret
      exact ⟨rfl, HWW.out⟩

end Go.Proofs.YtihnakblcfealaaGreatDoor

namespace Go.Proofs.YtihnakblcfealaaGreatDoor
open Go.RowKit

end Go.Proofs.YtihnakblcfealaaGreatDoor

namespace Go.Proofs.YtihnakblcfealaaGreatDoor
open Go.RowKit

end Go.Proofs.YtihnakblcfealaaGreatDoor

namespace Go.Proofs.YtihnakblcfealaaGreatDoor
open Go.RowKit

theorem cell_four_new (w : World) (a b c d : Value) (t : TypeId) : ∀ j u, [a, b, c, d][j]? = some u → (w.alloc (.cells #[a, b, c, d] t)).cell? ((⟨w.heap.size, 0, none⟩ : Addr).add j) = some u := by
  intro j u hj
  have h : Blk (w.alloc (.cells #[a, b, c, d] t)) w.heap.size #[a, b, c, d] t := Blk.newAt w w.heap.size rfl _ _
  rw [Addr.add_lit, Nat.zero_add, h.cell j]
  match j, hj with
  | 0, hj => exact hj
  | 1, hj => exact hj
  | 2, hj => exact hj
  | 3, hj => exact hj

theorem ESl.of_row {w : World} {B g n cap : Nat} {es : List Ent} (hn : n = es.length) (h : w.ownsRow B 33 4 (.slice (some ⟨g, 0, none⟩) n cap) n (cellsEn es)) : ESl w (.slice (some ⟨g, 0, none⟩) n cap) es := by
  subst hn
  have hcl := World.ownsRow.cells h (g := g) rfl
  rcases h.2 with ⟨q, _⟩ | ⟨g', cap', cur, q, hg, hh, hn, _⟩
  · cases q
  · simp only [Value.slice.injEq, Option.some.injEq, Addr.mk.injEq] at q
    obtain ⟨⟨rfl, _, _⟩, _, rfl⟩ := q
    refine ⟨_, _, rfl, hn, .inr ⟨g, 0, rfl, lt_of_block hh, fun i hi => ?_⟩⟩
    obtain ⟨e0, e1, e2, e3⟩ := cellsEn_get es i hi
    have k0 := hcl _ _ e0
    have k1 := hcl _ _ e1
    have k2 := hcl _ _ e2
    have k3 := hcl _ _ e3
    rw [Addr.add_lit] at k0 k1 k2 k3
    exact ⟨k0, by rw [Nat.add_assoc]; exact k1, by rw [Nat.add_assoc]; exact k2, by rw [Nat.add_assoc]; exact k3⟩

theorem own_belowB {w w' : World} {B sz n : Nat} {e : TypeId} {v : Value} {xs : List Value} (h : w.ownsRow B e sz v n xs) (hb : Below w.heap.size w w') : w'.ownsRow B e sz v n xs :=
  World.ownsRow.kept h (row := none) ⟨hb.os, hb.tape, hb.output, hb.size, fun k hk _ => hb.block k hk⟩ (by cases v.ownBlock <;> simp)
theorem own_baseB {w : World} {B B' sz n : Nat} {e : TypeId} {v : Value} {xs : List Value} (h : w.ownsRow B e sz v n xs) (hB : B' ≤ B) : w.ownsRow B' e sz v n xs := by
  refine ⟨h.1, ?_⟩
  rcases h.2 with q | ⟨g', cap', cur, q, hg, r⟩
  · exact .inl q
  · exact .inr ⟨g', cap', cur, q, by omega, r⟩

end Go.Proofs.YtihnakblcfealaaGreatDoor

namespace Go.Proofs.YtihnakblcfealaaGreatDoor
open Go.RowKit

def TxD (w : World) (D : Nat) (v : Value) (ps : List ByteArray) : Prop := ∃ ao cap, v = .slice ao ps.length cap ∧ ps.length ≤ cap ∧ ∀ i, i < ps.length → ∃ g o, ao = some ⟨g, o, none⟩ ∧ g < w.heap.size ∧ g ≠ D ∧ ∀ j, j < ps.length → w.cell? ⟨g, o + j, none⟩ = some (.string (txN ps j))

theorem TxD.but {w w' : World} {D : Nat} {v : Value} {ps : List ByteArray} (h : TxD w D v ps) (hb : But D w w') : TxD w' D v ps := by
  obtain ⟨ao, cap, h1, h2, h3⟩ := h
  refine ⟨ao, cap, h1, h2, fun i hi => ?_⟩
  obtain ⟨g, o, k1, k2, k3, k4⟩ := h3 i hi
  exact ⟨g, o, k1, Nat.lt_of_lt_of_le k2 hb.size, k3, fun j hj => by rw [hb.cell k2 k3]; exact k4 j hj⟩

theorem atP_bys (ps : List ByteArray) (i : Nat) : (⟨(atP (ps.map bys) i).toArray⟩ : ByteArray) = txN ps i := by
  unfold atP txN
  rw [List.getElem?_map]
  cases ps[i]? with
  | none => rfl
  | some x => exact mkByB x

theorem TxD.txs {w : World} {D : Nat} {v : Value} {ps : List ByteArray} (h : TxD w D v ps) : TxS w v (ps.map bys) := by
  obtain ⟨ao, cap, h1, h2, h3⟩ := h
  refine ⟨ao, cap, by rw [List.length_map]; exact h1, by rw [List.length_map]; exact h2, fun i hi => ?_⟩
  rw [List.length_map] at hi
  obtain ⟨g, o, k1, k2, _, k4⟩ := h3 i hi
  exact ⟨g, o, k1, k2, fun j hj => by rw [k4 j (by rw [List.length_map] at hj; exact hj), ← atP_bys]⟩

theorem rAtN {w : World} {D : Nat} {v : Value} {ps : List ByteArray} (h : TxD w D v ps) (i : Nat) :
    Calls Tryz.prog 34 #[v, .int .i64 (i : Int)] w fun e w' => e = .returned (.tuple #[.string (txN ps i), .bool (decide (i < ps.length))]) ∧ Below w.heap.size w w' := by
  have q := rAt_any i h.txs
  rw [atP_bys, List.length_map] at q
  exact q

theorem rGetS {w : World} {D : Nat} {s : ByteArray} {st : St} (k : Nat) (hs : s.size ≤ 140737488355328) (hp : st.1 ≤ s.size) (hk : k ≤ 4) (h : CuR w D s st.1 st.2) :
    Calls Tryz.prog 11 #[.pointer (some ⟨D, 0, none⟩), .int .i64 (k : Int)] w fun x w' => x = .returned (.int .i64 (gV s st k : Int)) ∧ CuR w' D s (gS s st k).1 (gS s st k).2 ∧ But D w w' := rGet_any k hs hp hk h

theorem CuR.off {w w' : World} {D B : Nat} {s : ByteArray} {p e : Nat} (h : CuR w D s p e) (hb : Below B w w') (hD : D < B) : CuR w' D s p e := Blk.below h hb hD
theorem CuR.lt {w : World} {D : Nat} {s : ByteArray} {p e : Nat} (h : CuR w D s p e) : D < w.heap.size := Blk.lt h

theorem own_butB {D B sz n : Nat} {w w' : World} {e : TypeId} {v : Value} {xs : List Value} (ho : w.ownsRow B e sz v n xs) (h : But D w w') (hD : D < B) : w'.ownsRow B e sz v n xs := by
  refine ⟨ho.1, ?_⟩
  rcases ho.2 with q | ⟨g, cap, cur, rfl, hg, hh, r⟩
  · exact .inl q
  · exact .inr ⟨g, cap, cur, rfl, hg, by rw [h.block g (lt_of_block hh) (by omega)]; exact hh, r⟩
theorem own_setB {B b i sz n : Nat} {w : World} {e : TypeId} {v u : Value} {xs : List Value} (ho : w.ownsRow B e sz v n xs) (hb : b < B) : (w.setCell ⟨b, i, none⟩ u).ownsRow B e sz v n xs := ownsRow_setCell_below ho (a := ⟨b, i, none⟩) hb u
theorem But.up {D B : Nat} {w a b : World} (h : But D w a) (hb : Below B a b) (hB : w.heap.size ≤ B) : But D w b :=
  ⟨hb.os.trans h.os, hb.tape.trans h.tape, hb.output.trans h.output, Nat.le_trans h.size hb.size, fun k hk hn => (hb.block k (Nat.lt_of_lt_of_le hk hB)).trans (h.block k hk hn)⟩
theorem own_sliceB {B sz n : Nat} {w : World} {e : TypeId} {v : Value} {xs : List Value} (ho : w.ownsRow B e sz v n xs) : ∃ ao cap, v = .slice ao n cap := by
  rcases ho.2 with ⟨rfl, h0⟩ | ⟨g, cap, cur, rfl, _⟩
  · refine ⟨none, 0, ?_⟩
    have h1 := ho.1
    first
    | rw [h0]
    | (have : n = 0 := by
        have h2 : xs = [] := h0
        rw [h2] at h1
        rcases Nat.eq_zero_of_mul_eq_zero h1.symm with q | q
        · exact q
        · omega
       rw [this])
  · exact ⟨_, _, rfl⟩
theorem gV2_lt (s : ByteArray) (st : St) : gV s st 2 < 65536 := by
  unfold gV getV
  split
  · exact beA_lt (bys s) st.1 2
  · decide
theorem ESl.of_ownB {B : Nat} {w : World} {v : Value} {es : List Ent} (h : w.ownsRow B 33 4 v es.length (cellsEn es)) : ESl w v es := by
  rcases h.2 with ⟨rfl, h0⟩ | ⟨g, cap, cur, rfl, _⟩
  · obtain rfl := List.length_eq_zero_iff.1 h0
    exact ⟨none, 0, rfl, Nat.le_refl _, .inl rfl⟩
  · exact ESl.of_row rfl h

theorem results_tab2 {fn : Func} {a c : Tmp} (h : fn.results = #[.cell a 31, .tmp c]) (tmps : Array Value) (H : Nat) (x0 x1 x2 : Value) (w : World) (ht : tmps.getD a undef = .pointer (some ⟨H, 0, none⟩)) (hp : Blk w H #[x0, x1, x2] 31) :
    (results fn tmps).run Tryz.prog w = .ok (.tuple #[.agg #[x0, x1, x2], tmps.getD c undef]) w := by
  have c0 := hp.cell 0
  have c1 := hp.cell 1
  have c2 := hp.cell 2
  simp at c0 c1 c2
  rw [Array.getD_eq_getD_getElem?] at ht
  simp [results, h, ht, go_sem, c0, c1, c2]

theorem refL_stop {ps : List ByteArray} {s : ByteArray} {n : Nat} {st : St} {b : Bool} (h : n = 0 ∨ b = false ∨ st.2 ≠ 0) : refL ps s n st b = ([], b, st) := by
  cases n with
  | zero => rfl
  | succ n =>
    show (if b = true ∧ st.2 = 0 then _ else _) = _
    rw [if_neg (fun q => by
      rcases h with h | h | h
      · cases h
      · rw [h] at q; exact absurd q.1 (by decide)
      · exact h q.2)]
theorem refL_next {ps : List ByteArray} {s : ByteArray} {n : Nat} {st : St} (h : st.2 = 0) : refL ps s (n + 1) st true = ((rdE ps s st).1 :: (refL ps s n (rdE ps s st).2 (okE ps s st)).1, (refL ps s n (rdE ps s st).2 (okE ps s st)).2) := by
  show (if true = true ∧ st.2 = 0 then _ else _) = _
  rw [if_pos ⟨rfl, h⟩]

end Go.Proofs.YtihnakblcfealaaGreatDoor
