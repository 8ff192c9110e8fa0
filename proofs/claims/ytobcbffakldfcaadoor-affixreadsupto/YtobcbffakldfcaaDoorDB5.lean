/-
  The reference's Check.
  How a text is put into quotes, row by row: what the library's cuts answer, told by runes.
  Quotes: what the library's Replace and Trim answer of a row of runes; the text of tokens in rows, and its length.
  (*strings.Builder).WriteString at this dump: what it leaves in a builder.
  What affix's isBound, isFree, cut, quoted and textOf answer.
  What affix's Print answers.
  The calls whose answers the document fixes.
  What the reference's Same answers of two lists of tokens.
-/
import Derived.Test.YtobcbffakldfcaaDoorDB4
import Derived.Lib.MapLaws
import Derived.Lib.Replace
import Derived.Lib.TrimByte
import Derived.Shelf.Strings.FuncGrows
import Derived.Lib.CountLaws
import Derived.Test.YtobcbffakldfcaaDoorDOwn
import Derived.Lib.Builder
import Derived.Lib.AppendStr
import Derived.Lib.UnsafeStr
import Derived.Laws.Externs
import Derived.Test.YtobcbffakldfcaaDoorDB3
import Derived.Test.YtobcbffakldfcaaDoorDShelf
import Derived.Laws.Runes
import Derived.Laws.StructEq
namespace Go.Proofs.YtobcbffakldfcaaDoor
open Go.RowKit

set_option maxRecDepth 100000 in
set_option maxHeartbeats 4000000 in
theorem rCheck_at (b o cap : Nat) (ts : List Tok) (w : World) (hl : ts.length ≤ 140737488355328) (hc : ts.length ≤ cap) (hz : SzT ts) (h3 : TkAt w b o ts) :
    Calls Tryd.prog 14 #[.slice (some ⟨b, o, none⟩) ts.length cap] w fun e w' => e = .returned (.int .i64 (chkT ts : Int)) ∧ Below w.heap.size w w' := by
  have H3 := hide h3
  have HZ := hide hz
  clear h3 hz
  obtain ⟨L, hL⟩ : ∃ L, L = ts.length := ⟨_, rfl⟩
  rw [← hL] at hl hc ⊢
  have HL := hide hL
  clear hL
  obtain ⟨R, hR⟩ : ∃ R, R = badT none ts := ⟨_, rfl⟩
  have HR := hide hR
  obtain ⟨C, hC⟩ : ∃ C, C = chkT ts := ⟨_, rfl⟩
  rw [← hC]
  have HC : Hid (C = if R then 131 else if longT ts then 132 else 0) := hide (by rw [hC, hR]; rfl)
  clear hR hC
  go_enter Tryd.func14, Tryd.ntmps14
  go_wp2
  go_loopw [3, 4] (fun x q wr => ∃ (k : Nat) (z : Int), k ≤ L ∧ x = .int .i64 z ∧ (k ≤ 64 → z = (sizeT (ts.take k) : Nat)) ∧ q = .int .i64 (k : Int) ∧ Hid (badT (prevT ts k) (ts.drop k) = R) ∧ Hid (Below w.heap.size w wr)) (fun _ q _ => L - (intOf q).toNat)
  case atStart => exact ⟨0, 0, Nat.zero_le _, rfl, fun _ => by simp [sizeT], rfl, hide (by rw [HR.out, List.drop_zero]; rfl), Below.refl _ _⟩
  case round =>
    obtain ⟨k, z, hk, rfl, hzk, rfl, HF, HW⟩ := hrel
    by_cases hlt : k < L
    · have hlt' : (k : Int) < (L : Int) := by omega
      have hkt : k < ts.length := by rw [← HL.out]; exact hlt
      have HA := hide (H3.out.below HW.out)
      obtain ⟨c0, c1, c2⟩ := HA.out k hkt
      have e1 := badT_drop ts k hkt
      rw [HF.out] at e1
      have hzg := HZ.out k
      have HS : Hid (k ≤ 64 → z + ((tokN ts k).text.size : Int) = (sizeT (ts.take (k + 1)) : Nat) ∧ 0 ≤ z ∧ z ≤ 64 * 140737488355328) := hide (fun h => by
        have h1 := hzk h
        have h2 := sizeT_bound ts HZ.out k (by omega)
        rw [sizeT_take ts k hkt]
        omega)
      have HP : Hid (∀ j, k = j + 1 → TkAt wr b o ts ∧ j < ts.length ∧ prevT ts k = some (tokN ts j)) := hide (fun j hj => ⟨HA.out, by omega, by subst hj; unfold prevT; rw [if_neg (by omega)]; rfl⟩)
      obtain ⟨g, hg⟩ : ∃ g, g = tokN ts k := ⟨_, rfl⟩
      rw [← hg] at c0 c1 c2 e1 hzg HS
      have E1 := hide e1
      have H1 := hide (rone_any g wr hzg)
      unfold tokV at H1
      have KC : Hid (∀ W, Below wr.heap.size wr W → W.cell? ⟨b, o + k * 3, none⟩ = some (.int .i64 g.kind) ∧ W.cell? ⟨b, o + k * 3 + 2, none⟩ = some (.string g.text)) := hide (fun W hb => ⟨cell_on hb c0, cell_on hb c2⟩)
      clear hg HF e1 HA hkt hzk
      go_wp2_with fail
      refine H1.out.mono ?_
      rintro e w1 ⟨rfl, hb1⟩
      have HN := hide (HW.out.trans (hb1.mono HW.out.size)).drew
      have HB1 := hide hb1
      obtain ⟨d0, d2⟩ := KC.out w1 hb1
      clear H1 hb1 c0 c1 c2 KC HW
      by_cases hm : mayTok g = true
      · rw [hm]
        rcases Nat.eq_zero_or_pos k with hk0 | hk0
        · have hk0' : decide ((0 : Int) < (k : Int)) = false := decide_eq_false (by omega)
          have E2 : Hid (R = badT (prevT ts (k + 1)) (ts.drop (k + 1))) := hide (by rw [E1.out, hm, show prevT ts k = none from by unfold prevT; rw [if_pos hk0]]; rfl)
          have E3 : Hid (badT (prevT ts (k + 1)) (ts.drop (k + 1)) = R) := hide E2.out.symm
          obtain ⟨a1, a2, a3⟩ := HS.out (by omega)
          have A1 := hide a1
          clear hm E1 HP E2 a1 HS hk0'
          subst hk0
          rw [show ((0 : Nat) : Int) = 0 from rfl]
          have d2' : w1.cell? ⟨b, o + 2, none⟩ = some (.string g.text) := d2
          go_wp2_with fail
          go_region
          go_wp2
          exact ⟨⟨1, _, by omega, rfl, fun _ => A1.out, by go_num, E3, HN⟩, by simp [intOf]; omega⟩
        · obtain ⟨j, hkj⟩ : ∃ j, k = j + 1 := ⟨k - 1, by omega⟩
          obtain ⟨hA, hj, hpv⟩ := HP.out j hkj
          obtain ⟨p0', _, _⟩ := hA j hj
          obtain ⟨p, hp⟩ : ∃ p, p = tokN ts j := ⟨_, rfl⟩
          rw [← hp] at p0' hpv
          have p0 := cell_on HB1.out p0'
          have E2 : Hid (R = (joinT p g || badT (prevT ts (k + 1)) (ts.drop (k + 1)))) := hide (by rw [E1.out, hm, hpv]; rfl)
          have hk0' : (0 : Int) < (k : Int) := by omega
          have hj0 : (0 : Int) ≤ (j : Int) := by omega
          have hjL : (j : Int) < (L : Int) := by omega
          have hwr : IntKind.i64.wrap ((k : Int) - 1) = (j : Int) := by rw [show (k : Int) - 1 = (j : Int) by omega]; exact IntWalk.i64_in _ (by omega)
          clear hm E1 HP hA hj hpv hp p0' hkj
          by_cases g0 : g.kind = 0
          · have g0' : (g.kind == 0) = true := beq_iff_eq.2 g0
            by_cases hpg : p.kind = g.kind
            · have hpg' : (p.kind == g.kind) = true := beq_iff_eq.2 hpg
              have E3 : Hid (C = 131) := hide (by rw [HC.out, E2.out, show joinT p g = true by unfold joinT; simp [hpg, g0]]; rfl)
              clear HS E2
              go_wp2_with fail
              go_region
              go_wp2
              go_ret
              exact ⟨by rw [E3.out]; rfl, HN.out⟩
            · have hpg' : (p.kind == g.kind) = false := beq_eq_false_iff_ne.2 hpg
              have E3 : Hid (badT (prevT ts (k + 1)) (ts.drop (k + 1)) = R) := hide (by rw [E2.out, show joinT p g = false by unfold joinT; simp [hpg]]; rfl)
              go_wp2_with fail
              go_region
              clear E2
              by_cases h64 : k ≤ 64
              · obtain ⟨a1, a2, a3⟩ := HS.out h64
                have A1 := hide a1
                clear a1 HS
                go_wp2
                exact ⟨⟨k + 1, _, by omega, rfl, fun _ => A1.out, by go_num, E3, HN⟩, by simp [intOf]; omega⟩
              · clear HS
                go_wp2
                exact ⟨⟨k + 1, _, by omega, rfl, fun h => absurd h (by omega), by go_num, E3, HN⟩, by simp [intOf]; omega⟩
          · have g0' : (g.kind == 0) = false := beq_eq_false_iff_ne.2 g0
            by_cases g5 : g.kind = 5
            · have g5' : (g.kind == 5) = true := beq_iff_eq.2 g5
              by_cases hpg : p.kind = g.kind
              · have hpg' : (p.kind == g.kind) = true := beq_iff_eq.2 hpg
                have E3 : Hid (C = 131) := hide (by rw [HC.out, E2.out, show joinT p g = true by unfold joinT; simp [hpg, g5]]; rfl)
                clear HS E2
                go_wp2_with fail
                go_region
                go_wp2
                go_ret
                exact ⟨by rw [E3.out]; rfl, HN.out⟩
              · have hpg' : (p.kind == g.kind) = false := beq_eq_false_iff_ne.2 hpg
                have E3 : Hid (badT (prevT ts (k + 1)) (ts.drop (k + 1)) = R) := hide (by rw [E2.out, show joinT p g = false by unfold joinT; simp [hpg]]; rfl)
                go_wp2_with fail
                go_region
                clear E2
                by_cases h64 : k ≤ 64
                · obtain ⟨a1, a2, a3⟩ := HS.out h64
                  have A1 := hide a1
                  clear a1 HS
                  go_wp2
                  exact ⟨⟨k + 1, _, by omega, rfl, fun _ => A1.out, by go_num, E3, HN⟩, by simp [intOf]; omega⟩
                · clear HS
                  go_wp2
                  exact ⟨⟨k + 1, _, by omega, rfl, fun h => absurd h (by omega), by go_num, E3, HN⟩, by simp [intOf]; omega⟩
            · have g5' : (g.kind == 5) = false := beq_eq_false_iff_ne.2 g5
              have E3 : Hid (badT (prevT ts (k + 1)) (ts.drop (k + 1)) = R) := hide (by rw [E2.out, show joinT p g = false by unfold joinT; simp; omega]; rfl)
              go_wp2_with fail
              go_region
              clear E2
              by_cases h64 : k ≤ 64
              · obtain ⟨a1, a2, a3⟩ := HS.out h64
                have A1 := hide a1
                clear a1 HS
                go_wp2
                exact ⟨⟨k + 1, _, by omega, rfl, fun _ => A1.out, by go_num, E3, HN⟩, by simp [intOf]; omega⟩
              · clear HS
                go_wp2
                exact ⟨⟨k + 1, _, by omega, rfl, fun h => absurd h (by omega), by go_num, E3, HN⟩, by simp [intOf]; omega⟩
      · have hm' : mayTok g = false := by cases h : mayTok g with | true => exact absurd h hm | false => rfl
        have E2 : Hid (R = true) := hide (by rw [E1.out, hm']; rfl)
        have E3 : Hid (C = 131) := hide (by rw [HC.out, E2.out]; rfl)
        rw [hm']
        clear hm hm' E1 HP HS E2
        go_wp2_with fail
        go_region
        go_wp2
        go_ret
        exact ⟨by rw [E3.out]; rfl, HN.out⟩
    · obtain rfl : k = L := by omega
      have hlt' : ¬ (k : Int) < (k : Int) := by omega
      have ER : Hid (R = false) := hide (by rw [← HF.out, List.drop_eq_nil_of_le (by rw [← HL.out]; exact Nat.le_refl _)]; rfl)
      have EC : Hid (C = if longT ts then 132 else 0) := hide (by rw [HC.out, ER.out]; rfl)
      by_cases h64 : 64 < k
      · have E3 : Hid (C = 132) := hide (by rw [EC.out]; unfold longT; rw [decide_eq_true (by rw [← HL.out]; exact h64)]; rfl)
        have h64' : (64 : Int) < (k : Int) := by omega
        clear HF hlt hzk EC
        go_wp2
        go_ret
        exact ⟨by rw [E3.out]; rfl, HW.out⟩
      · have hz1 := hzk (by omega)
        rw [List.take_of_length_le (by rw [← HL.out]; exact Nat.le_refl _)] at hz1
        have h64' : ¬ (64 : Int) < (k : Int) := by omega
        by_cases hs : 64 < sizeT ts
        · have E3 : Hid (C = 132) := hide (by rw [EC.out]; unfold longT; rw [decide_eq_true hs, Bool.or_true]; rfl)
          have hs' : (64 : Int) < z := by omega
          clear HF hlt hzk EC hz1 hs
          go_wp2
          go_ret
          exact ⟨by rw [E3.out]; rfl, HW.out⟩
        · have E3 : Hid (C = 0) := hide (by rw [EC.out]; unfold longT; rw [decide_eq_false hs, decide_eq_false (by rw [← HL.out]; exact h64)]; rfl)
          have hs' : ¬ (64 : Int) < z := by omega
          clear HF hlt hzk EC hz1 hs
          go_wp2
          go_ret
          exact ⟨by rw [E3.out]; rfl, HW.out⟩

set_option maxHeartbeats 1000000 in
theorem rCheck_nil (ao : Option Addr) (cap : Nat) (w : World) : Calls Tryd.prog 14 #[.slice ao 0 cap] w fun e w' => e = .returned (.int .i64 0) ∧ Below w.heap.size w w' := by
  go_enter Tryd.func14, Tryd.ntmps14
  go_wp2
  go_loopw [3, 4] (fun x p wr => x = .int .i64 0 ∧ p = .int .i64 0 ∧ wr = w) (fun _ p _ => 0)
  case atStart => exact ⟨rfl, rfl, rfl⟩
  case round =>
    obtain ⟨rfl, rfl, rfl⟩ := hrel
    go_wp2
    go_ret
    exact ⟨rfl, Below.refl _ _⟩

theorem rCheck_any {w : World} {v : Value} {ts : List Tok} (h : TSl w v ts) (hl : ts.length ≤ 140737488355328) (hz : SzT ts) : Calls Tryd.prog 14 #[v] w fun e w' => e = .returned (.int .i64 (chkT ts : Int)) ∧ Below w.heap.size w w' := by
  obtain ⟨ao, cap, rfl, h2, h3⟩ := h
  rcases h3 with rfl | ⟨b, o, rfl, h3⟩
  · exact rCheck_nil ao cap w
  · exact rCheck_at b o cap ts w hl h2 hz h3

end Go.Proofs.YtobcbffakldfcaaDoor

namespace Go.Proofs.YtobcbffakldfcaaDoor
open Go.Lib

theorem enc_rune (n : Nat) (h : n ≤ 1114111) : bys (Utf8.encode (n : Int)) = Lib.encodeRune (n : Int) := by
  unfold Lib.encodeRune
  by_cases h1 : n ≤ 127
  · have hv : Utf8.valid (n : Int) = true := by unfold Utf8.valid; simp; omega
    rw [Lib.encodeRuneZ_one (by omega) (by omega)]
    unfold Utf8.encode
    rw [if_pos hv]
    simp only [Int.toNat_natCast]
    rw [if_pos (by omega)]
    rfl
  · by_cases h2 : n ≤ 2047
    · have hv : Utf8.valid (n : Int) = true := by unfold Utf8.valid; simp; omega
      rw [Lib.encodeRuneZ_two (by omega) (by omega)]
      unfold Utf8.encode
      rw [if_pos hv]
      simp only [Int.toNat_natCast]
      rw [if_neg (by omega), if_pos (by omega)]
      show [UInt8.ofNat (192 + n / 64), UInt8.ofNat (128 + n % 64)] = [UInt8.ofNat (192 + (n : Int) / 64).toNat, UInt8.ofNat (128 + (n : Int) % 64).toNat]
      rw [show (192 + (n : Int) / 64).toNat = 192 + n / 64 by omega, show (128 + (n : Int) % 64).toNat = 128 + n % 64 by omega]
    · by_cases h3 : 55296 ≤ n ∧ n ≤ 57343
      · have hv : Utf8.valid (n : Int) = false := by unfold Utf8.valid; simp; omega
        rw [Lib.encodeRuneZ_bad (by omega)]
        unfold Utf8.encode
        simp only [hv, Bool.false_eq_true, if_false, Utf8.runeError]
        decide
      · have hv : Utf8.valid (n : Int) = true := by unfold Utf8.valid; simp; omega
        by_cases h4 : n ≤ 65535
        · rw [Lib.encodeRuneZ_three (by omega)]
          unfold Utf8.encode
          rw [if_pos hv]
          simp only [Int.toNat_natCast]
          rw [if_neg (by omega), if_neg (by omega), if_pos (by omega)]
          show [UInt8.ofNat (224 + n / 4096), UInt8.ofNat (128 + n / 64 % 64), UInt8.ofNat (128 + n % 64)] = [UInt8.ofNat (224 + (n : Int) / 4096).toNat, UInt8.ofNat (128 + (n : Int) / 64 % 64).toNat, UInt8.ofNat (128 + (n : Int) % 64).toNat]
          rw [show (224 + (n : Int) / 4096).toNat = 224 + n / 4096 by omega, show (128 + (n : Int) / 64 % 64).toNat = 128 + n / 64 % 64 by omega, show (128 + (n : Int) % 64).toNat = 128 + n % 64 by omega]
        · rw [Lib.encodeRuneZ_four (by omega) (by omega)]
          unfold Utf8.encode
          rw [if_pos hv]
          simp only [Int.toNat_natCast]
          rw [if_neg (by omega), if_neg (by omega), if_neg (by omega)]
          show [UInt8.ofNat (240 + n / 262144), UInt8.ofNat (128 + n / 4096 % 64), UInt8.ofNat (128 + n / 64 % 64), UInt8.ofNat (128 + n % 64)] = [UInt8.ofNat (240 + (n : Int) / 262144).toNat, UInt8.ofNat (128 + (n : Int) / 4096 % 64).toNat, UInt8.ofNat (128 + (n : Int) / 64 % 64).toNat, UInt8.ofNat (128 + (n : Int) % 64).toNat]
          rw [show (240 + (n : Int) / 262144).toNat = 240 + n / 262144 by omega, show (128 + (n : Int) / 4096 % 64).toNat = 128 + n / 4096 % 64 by omega, show (128 + (n : Int) / 64 % 64).toNat = 128 + n / 64 % 64 by omega, show (128 + (n : Int) % 64).toNat = 128 + n % 64 by omega]

def bndE (e : List UInt8) : Bool := decide (e = [39]) || Lib.contains lettersL e || decide (kindB e ≠ 0)
def bndP (x : Nat) : Bool := bndE (bys (Utf8.encode (x : Int)))

theorem occ_memP {L t : List UInt8} {a : UInt8} {i : Nat} (h : Lib.occAt L (a :: t) i = true) : a ∈ L := by
  unfold Lib.occAt at h
  cases hd : L.drop i with
  | nil => rw [hd] at h; simp at h
  | cons b l =>
    rw [hd] at h
    simp only [List.isPrefixOf, Bool.and_eq_true, beq_iff_eq] at h
    rw [h.1]
    exact List.mem_of_mem_drop (i := i) (by rw [hd]; exact List.mem_cons_self)
theorem cont_iffP (L t : List UInt8) : Lib.contains L t = true ↔ ∃ i, i ≤ L.length ∧ Lib.occAt L t i = true := by
  unfold Lib.contains
  rw [decide_eq_true_iff]
  rcases Lib.index_spec L t with ⟨h1, h2⟩ | ⟨i, h1, h2, h3, _⟩
  · rw [h1]
    refine ⟨fun h => absurd h (by omega), fun ⟨i, hi, h⟩ => ?_⟩
    rw [h2 i hi] at h; cases h
  · rw [h1]
    exact ⟨fun _ => ⟨i, h2, h3⟩, fun _ => by omega⟩
theorem letters_lowP : ∀ a ∈ lettersL, a.toNat < 128 := by decide
theorem rune_lowP {r : List UInt8} (h : IsR r) (hl : byB r 0 < 128) : r.length = 1 := by
  rw [← h.1]
  unfold runeL runeN
  rw [if_neg h.len, if_pos hl]
theorem contains_runeP (r : List UInt8) (h : IsR r) : Lib.contains lettersL r = letB r := by
  rw [Bool.eq_iff_iff, cont_iffP]
  match r, h with
  | [], h => exact absurd rfl h.2
  | [c], _ =>
    show _ ↔ lettersL.contains c = true
    rw [List.contains_iff_mem]
    refine ⟨fun ⟨i, _, h⟩ => occ_memP h, fun hm => ?_⟩
    obtain ⟨i, hi, he⟩ := List.getElem_of_mem hm
    refine ⟨i, by omega, ?_⟩
    unfold Lib.occAt
    rw [List.drop_eq_getElem_cons hi, he]
    simp [List.isPrefixOf]
  | a :: b :: t, h =>
    refine ⟨fun ⟨i, _, ho⟩ => ?_, fun h => by cases h⟩
    have := rune_lowP h (letters_lowP a (occ_memP ho))
    simp at this
theorem bndE_rune {r : List UInt8} (h : IsR r) : bndE r = bndB r := by unfold bndE bndB; rw [contains_runeP r h]

theorem dec_rune {r : List UInt8} (h : IsR r) (b : List UInt8) : (decodeL (r ++ b)).2 = r.length ∧ (decodeL (r ++ b)).1 ≤ 1114111 ∧ bys (Utf8.encode ((decodeL (r ++ b)).1 : Int)) = r := by
  have hne : r ++ b ≠ [] := fun e => h.2 (List.append_eq_nil_iff.1 e).1
  have ha := h.app b
  rcases runeL_decode _ hne with ⟨_, h2⟩ | ⟨h1, h2, h3⟩
  · rw [ha] at h2; exact absurd h2 h.len
  · have hle : (decodeL (r ++ b)).1 ≤ 1114111 := by
      have := Lib.rune_le ⟨(r ++ b).toArray⟩ 0
      exact this
    refine ⟨by rw [h2, ha], hle, ?_⟩
    rw [enc_rune _ hle, encode_decode _ hne h3, h2, ha, List.take_left' rfl]

theorem idx_runes (p : Nat → Bool) (q : List UInt8 → Bool) (hpq : ∀ r, IsR r → ∀ b, p (decodeL (r ++ b)).1 = q r) (s : ByteArray) : ∀ (rs : List (List UInt8)) (f pos : Nat), (∀ r ∈ rs, IsR r) → (bys s).drop pos = rs.flatten → rs.flatten.length ≤ f →
    idxFuncFrom p false s f pos = if (rs.dropWhile q).isEmpty then -1 else ((pos + (rs.takeWhile q).flatten.length : Nat) : Int)
  | [], f, pos, _, hd, _ => by
    have hp : ¬ pos < s.size := by
      intro h
      have := congrArg List.length hd
      rw [List.length_drop, bys_len] at this
      simp at this; omega
    rw [idxFuncFrom_end p false s f pos hp]
    rfl
  | r :: rs, f, pos, hr, hd, hf => by
    have h := hr r List.mem_cons_self
    have hl := h.len
    rw [List.flatten_cons] at hd hf
    have hp : pos < s.size := by
      have := congrArg List.length hd
      rw [List.length_drop, bys_len, List.length_append] at this
      omega
    obtain ⟨g, rfl⟩ : ∃ g, f = g + 1 := ⟨f - 1, by rw [List.length_append] at hf; omega⟩
    have hdc : decodeL ((bys s).drop pos) = Utf8.decode s pos := decodeL_drop s pos
    have hk := hpq r h rs.flatten
    have hw := (dec_rune h rs.flatten).1
    rw [← hd, hdc] at hk hw
    rw [idxFuncFrom, if_pos hp, hk, hw]
    cases hq : q r with
    | false =>
      rw [if_pos rfl, List.dropWhile_cons, List.takeWhile_cons, hq]
      simp
    | true =>
      rw [if_neg (by decide), List.dropWhile_cons, List.takeWhile_cons, hq]
      rw [idx_runes p q hpq s rs g (pos + r.length) (fun x hx => hr x (List.mem_cons_of_mem _ hx)) (by rw [← List.drop_drop, hd, List.drop_left' rfl]) (by rw [List.length_append] at hf; omega)]
      simp only [if_true, List.flatten_cons, List.length_append]
      split
      · rfl
      · congr 1; omega
theorem flat_len_drop (q : List UInt8 → Bool) (rs : List (List UInt8)) : rs.flatten = (rs.takeWhile q).flatten ++ (rs.dropWhile q).flatten := by
  rw [← List.flatten_append, List.takeWhile_append_dropWhile]
theorem trim_runes (p : Nat → Bool) (q : List UInt8 → Bool) (hpq : ∀ r, IsR r → ∀ b, p (decodeL (r ++ b)).1 = q r) (s : ByteArray) (rs : List (List UInt8)) (hr : ∀ r ∈ rs, IsR r) (hs : bys s = rs.flatten) : bys (trimLeftF p s) = (rs.dropWhile q).flatten := by
  have hi := idx_runes p q hpq s rs s.size 0 hr (by rw [List.drop_zero]; exact hs) (by rw [← hs, bys_len]; exact Nat.le_refl _)
  unfold trimLeftF idxFunc
  rw [hi]
  cases he : rs.dropWhile q with
  | nil => simp; rfl
  | cons a l =>
    simp only [List.isEmpty_cons, Bool.false_eq_true, if_false]
    rw [if_neg (show ¬ ((0 + (List.takeWhile q rs).flatten.length : Nat) : Int) = -1 by omega)]
    have hx : bys (s.extract ((0 + (List.takeWhile q rs).flatten.length : Nat) : Int).toNat s.size) = (bys s).drop (rs.takeWhile q).flatten.length := by
      rw [Int.toNat_natCast, Nat.zero_add]
      show (s.extract _ _).data.toList = _
      rw [ByteArray.data_extract, Array.toList_extract]
      show (s.data.toList.drop _).take _ = _
      rw [List.take_of_length_le]
      · rfl
      · rw [List.length_drop]; exact Nat.le_refl _
    rw [hx, hs, ← he]
    conv => lhs; rw [flat_len_drop q rs]
    rw [List.drop_left' rfl]

theorem bnd_dec (r : List UInt8) (h : IsR r) (b : List UInt8) : bndP (decodeL (r ++ b)).1 = bndB r := by
  unfold bndP
  rw [(dec_rune h b).2.2, bndE_rune h]

end Go.Proofs.YtobcbffakldfcaaDoor

namespace Go.Proofs.YtobcbffakldfcaaDoor
open Go.Lib

theorem u8_ge (n : Nat) (h : 128 ≤ n) (h2 : n < 256) : 128 ≤ (n.toUInt8).toNat := by
  have : (n.toUInt8).toNat = n % 256 := rfl
  omega
theorem rune_hi {r : List UInt8} (h : IsR r) : r.length = 1 ∨ ∀ b ∈ r, 128 ≤ b.toNat := by
  obtain ⟨_, h2, h3⟩ := dec_rune h []
  obtain ⟨x, hx⟩ : ∃ x, x = (decodeL (r ++ [])).1 := ⟨_, rfl⟩
  rw [← hx] at h2 h3
  rw [enc_rune x h2] at h3
  unfold Lib.encodeRune at h3
  by_cases h1 : x ≤ 127
  · left
    rw [Lib.encodeRuneZ_one (by omega) (by omega)] at h3
    rw [← h3]; rfl
  · right
    have hb : ∀ y ∈ Lib.encodeRuneZ (x : Int), 128 ≤ y ∧ y < 256 := by
      by_cases c2 : x ≤ 2047
      · rw [Lib.encodeRuneZ_two (by omega) (by omega)]
        intro y hy
        simp only [List.mem_cons, List.not_mem_nil, or_false] at hy
        rcases hy with rfl | rfl <;> omega
      · by_cases c3 : 55296 ≤ x ∧ x ≤ 57343
        · rw [Lib.encodeRuneZ_bad (by omega)]
          intro y hy
          simp only [List.mem_cons, List.not_mem_nil, or_false] at hy
          rcases hy with rfl | rfl | rfl <;> omega
        · by_cases c4 : x ≤ 65535
          · rw [Lib.encodeRuneZ_three (by omega)]
            intro y hy
            simp only [List.mem_cons, List.not_mem_nil, or_false] at hy
            rcases hy with rfl | rfl | rfl <;> omega
          · rw [Lib.encodeRuneZ_four (by omega) (by omega)]
            intro y hy
            simp only [List.mem_cons, List.not_mem_nil, or_false] at hy
            rcases hy with rfl | rfl | rfl | rfl <;> omega
    intro b hm
    rw [← h3] at hm
    obtain ⟨y, hy, rfl⟩ := List.mem_map.1 hm
    have := hb y hy
    exact u8_ge _ (by omega) (by omega)
theorem rune_apo {r : List UInt8} (h : IsR r) (hm : (39 : UInt8) ∈ r) : r = [39] := by
  rcases rune_hi h with h1 | h1
  · match r, h1, hm with
    | [a], _, hm => rw [List.mem_singleton.1 hm]
  · have := h1 39 hm
    exact absurd this (by decide)

def dblB (b : UInt8) : List UInt8 := if b = 39 then [39, 39] else [b]
theorem dblB_no {l : List UInt8} (h : (39 : UInt8) ∉ l) : l.flatMap dblB = l := by
  induction l with
  | nil => rfl
  | cons a l ih =>
    rw [List.flatMap_cons, ih (fun e => h (List.mem_cons_of_mem _ e))]
    unfold dblB
    rw [if_neg (fun e => h (by rw [e]; exact List.mem_cons_self))]
    rfl
theorem occ_iff39 (s : List UInt8) (j : Nat) : Lib.occAt s [39] j = true ↔ s[j]? = some 39 := by
  unfold Lib.occAt
  cases hd : s.drop j with
  | nil =>
    have : s.length ≤ j := List.drop_eq_nil_iff.1 hd
    rw [List.getElem?_eq_none this]
    simp
  | cons a l =>
    have : s[j]? = some a := by
      have e := congrArg List.head? hd
      rw [List.head?_drop] at e
      exact e
    rw [this]
    show ((39 : UInt8) == a && ([] : List UInt8).isPrefixOf l) = true ↔ some a = some 39
    have e : ([] : List UInt8).isPrefixOf l = true := by cases l <;> rfl
    rw [e, Bool.and_true, beq_iff_eq, Option.some.injEq]
    exact ⟨Eq.symm, Eq.symm⟩
theorem no_39 {s : List UInt8} (h : Lib.index s [39] = -1) : (39 : UInt8) ∉ s := by
  intro hm
  obtain ⟨j, hj, he⟩ := List.getElem_of_mem hm
  rcases Lib.index_spec s [39] with ⟨_, h2⟩ | ⟨i, h1, _⟩
  · have := h2 j (by omega)
    rw [(occ_iff39 s j).2 (by rw [List.getElem?_eq_getElem hj, he])] at this
    cases this
  · rw [h] at h1; omega
theorem rep_39 : ∀ (k : Nat) (s : List UInt8), Lib.count s [39] ≤ k → Lib.replaceK [39] [39, 39] k s = s.flatMap dblB
  | 0, s, h => by
    have hi : Lib.index s [39] = -1 := by
      rcases Lib.index_spec s [39] with ⟨h1, _⟩ | ⟨i, h1, _⟩
      · exact h1
      · exfalso
        have : Lib.count s [39] ≠ 0 := by
          unfold Lib.count Lib.countFrom
          rw [if_neg (by rw [h1]; intro e; have := beq_iff_eq.1 e; omega)]
          omega
        omega
    rw [Lib.replaceK, dblB_no (no_39 hi)]
  | k + 1, s, h => by
    rcases Lib.index_spec s [39] with ⟨h1, _⟩ | ⟨i, h1, h2, h3, h4⟩
    · rw [Lib.replaceK, if_pos (by rw [h1]; rfl), dblB_no (no_39 h1)]
    · rw [Lib.replaceK_hit _ _ _ _ i h1]
      have hg := (occ_iff39 s i).1 h3
      obtain ⟨hi, he⟩ := List.getElem?_eq_some_iff.1 hg
      have hc := Lib.count_hit (s := s) (sub := [39]) (i := i) (by simp) h1
      rw [rep_39 k _ (by simp only [List.length_cons, List.length_nil, Nat.zero_add] at hc ⊢; omega)]
      have e : s = s.take i ++ 39 :: s.drop (i + 1) := by
        conv => lhs; rw [← List.take_append_drop i s]
        rw [List.drop_eq_getElem_cons hi, he]
      have hn : (39 : UInt8) ∉ s.take i := by
        intro hm
        obtain ⟨j, hj, hh⟩ := List.getElem_of_mem hm
        rw [List.length_take] at hj
        have := h4 j (by omega)
        rw [List.getElem_take] at hh
        rw [(occ_iff39 s j).2 (by rw [List.getElem?_eq_getElem (by omega), hh])] at this
        cases this
      conv => rhs; rw [e, List.flatMap_append, dblB_no hn, List.flatMap_cons]
      rw [show dblB 39 = [39, 39] from rfl, List.append_assoc]
      rfl
theorem repAll_39 (s : List UInt8) : Lib.replaceAll s [39] [39, 39] = s.flatMap dblB := by
  unfold Lib.replaceAll Lib.replace
  rw [if_neg (by decide)]
  apply rep_39
  unfold Lib.replaceNum
  rw [if_pos (.inl (by decide))]
  exact Nat.le_refl _
theorem dbl_runes : ∀ row : List (List UInt8), (∀ r ∈ row, IsR r) → row.flatten.flatMap dblB = row.flatMap dbl
  | [], _ => rfl
  | r :: row, h => by
    rw [List.flatten_cons, List.flatMap_append, List.flatMap_cons, dbl_runes row fun x hx => h x (List.mem_cons_of_mem _ hx)]
    congr 1
    unfold dbl
    by_cases hr : r = [39]
    · rw [if_pos hr, hr]; rfl
    · rw [if_neg hr, dblB_no (fun hm => hr (rune_apo (h r List.mem_cons_self) hm))]
theorem mem_dropW39 {l : List UInt8} {c b : UInt8} (hm : b ∈ l) (hb : b ≠ c) : b ∈ l.dropWhile (· == c) := by
  induction l with
  | nil => cases hm
  | cons a l ih =>
    rw [List.dropWhile_cons]
    by_cases ha : a = c
    · rw [if_pos (by rw [ha]; simp)]
      rcases List.mem_cons.1 hm with e | e
      · exact absurd (e.trans ha) hb
      · exact ih e
    · rw [if_neg (by simpa using ha)]
      exact hm
theorem trim_39 (l : List UInt8) (c : UInt8) : Lib.trimB l c = [] ↔ ∀ b ∈ l, b = c := by
  unfold Lib.trimB Lib.trimLeftB Lib.trimRightB
  refine ⟨fun h b hm => ?_, fun h => ?_⟩
  · by_cases hb : b = c
    · exact hb
    · have h1 : b ∈ (l.reverse.dropWhile (· == c)).reverse := List.mem_reverse.2 (mem_dropW39 (List.mem_reverse.2 hm) hb)
      have h2 := mem_dropW39 h1 hb
      rw [h] at h2
      cases h2
  · have h1 : l.reverse.dropWhile (· == c) = [] := by
      have h' : ∀ x ∈ l.reverse, x = c := fun x hx => h x (List.mem_reverse.1 hx)
      generalize l.reverse = k at h'
      induction k with
      | nil => rfl
      | cons a k ih =>
        rw [List.dropWhile_cons, if_pos (by rw [h' a List.mem_cons_self]; simp), ih (fun x hx => h' x (List.mem_cons_of_mem _ hx))]
    rw [h1]
    rfl
theorem all_apo (row : List (List UInt8)) (h : ∀ r ∈ row, IsR r) : (∀ b ∈ row.flatten, b = (39 : UInt8)) ↔ row.all (fun r => decide (r = [39])) = true := by
  rw [List.all_eq_true]
  refine ⟨fun hb r hr => decide_eq_true ?_, fun ha b hm => ?_⟩
  · have hi := h r hr
    match r, hi, hr with
    | a :: t, hi, hr =>
      have : a = 39 := hb a (List.mem_flatten.2 ⟨_, hr, List.mem_cons_self⟩)
      exact rune_apo hi (by rw [this]; exact List.mem_cons_self)
    | [], hi, _ => exact absurd rfl hi.2
  · obtain ⟨r, hr, hbr⟩ := List.mem_flatten.1 hm
    have := of_decide_eq_true (ha r hr)
    rw [this] at hbr
    exact List.mem_singleton.1 hbr

theorem textF_fuel : ∀ (f g : Nat) (rs : List (List UInt8)), rs.length ≤ f → rs.length ≤ g → textF f rs = textF g rs
  | 0, 0, _, _, _ => rfl
  | 0, g + 1, [], _, _ => rfl
  | f + 1, 0, [], _, _ => rfl
  | f + 1, g + 1, [], _, _ => rfl
  | 0, g + 1, r :: rs, h, _ => by simp at h
  | f + 1, 0, r :: rs, _, h => by simp at h
  | f + 1, g + 1, r :: rs, h, k => by
    simp only [List.length_cons] at h k
    unfold textF
    split
    · next hb =>
      have hl : ((r :: rs).dropWhile bndB).length ≤ rs.length := by
        rw [List.dropWhile_cons, if_pos hb]
        exact (List.dropWhile_sublist bndB).length_le
      rw [textF_fuel f g _ (by omega) (by omega)]
    · rw [textF_fuel f g _ (by omega) (by omega)]
theorem textR_free {r : List UInt8} (h : bndB r = false) (rs : List (List UInt8)) : textR (r :: rs) = r ++ textR rs := by
  unfold textR
  rw [List.length_cons, textF, if_neg (by rw [h]; decide)]
theorem textR_bnd {r : List UInt8} (h : bndB r = true) (rs : List (List UInt8)) : textR (r :: rs) = quoR ((r :: rs).takeWhile bndB) ++ textR ((r :: rs).dropWhile bndB) := by
  unfold textR
  have hl : ((r :: rs).dropWhile bndB).length ≤ rs.length := by
    rw [List.dropWhile_cons, if_pos h]
    exact (List.dropWhile_sublist bndB).length_le
  rw [List.length_cons, textF, if_pos h, textF_fuel rs.length _ _ hl (Nat.le_refl _)]
def freeB (r : List UInt8) : Bool := !bndB r
theorem textR_rows : ∀ rs : List (List UInt8), textR rs = (rs.takeWhile freeB).flatten ++ (quoR ((rs.dropWhile freeB).takeWhile bndB) ++ textR ((rs.dropWhile freeB).dropWhile bndB))
  | [] => rfl
  | r :: rs => by
    cases hb : bndB r with
    | false =>
      rw [textR_free hb, List.takeWhile_cons, List.dropWhile_cons, show freeB r = true by unfold freeB; rw [hb]; rfl]
      simp only [if_true, List.flatten_cons]
      rw [textR_rows rs, List.append_assoc]
    | true =>
      have hf : freeB r = false := by unfold freeB; rw [hb]; rfl
      have e1 : (r :: rs).takeWhile freeB = [] := by rw [List.takeWhile_cons, hf]; rfl
      have e2 : (r :: rs).dropWhile freeB = r :: rs := by rw [List.dropWhile_cons, hf]; rfl
      rw [textR_bnd hb, e1, e2]
      rfl
theorem rows_less (r : List UInt8) (rs : List (List UInt8)) (h : IsR r) : ((((r :: rs).dropWhile freeB).dropWhile bndB)).flatten.length < (r :: rs).flatten.length := by
  have hl := h.len
  have hs : ∀ (q : List UInt8 → Bool) (l : List (List UInt8)), (l.dropWhile q).flatten.length ≤ l.flatten.length := fun q l => by
    conv => rhs; rw [flat_len_drop q l]
    rw [List.length_append]; omega
  rw [List.flatten_cons, List.length_append]
  cases hb : bndB r with
  | false =>
    rw [List.dropWhile_cons, show freeB r = true by unfold freeB; rw [hb]; rfl]
    simp only [if_true]
    have h1 := hs bndB (rs.dropWhile freeB)
    have h2 := hs freeB rs
    omega
  | true =>
    rw [List.dropWhile_cons, show freeB r = false by unfold freeB; rw [hb]; rfl]
    simp only [Bool.false_eq_true, if_false]
    rw [List.dropWhile_cons, if_pos hb]
    have h1 := hs bndB rs
    omega
theorem dbl_len : ∀ row : List (List UInt8), (row.flatMap dbl).length ≤ 2 * row.flatten.length
  | [] => Nat.le_refl _
  | r :: row => by
    have := dbl_len row
    rw [List.flatMap_cons, List.flatten_cons, List.length_append, List.length_append]
    have : (dbl r).length ≤ 2 * r.length := by
      unfold dbl
      split
      · next e => rw [e]; decide
      · omega
    omega
theorem textF_len : ∀ (f : Nat) (rs : List (List UInt8)), (∀ r ∈ rs, IsR r) → (textF f rs).length ≤ 4 * rs.flatten.length
  | 0, _, _ => Nat.zero_le _
  | f + 1, [], _ => Nat.le_refl _
  | f + 1, r :: rs, h => by
    have hr := (h r List.mem_cons_self).len
    unfold textF
    split
    · next hb =>
      have h1 := textF_len f ((r :: rs).dropWhile bndB) (fun x hx => h x (mem_dropW hx))
      have h2 : (quoR ((r :: rs).takeWhile bndB)).length ≤ 2 * ((r :: rs).takeWhile bndB).flatten.length + 2 := by
        have := dbl_len ((r :: rs).takeWhile bndB)
        unfold quoR
        split
        · omega
        · rw [List.length_cons, List.length_append]; simp only [List.length_cons, List.length_nil]; omega
      have h3 : 1 ≤ ((r :: rs).takeWhile bndB).flatten.length := by
        rw [List.takeWhile_cons, if_pos hb, List.flatten_cons, List.length_append]; omega
      have h4 := congrArg List.length (flat_len_drop bndB (r :: rs))
      rw [List.length_append] at h4
      rw [List.length_append]
      omega
    · have h1 := textF_len f rs (fun x hx => h x (List.mem_cons_of_mem _ hx))
      rw [List.length_append, List.flatten_cons, List.length_append]
      omega
theorem textR_len (rs : List (List UInt8)) (h : ∀ r ∈ rs, IsR r) : (textR rs).length ≤ 4 * rs.flatten.length := textF_len _ _ h

end Go.Proofs.YtobcbffakldfcaaDoor

namespace Go.Proofs.YtobcbffakldfcaaDoor
open Go.RowKit

theorem bld_size : (Tryd.prog.info? 43).map (·.size) = some 2 := by kernel_rfl
theorem bld_lies : liesAt Tryd.prog Tryd.prog.depth 43 (2 / Tryd.prog.cellsOf 43) 0 43 1 = true := by kernel_rfl
theorem byte_info : (Tryd.prog.info? 5).map (fun i => (i.zero, i.size, i.bytes)) = some (some (.int .u8 0), 1, 1) := by kernel_rfl

set_option maxRecDepth 100000 in
set_option maxHeartbeats 1000000 in
theorem ccheck_used (b : Nat) (w : World) (h0 : w.cell? ⟨b, 0, none⟩ = some (.pointer (some ⟨b, 0, none⟩))) :
    Calls Tryd.prog 41 #[.pointer (some ⟨b, 0, none⟩)] w fun e w' => e = .returned (.tuple #[]) ∧ w' = w := by
  obtain ⟨j, hj, _⟩ := Option.map_eq_some_iff.1 bld_size
  have key := Lib.run_neq_ptr_same (P := Tryd.prog) w ⟨b, 0, none⟩ Tryd.underlying40 hj
  go_enter Tryd.func41, Tryd.ntmps41
  go_wp2
  go_end0
  exact ⟨rfl, rfl⟩

set_option maxRecDepth 100000 in
set_option maxHeartbeats 1000000 in
theorem ccheck_fresh (b : Nat) (w : World) (h0 : w.cell? ⟨b, 0, none⟩ = some (.pointer none)) (hsh : w.shape? b = some (43, 2)) (hfz : w.frozen? ⟨b, 0, none⟩ = false) :
    Calls Tryd.prog 41 #[.pointer (some ⟨b, 0, none⟩)] w fun e w' => e = .returned (.tuple #[]) ∧ w' = w.setCell ⟨b, 0, none⟩ (.pointer (some ⟨b, 0, none⟩)) := by
  obtain ⟨j, hj, hjs⟩ := Option.map_eq_some_iff.1 bld_size
  have k1 := Lib.run_to_unsafe (P := Tryd.prog) w ⟨b, 0, none⟩ Tryd.underlying40 Tryd.underlying84 hj (by rw [hjs]; decide) hsh (Nat.zero_lt_succ 1)
  have k2 := Lib.run_from_unsafe (P := Tryd.prog) w ⟨b, 0, none⟩ Tryd.underlying84 Tryd.underlying40 hj hsh bld_lies
  go_enter Tryd.func41, Tryd.ntmps41
  go_wp2
  rw [run_callFunc_extern Tryd.func58 (by kernel_rfl) (by kernel_rfl) (by kernel_rfl) (e := Extern.AbiNoEscape.same) (by kernel_rfl), Lib.run_noEscape]
  simp only [Result.andThen]
  rw [Oper.upon_value]
  go_wp2
  go_end0
  exact ⟨rfl, rfl⟩

theorem ccheck_any (B b : Nat) (bs : List Value) (w : World) (h : Lib.IsBuilder 43 5 B b bs w) :
    Calls Tryd.prog 41 #[.pointer (some ⟨b, 0, none⟩)] w fun e w' => e = .returned (.tuple #[]) ∧ Lib.BuilderAt 43 5 B b (.pointer (some ⟨b, 0, none⟩)) bs w' ∧ Below B w w' := by
  rcases h with h | h
  · refine (ccheck_fresh b w h.cell0 h.shape h.frozen0).mono ?_
    rintro e w' ⟨rfl, rfl⟩
    exact ⟨rfl, h.used _, (Below.refl B w).setCell (p := ⟨b, 0, none⟩) h.1 _⟩
  · refine (ccheck_used b w h.cell0).mono ?_
    rintro e w' ⟨rfl, rfl⟩
    exact ⟨rfl, h, Below.refl B _⟩

set_option maxRecDepth 100000 in
set_option maxHeartbeats 2000000 in
theorem writeString_any (B b : Nat) (bs : List Value) (s : ByteArray) (w : World) (h : Lib.IsBuilder 43 5 B b bs w) (hlen : bs.length + s.size ≤ 140737488355328) (hBw : B ≤ w.heap.size) :
    Calls Tryd.prog 21 #[.pointer (some ⟨b, 0, none⟩), .string s] w fun e w' => e = .returned (.tuple #[.int .i64 s.size, .nilIface]) ∧ Lib.BuilderAt 43 5 B b (.pointer (some ⟨b, 0, none⟩)) (bs ++ Lib.strCells s) w' ∧ Below B w w' := by
  obtain ⟨i0, hi, hz0, hz1, hz2⟩ := info_parts byte_info
  go_enter Tryd.func21, Tryd.ntmps21
  go_wp2_with fail
  refine (ccheck_any B b bs _ h).mono ?_
  rintro e w1 ⟨rfl, h1, hb1⟩
  have c0 := h1.cell0
  obtain ⟨hB, v, hbk, hown, hne⟩ := h1
  have c1 : w1.cell? ⟨b, 1, none⟩ = some v := by rw [Lib.cell_of_heap hbk]; rfl
  have hlt := lt_of_block hbk
  have hsz := hb1.size
  go_wp2_with (at_builtin; refine Lib.wpList_append_own_string _ rfl _ _ 41 9 rfl B 5 i0 Tryd.underlying41 Tryd.underlying9 hi hz0 hz1 hz2 _ _ _ rfl hown s rfl ?c3 ?c4 ?c5 ?_)
  case c3 => unfold maxLen; omega
  case c4 => omega
  case c5 => omega
  intro v' w2 hown' hgrow _
  have hb2 : w2.heap[b]? = some (.cells #[.pointer (some ⟨b, 0, none⟩), v] 43 (0, 0)) := by
    rw [hgrow.block b hlt (fun e => hne e.symm)]; exact hbk
  have d0 : w2.cell? ⟨b, 0, none⟩ = some (.pointer (some ⟨b, 0, none⟩)) := by rw [Lib.cell_of_heap hb2]; rfl
  have d1 : w2.cell? ⟨b, 1, none⟩ = some v := by rw [Lib.cell_of_heap hb2]; rfl
  have f1 : w2.frozen? ⟨b, 1, none⟩ = false := Lib.frozen_of_heap hb2 1
  obtain ⟨ao, n', cap, rfl⟩ : ∃ ao n' cap, v' = .slice ao n' cap := by
    rcases hown'.2 with ⟨hv, _⟩ | ⟨g, cap, cur, hv, _⟩
    · exact ⟨_, _, _, hv⟩
    · exact ⟨_, _, _, hv⟩
  go_wp2
  go_ret2
  refine ⟨rfl, Lib.BuilderAt.put hB hb2 (bs' := bs ++ Lib.strCells s) (by simpa [Lib.strCells_length] using hown') (by decide), ?_⟩
  exact (hb1.grown hgrow (by omega) (fun k hk => (hown.lt k hk).1)).setCell (p := ⟨b, 1, none⟩) hB _

end Go.Proofs.YtobcbffakldfcaaDoor

namespace Go.Proofs.YtobcbffakldfcaaDoor
open Go.RowKit

set_option maxHeartbeats 1000000 in
theorem isLetter_gen (r : ByteArray) (w : World) (hT : Wd w) : Calls Tryd.prog 34 #[.string r] w fun e w' => e = .returned (.bool (Lib.contains lettersL (bys r))) ∧ w = w' := by
  obtain ⟨m, hm⟩ := hT.ml
  have HV := hide (Tryd.strings_Contains ⟨#[48, 49, 50, 51, 52, 53, 54, 55, 56, 57, 35, 64, 44, 46, 59, 42]⟩ r m w (by decide) hm)
  clear hT hm
  go_enter Tryd.func34, Tryd.ntmps34
  go_wp2_with fail
  refine HV.out.mono ?_
  rintro e w1 ⟨rfl, rfl⟩
  go_wp2
  go_ret
  exact ⟨rfl, rfl⟩

set_option maxRecDepth 100000 in
set_option maxHeartbeats 1000000 in
theorem isBound_any (x : Nat) (w : World) (hT : Wd w) : Calls Tryd.prog 44 #[.int .i32 (x : Int)] w fun e w' => e = .returned (.bool (bndP x)) ∧ w = w' := by
  obtain ⟨E, hE⟩ : ∃ E, E = Utf8.encode (x : Int) := ⟨_, rfl⟩
  have hcv : ∀ W, (convert 21 9 (.int .i32 (x : Int))).run Tryd.prog W = .ok (.string E) W := fun W => by rw [hE]; kernel_rfl
  have HL := hide (isLetter_gen E w hT)
  have HK := hide (kindOf_any E w hT)
  have EB : Hid (bndP x = (decide (bys E = [39]) || Lib.contains lettersL (bys E) || decide (kindB (bys E) ≠ 0))) := hide (by unfold bndP bndE; rw [hE])
  rw [EB.out]
  have ee := eqTL E [39]
  generalize kindB (bys E) = k at *
  generalize Lib.contains lettersL (bys E) = c at *
  clear hT EB hE
  by_cases h : bys E = [39]
  · rw [decide_eq_true h] at ee ⊢
    clear h
    go_enter Tryd.func44, Tryd.ntmps44
    go_wp2
    go_ret
    exact ⟨rfl, rfl⟩
  · rw [decide_eq_false h] at ee ⊢
    clear h
    cases c
    · by_cases hk : k = 0
      · subst hk
        go_enter Tryd.func44, Tryd.ntmps44
        go_wp2_with fail
        refine HL.out.mono ?_
        rintro e w1 ⟨rfl, rfl⟩
        go_wp2_with fail
        refine HK.out.mono ?_
        rintro e w1 ⟨rfl, rfl⟩
        go_wp2
        go_ret
        exact ⟨rfl, rfl⟩
      · have hk' : ((k : Int) == 0) = false := beq_eq_false_iff_ne.2 (by omega)
        have hk2 : ((k : Int) != 0) = true := by rw [bne, hk']; rfl
        rw [decide_eq_true hk]
        go_enter Tryd.func44, Tryd.ntmps44
        go_wp2_with fail
        refine HL.out.mono ?_
        rintro e w1 ⟨rfl, rfl⟩
        go_wp2_with fail
        refine HK.out.mono ?_
        rintro e w1 ⟨rfl, rfl⟩
        go_wp2
        go_ret
        exact ⟨rfl, rfl⟩
    · go_enter Tryd.func44, Tryd.ntmps44
      go_wp2_with fail
      refine HL.out.mono ?_
      rintro e w1 ⟨rfl, rfl⟩
      go_wp2
      go_ret
      exact ⟨rfl, rfl⟩

set_option maxHeartbeats 1000000 in
theorem isFree_any (x : Nat) (w : World) (hT : Wd w) : Calls Tryd.prog 43 #[.int .i32 (x : Int)] w fun e w' => e = .returned (.bool (!bndP x)) ∧ w = w' := by
  have HB := hide (isBound_any x w hT)
  clear hT
  go_enter Tryd.func43, Tryd.ntmps43
  go_wp2_with fail
  refine HB.out.mono ?_
  rintro e w1 ⟨rfl, rfl⟩
  go_wp2
  go_ret
  exact ⟨rfl, rfl⟩

theorem flat_le (q : List UInt8 → Bool) (rs : List (List UInt8)) : (rs.dropWhile q).flatten.length ≤ rs.flatten.length ∧ rs.flatten.length - (rs.dropWhile q).flatten.length = (rs.takeWhile q).flatten.length := by
  have := congrArg List.length (flat_len_drop q rs)
  rw [List.length_append] at this
  omega
theorem size_mkB (l : List UInt8) : (mkB l).size = l.length := by rw [← bys_len]; rfl

theorem mk_cut0 (s : ByteArray) (n : Nat) : s.extract 0 n = mkB ((bys s).take n) := by
  rw [← mkB_bys (s.extract 0 n)]
  congr 1
  show (s.extract 0 n).data.toList = _
  rw [ByteArray.data_extract, Array.toList_extract]
  rfl

set_option maxRecDepth 100000 in
set_option maxHeartbeats 1000000 in
theorem cut_any (g : Nat) (eg : ∀ args w, (callFunc g args).run Tryd.prog w = .ok (.enter g args) w) (p : Nat → Bool) (q : List UInt8 → Bool) (hpq : ∀ r, IsR r → ∀ b, p (Lib.decodeL (r ++ b)).1 = q r) (rs : List (List UInt8)) (w : World) (hr : ∀ r ∈ rs, IsR r) (hs : rs.flatten.length ≤ 1000000) (hp : PredGrows Tryd.prog g #[] p w) :
    Calls Tryd.prog 42 #[.string (mkB rs.flatten), .func (.func g) #[] #[]] w fun e w' => e = .returned (.tuple #[.string (mkB (rs.takeWhile q).flatten), .string (mkB (rs.dropWhile q).flatten)]) ∧ Below w.heap.size w w' := by
  have HC := hide (Tryd.strings_TrimLeftFunc_grows g #[] eg p (mkB rs.flatten) w hp)
  have ht := trim_runes p q hpq (mkB rs.flatten) rs hr rfl
  have he : Lib.trimLeftF p (mkB rs.flatten) = mkB (rs.dropWhile q).flatten := by rw [← mkB_bys (Lib.trimLeftF p (mkB rs.flatten)), ht]
  rw [he] at HC
  obtain ⟨hl1, hl2⟩ := flat_le q rs
  have h1 := size_mkB rs.flatten
  have h2 := size_mkB (rs.dropWhile q).flatten
  obtain ⟨S, hS⟩ : ∃ S, S = mkB rs.flatten := ⟨_, rfl⟩
  obtain ⟨T, hT⟩ : ∃ T, T = mkB (rs.dropWhile q).flatten := ⟨_, rfl⟩
  have EX : Hid (S.extract 0 (S.size - T.size) = mkB (rs.takeWhile q).flatten) := hide (by
    have := mk_cut0 S (S.size - T.size)
    rw [this, hS, hT, h1, h2, hl2, bys_mkB]
    conv => lhs; rw [flat_len_drop q rs]
    rw [List.take_left' rfl])
  rw [← hS] at HC h1 ⊢
  rw [← hT] at HC h2 ⊢
  have hts : T.size ≤ S.size := by omega
  have hsz : S.size ≤ 1000000 := by omega
  clear hS hT ht he hl1 hl2 h1 h2 hs hp hpq hr eg
  go_enter Tryd.func42, Tryd.ntmps42
  go_wp2_with fail
  refine HC.out.mono ?_
  rintro e w1 ⟨rfl, hb⟩
  go_wp2
  refine bodyPost_ret (results_tmp2 rfl _ _ _) rfl ?_
  exact ⟨by rw [← EX.out]; rfl, hb⟩

theorem quo_rep (row : List (List UInt8)) (hr : ∀ r ∈ row, IsR r) : (⟨(Lib.replaceAll (mkB row.flatten).data.toList [39] [39, 39]).toArray⟩ : ByteArray) = mkB (row.flatMap dbl) := by
  show mkB (Lib.replaceAll row.flatten [39] [39, 39]) = _
  rw [repAll_39, dbl_runes row hr]

set_option maxRecDepth 100000 in
set_option maxHeartbeats 1000000 in
theorem quoted_any (row : List (List UInt8)) (w : World) (hr : ∀ r ∈ row, IsR r) (hs : row.flatten.length ≤ 1000000) (hT : Wd w) :
    Calls Tryd.prog 45 #[.string (mkB row.flatten)] w fun e w' => e = .returned (.string (mkB (quoR row))) ∧ Below w.heap.size w w' := by
  obtain ⟨m, hm⟩ := hT.ml
  have h1 := size_mkB row.flatten
  have hc : Lib.countB (mkB row.flatten) ⟨#[39]⟩ ≤ row.flatten.length + 1 := Lib.count_le row.flatten [39]
  have HV := hide (Tryd.strings_ReplaceAll (mkB row.flatten) ⟨#[39]⟩ ⟨#[39, 39]⟩ m w (by omega) hm (by decide) (by
    rw [h1]
    have : (⟨#[39, 39]⟩ : ByteArray).size = 2 := rfl
    rw [this]; omega))
  have e1 : (⟨(Lib.replaceAll (mkB row.flatten).data.toList (⟨#[39]⟩ : ByteArray).data.toList (⟨#[39, 39]⟩ : ByteArray).data.toList).toArray⟩ : ByteArray) = mkB (row.flatMap dbl) := quo_rep row hr
  rw [e1] at HV
  have h2 := dbl_len row
  have h3 := size_mkB (row.flatMap dbl)
  have HT : Hid (∀ W, Calls Tryd.prog 61 #[.string (mkB row.flatten), .string ⟨#[39]⟩] W fun e w' => e = .returned (.string (mkB (Lib.trimB row.flatten 39))) ∧ (w' = W ∨ w' = W.drew)) := hide (fun W => Tryd.strings_Trim_one (mkB row.flatten) 39 (by decide) W (by omega))
  have hq : Hid (mkB (quoR row) = if Lib.trimB row.flatten 39 = [] then mkB (row.flatMap dbl) else mkB [39] ++ mkB (row.flatMap dbl) ++ mkB [39]) := hide (by
    unfold quoR
    by_cases ha : row.all (fun r => decide (r = [39])) = true
    · rw [if_pos ha, if_pos ((trim_39 _ _).2 ((all_apo row hr).2 ha))]
    · rw [if_neg ha, if_neg (fun e => ha ((all_apo row hr).1 ((trim_39 _ _).1 e)))]
      rw [← mkB_app, ← mkB_app]; rfl)
  generalize mkB row.flatten = S at *
  obtain ⟨T, hTr⟩ : ∃ T, T = Lib.trimB row.flatten 39 := ⟨_, rfl⟩
  rw [← hTr] at HT hq
  obtain ⟨Q, hQ⟩ : ∃ Q, Q = mkB (row.flatMap dbl) := ⟨_, rfl⟩
  rw [← hQ] at HV hq h3
  rw [hq.out]
  have hQs : Q.size ≤ 3000000 := by omega
  clear hT hm hc e1 h1 h2 h3 hQ hTr hs hr hq
  by_cases hz : T = []
  · subst hz
    rw [if_pos rfl]
    rw [show mkB [] = ⟨#[]⟩ from rfl] at HT
    go_enter Tryd.func45, Tryd.ntmps45
    go_wp2_with fail
    refine HV.out.mono ?_
    rintro e w1 ⟨rfl, hb⟩
    have HB := hide hb
    clear HV hb
    go_wp2_with fail
    refine (HT.out _).mono ?_
    rintro e w2 ⟨rfl, hw⟩
    have HB2 : Hid (Below w.heap.size w w2) := hide (by
      rcases hw with rfl | rfl
      · exact HB.out
      · exact HB.out.drew)
    clear hw HT
    go_wp2
    go_ret
    exact ⟨rfl, HB2.out⟩
  · rw [if_neg hz]
    have hzs : (mkB T).size ≠ 0 := by rw [size_mkB]; exact fun e => hz (List.length_eq_zero_iff.1 e)
    have i1 := tl_ne3 hzs
    have i2 := tl_ie3 hzs
    have i3 := tl_nb3 hzs
    generalize mkB T = TB at *
    rw [show mkB [39] = ⟨#[39]⟩ from rfl]
    have k1 : ¬ 9223372036854775807 < (⟨#[39]⟩ : ByteArray).size + Q.size := by
      have : (⟨#[39]⟩ : ByteArray).size = 1 := rfl
      omega
    have k2 : ¬ 9223372036854775807 < (⟨#[39]⟩ ++ Q : ByteArray).size + (⟨#[39]⟩ : ByteArray).size := by
      have : (⟨#[39]⟩ : ByteArray).size = 1 := rfl
      rw [ByteArray.size_append]
      omega
    clear hz hzs
    go_enter Tryd.func45, Tryd.ntmps45
    go_wp2_with fail
    refine HV.out.mono ?_
    rintro e w1 ⟨rfl, hb⟩
    have HB := hide hb
    clear HV hb
    go_wp2_with fail
    refine (HT.out _).mono ?_
    rintro e w2 ⟨rfl, hw⟩
    have HB2 : Hid (Below w.heap.size w w2) := hide (by
      rcases hw with rfl | rfl
      · exact HB.out
      · exact HB.out.drew)
    clear hw HT
    go_wp2
    go_ret
    exact ⟨rfl, HB2.out⟩

def Bd (w : World) (b : Nat) (acc : List UInt8) : Prop := Lib.IsBuilder 43 5 b b (Lib.byteCells acc) w
theorem bdAt_below {T e : TypeId} {B b : Nat} {p : Value} {bs : List Value} {w w' : World} (h : Lib.BuilderAt T e B b p bs w) (hb : Below w.heap.size w w') : Lib.BuilderAt T e B b p bs w' := by
  obtain ⟨h1, v, h2, h3, h4⟩ := h
  refine ⟨h1, v, (hb.block b (lt_of_block h2)).trans h2, World.ownsRow.kept h3 (row := none) ⟨hb.os, hb.tape, hb.output, hb.size, fun k hk _ => hb.block k hk⟩ (by cases v.ownBlock <;> simp), h4⟩
theorem Bd.below {w w' : World} {b : Nat} {acc : List UInt8} (h : Bd w b acc) (hb : Below w.heap.size w w') : Bd w' b acc := by
  rcases h with h | h
  · exact .inl (bdAt_below h hb)
  · exact .inr (bdAt_below h hb)
theorem Bd.lt {w : World} {b : Nat} {acc : List UInt8} (h : Bd w b acc) : b < w.heap.size := by
  rcases h with ⟨_, v, h2, _⟩ | ⟨_, v, h2, _⟩
  · exact lt_of_block h2
  · exact lt_of_block h2
theorem Bd.new (w : World) : Bd (w.alloc (.cells #[.pointer none, .slice none 0 0] 43)) w.heap.size [] :=
  .inl ⟨Nat.le_refl _, _, heap_alloc_new w _, World.ownsRow_nil _ _ _ _, by simp [Value.ownBlock]⟩
def KT (w w' : World) : Prop := ∀ j cs, Blk w j cs 32 → Blk w' j cs 32
theorem KT.set {w : World} {b i : Nat} {v : Value} {cs : Array Value} {T : TypeId} (h : Blk w b cs T) (hT : T ≠ 32) : KT w (w.setCell ⟨b, i, none⟩ v) := fun j cs' hj => by
  refine hj.other (a := ⟨b, i, none⟩) (fun e => ?_) v
  have e' : b = j := e
  subst e'
  unfold Blk at h hj
  rw [h] at hj
  simp only [Option.some.injEq, Obj.cells.injEq] at hj
  exact hT hj.2.1
theorem KT.grown {w w' : World} {B n : Nat} {v : Value} {xs : List Value} {e : TypeId} (ho : w.ownsRow B e 1 v n xs) (he : e ≠ 32) (hg : w.grownBy w' v.ownBlock) : KT w w' := fun j cs hj => by
  have hne : some j ≠ v.ownBlock := by
    intro q
    rcases ho.2 with ⟨hv, _⟩ | ⟨g, cap, cur, hv, _, hh, _⟩
    · rw [hv] at q; simp [Value.ownBlock] at q
    · rw [hv] at q
      have q' : j = g := by simpa [Value.ownBlock] using q
      subst q'
      unfold Blk at hj
      rw [hh] at hj
      simp only [Option.some.injEq, Obj.cells.injEq] at hj
      exact he hj.2.1
  unfold Blk at *
  rw [hg.block j (lt_of_block hj) hne]
  exact hj
theorem KT.trans {a b c : World} (h : KT a b) (k : KT b c) : KT a c := fun j cs hj => k j cs (h j cs hj)

theorem ccheck_kt (B b : Nat) (bs : List Value) (w : World) (h : Lib.IsBuilder 43 5 B b bs w) :
    Calls Tryd.prog 41 #[.pointer (some ⟨b, 0, none⟩)] w fun e w' => e = .returned (.tuple #[]) ∧ Lib.BuilderAt 43 5 B b (.pointer (some ⟨b, 0, none⟩)) bs w' ∧ Below B w w' ∧ KT w w' := by
  rcases h with h | h
  · refine (ccheck_fresh b w h.cell0 h.shape h.frozen0).mono ?_
    rintro e w' ⟨rfl, rfl⟩
    obtain ⟨_, v, hbk, _⟩ := id h
    exact ⟨rfl, h.used _, (Below.refl B w).setCell (p := ⟨b, 0, none⟩) h.1 _, KT.set hbk (by decide)⟩
  · refine (ccheck_used b w h.cell0).mono ?_
    rintro e w' ⟨rfl, rfl⟩
    exact ⟨rfl, h, Below.refl B _, fun _ _ hj => hj⟩

set_option maxRecDepth 100000 in
set_option maxHeartbeats 2000000 in
theorem writeString_kt (B b : Nat) (bs : List Value) (s : ByteArray) (w : World) (h : Lib.IsBuilder 43 5 B b bs w) (hlen : bs.length + s.size ≤ 140737488355328) (hBw : B ≤ w.heap.size) :
    Calls Tryd.prog 21 #[.pointer (some ⟨b, 0, none⟩), .string s] w fun e w' => e = .returned (.tuple #[.int .i64 s.size, .nilIface]) ∧ Lib.BuilderAt 43 5 B b (.pointer (some ⟨b, 0, none⟩)) (bs ++ Lib.strCells s) w' ∧ Below B w w' ∧ KT w w' := by
  obtain ⟨i0, hi, hz0, hz1, hz2⟩ := info_parts byte_info
  go_enter Tryd.func21, Tryd.ntmps21
  go_wp2_with fail
  refine (ccheck_kt B b bs _ h).mono ?_
  rintro e w1 ⟨rfl, h1, hb1, hk1⟩
  have c0 := h1.cell0
  obtain ⟨hB, v, hbk, hown, hne⟩ := h1
  have c1 : w1.cell? ⟨b, 1, none⟩ = some v := by rw [Lib.cell_of_heap hbk]; rfl
  have hlt := lt_of_block hbk
  have hsz := hb1.size
  go_wp2_with (at_builtin; refine Lib.wpList_append_own_string _ rfl _ _ 41 9 rfl B 5 i0 Tryd.underlying41 Tryd.underlying9 hi hz0 hz1 hz2 _ _ _ rfl hown s rfl ?c3 ?c4 ?c5 ?_)
  case c3 => unfold maxLen; omega
  case c4 => omega
  case c5 => omega
  intro v' w2 hown' hgrow _
  have hb2 : w2.heap[b]? = some (.cells #[.pointer (some ⟨b, 0, none⟩), v] 43 (0, 0)) := by
    rw [hgrow.block b hlt (fun e => hne e.symm)]; exact hbk
  have hk2 := hk1.trans (KT.grown hown (by decide) hgrow)
  have hk3 : ∀ u, KT w (w2.setCell ⟨b, 1, none⟩ u) := fun u => hk2.trans (KT.set hb2 (by decide))
  have d0 : w2.cell? ⟨b, 0, none⟩ = some (.pointer (some ⟨b, 0, none⟩)) := by rw [Lib.cell_of_heap hb2]; rfl
  have d1 : w2.cell? ⟨b, 1, none⟩ = some v := by rw [Lib.cell_of_heap hb2]; rfl
  have f1 : w2.frozen? ⟨b, 1, none⟩ = false := Lib.frozen_of_heap hb2 1
  obtain ⟨ao, n', cap, rfl⟩ : ∃ ao n' cap, v' = .slice ao n' cap := by
    rcases hown'.2 with ⟨hv, _⟩ | ⟨g, cap, cur, hv, _⟩
    · exact ⟨_, _, _, hv⟩
    · exact ⟨_, _, _, hv⟩
  have HK3 := hide hk3
  clear hk1 hk2 hk3
  go_wp2
  go_ret2
  refine ⟨rfl, Lib.BuilderAt.put hB hb2 (bs' := bs ++ Lib.strCells s) (by simpa [Lib.strCells_length] using hown') (by decide), ?_, HK3.out _⟩
  exact (hb1.grown hgrow (by omega) (fun k hk => (hown.lt k hk).1)).setCell (p := ⟨b, 1, none⟩) hB _

theorem Bd.putK {w : World} {b : Nat} {acc : List UInt8} (s : ByteArray) (h : Bd w b acc) (hl : acc.length + s.size ≤ 140737488355328) :
    Calls Tryd.prog 21 #[.pointer (some ⟨b, 0, none⟩), .string s] w fun e w' => e = .returned (.tuple #[.int .i64 s.size, .nilIface]) ∧ Bd w' b (acc ++ bys s) ∧ Below b w w' ∧ KT w w' := by
  refine (writeString_kt b b _ s w h (by rw [Lib.byteCells_length]; exact hl) (Nat.le_of_lt h.lt)).mono ?_
  rintro e w' ⟨h1, h2, h3, h4⟩
  refine ⟨h1, .inr ?_, h3, h4⟩
  have e : Lib.byteCells (acc ++ bys s) = Lib.byteCells acc ++ Lib.strCells s := by unfold Lib.byteCells Lib.strCells bys; rw [List.map_append]
  rw [e]
  exact h2
theorem Bd.put {w : World} {b : Nat} {acc : List UInt8} (s : ByteArray) (h : Bd w b acc) (hl : acc.length + s.size ≤ 140737488355328) :
    Calls Tryd.prog 21 #[.pointer (some ⟨b, 0, none⟩), .string s] w fun e w' => e = .returned (.tuple #[.int .i64 s.size, .nilIface]) ∧ Bd w' b (acc ++ bys s) ∧ Below b w w' := by
  refine (writeString_any b b _ s w h (by rw [Lib.byteCells_length]; exact hl) (Nat.le_of_lt h.lt)).mono ?_
  rintro e w' ⟨h1, h2, h3⟩
  refine ⟨h1, .inr ?_, h3⟩
  have e : Lib.byteCells (acc ++ bys s) = Lib.byteCells acc ++ Lib.strCells s := by unfold Lib.byteCells Lib.strCells bys; rw [List.map_append]
  rw [e]
  exact h2
theorem Bd.str {w : World} {b : Nat} {acc : List UInt8} (h : Bd w b acc) :
    Calls Tryd.prog 24 #[.pointer (some ⟨b, 0, none⟩)] w fun e w' => e = .returned (.string (mkB acc)) ∧ Below b w w' :=
  Tryd.Builder_String_any b b acc w h (Nat.le_of_lt h.lt)

def strSz : Value → Nat
  | .string s => s.size
  | _ => 0
theorem pred_bound {w : World} (hT : Wd w) : PredGrows Tryd.prog 44 #[] bndP w := fun W x _ hb => (isBound_any x W (hT.below hb)).mono fun e w' ⟨h1, h2⟩ => ⟨h1, by rw [← h2]; exact Below.refl _ _⟩
theorem pred_free {w : World} (hT : Wd w) : PredGrows Tryd.prog 43 #[] (fun x => !bndP x) w := fun W x _ hb => (isFree_any x W (hT.below hb)).mono fun e w' ⟨h1, h2⟩ => ⟨h1, by rw [← h2]; exact Below.refl _ _⟩

set_option maxRecDepth 100000 in
set_option maxHeartbeats 2000000 in
theorem textOf_any (rs : List (List UInt8)) (w : World) (hr : ∀ r ∈ rs, IsR r) (hs : rs.flatten.length ≤ 1000) (hT : Wd w) :
    Calls Tryd.prog 22 #[.string (mkB rs.flatten)] w fun e w' => e = .returned (.string (mkB (textR rs))) ∧ Below w.heap.size w w' := by
  have eb : ∀ args w, (callFunc 44 args).run Tryd.prog w = .ok (.enter 44 args) w := enters_of Tryd.func44 (by kernel_rfl) rfl
  have ef : ∀ args w, (callFunc 43 args).run Tryd.prog w = .ok (.enter 43 args) w := enters_of Tryd.func43 (by kernel_rfl) rfl
  have CF : Hid (∀ (W : World) (l : List (List UInt8)), Wd W → (∀ r ∈ l, IsR r) → l.flatten.length ≤ 1000 → Calls Tryd.prog 42 #[.string (mkB l.flatten), .func (.func 43) #[] #[]] W fun e w' => e = .returned (.tuple #[.string (mkB (l.takeWhile freeB).flatten), .string (mkB (l.dropWhile freeB).flatten)]) ∧ Below W.heap.size W w') := hide (fun W l hW hl hn => cut_any _ ef _ freeB (fun r h b => by unfold freeB; rw [bnd_dec r h b]) l W hl (by omega) (pred_free hW))
  have CB : Hid (∀ (W : World) (l : List (List UInt8)), Wd W → (∀ r ∈ l, IsR r) → l.flatten.length ≤ 1000 → Calls Tryd.prog 42 #[.string (mkB l.flatten), .func (.func 44) #[] #[]] W fun e w' => e = .returned (.tuple #[.string (mkB (l.takeWhile bndB).flatten), .string (mkB (l.dropWhile bndB).flatten)]) ∧ Below W.heap.size W w') := hide (fun W l hW hl hn => cut_any _ eb _ bndB bnd_dec l W hl (by omega) (pred_bound hW))
  clear eb ef
  have hlen := textR_len rs hr
  obtain ⟨TT, hTT⟩ : ∃ TT, TT = textR rs := ⟨_, rfl⟩
  rw [← hTT] at hlen ⊢
  have HTT := hide hTT
  have HR0 := hide hr
  have HT := hide hT
  clear hr hT hTT
  have B1 : Hid (Below w.heap.size w (w.alloc (.cells #[.pointer none, .slice none 0 0] 43))) := hide ((Below.refl _ _).alloc (Nat.le_refl _) _)
  have N1 := hide (Bd.new w)
  obtain ⟨S0, hS0⟩ : ∃ S0, S0 = mkB rs.flatten := ⟨_, rfl⟩
  rw [← hS0]
  have HS0 := hide hS0
  clear hS0
  go_enter Tryd.func22, Tryd.ntmps22
  go_wp2
  go_loopw [0] (fun x wr => ∃ (l : List (List UInt8)) (acc : List UInt8) (S : ByteArray), x = .string S ∧ Hid (S = mkB l.flatten) ∧ Hid ((∀ r ∈ l, IsR r) ∧ l.flatten.length ≤ 1000 ∧ acc ++ textR l = TT) ∧ Hid (Bd wr w.heap.size acc) ∧ Hid (Below w.heap.size w wr)) (fun x _ => strSz x)
  case atStart => exact ⟨rs, [], S0, rfl, HS0, hide ⟨HR0.out, hs, by rw [HTT.out]; rfl⟩, N1, B1⟩
  case round =>
    obtain ⟨l, acc, S, rfl, HS, HF, HBd, HB⟩ := hrel
    cases l with
    | nil =>
      have hz : S = ⟨#[]⟩ := HS.out
      subst hz
      have EE : Hid (acc = TT) := hide (by have := HF.out.2.2; rw [show textR [] = [] from rfl, List.append_nil] at this; exact this)
      have HSt := hide (Bd.str HBd.out)
      rw [EE.out] at HSt
      clear HF HS EE
      go_wp2_with fail
      refine HSt.out.mono ?_
      rintro e w1 ⟨rfl, hb⟩
      go_wp2
      go_ret
      exact ⟨rfl, HB.out.trans hb⟩
    | cons r l' =>
      have hR := HF.out.1 r List.mem_cons_self
      have hz : S.size ≠ 0 := by
        rw [HS.out, size_mkB, List.flatten_cons, List.length_append]
        have := hR.len
        omega
      have i1 := tl_ne3 hz
      have i2 := tl_ie3 hz
      have i3 := tl_nb3 hz
      have LS := hide (rows_less r l' hR)
      have TR := hide (textR_rows (r :: l'))
      obtain ⟨L, hL⟩ : ∃ L, L = r :: l' := ⟨_, rfl⟩
      rw [← hL] at HS HF LS TR
      clear hL hR
      have TW := hide (HT.out.below HB.out)
      have H1 := hide (CF.out wr L TW.out HF.out.1 HF.out.2.1)
      have fl := flat_le freeB L
      have fb := flat_le bndB (L.dropWhile freeB)
      have hlL := HF.out.2.1
      have MF : Hid (∀ x ∈ L.dropWhile freeB, IsR x) := hide (fun x hx => HF.out.1 x (mem_dropW hx))
      rw [← HS.out] at H1
      go_wp2_with fail
      refine H1.out.mono ?_
      rintro e w1 ⟨rfl, hb1⟩
      have TW1 := hide (TW.out.below hb1)
      have BD1 := hide (HBd.out.below hb1)
      have HB1 := hide (HB.out.trans (hb1.mono HB.out.size))
      have H2 := hide (CB.out w1 (L.dropWhile freeB) TW1.out MF.out (by omega))
      clear hb1 H1 TW HBd HB
      go_wp2_with fail
      refine H2.out.mono ?_
      rintro e w2 ⟨rfl, hb2⟩
      have TW2 := hide (TW1.out.below hb2)
      have BD2 := hide (BD1.out.below hb2)
      have HB2 := hide (HB1.out.trans (hb2.mono HB1.out.size))
      have H3 := hide (quoted_any ((L.dropWhile freeB).takeWhile bndB) w2 (fun x hx => MF.out x (mem_take hx)) (by omega) TW2.out)
      clear hb2 H2 TW1 BD1 HB1
      go_wp2_with fail
      refine H3.out.mono ?_
      rintro e w3 ⟨rfl, hb3⟩
      have BD3 := hide (BD2.out.below hb3)
      have HB3 := hide (HB2.out.trans (hb3.mono HB2.out.size))
      clear hb3 H3 TW2 BD2 HB2
      have EN : Hid (acc ++ bys (mkB (L.takeWhile freeB).flatten ++ mkB (quoR ((L.dropWhile freeB).takeWhile bndB))) ++ textR ((L.dropWhile freeB).dropWhile bndB) = TT) := hide (by
        rw [← HF.out.2.2, TR.out, bys_append, bys_mkB, bys_mkB]
        simp only [List.append_assoc])
      have ESz : Hid (∀ x : List (List UInt8), strSz (.string (mkB x.flatten)) = x.flatten.length) := hide (fun x => size_mkB _)
      have hSz : S.size = L.flatten.length := by rw [HS.out, size_mkB]
      have MD : Hid (∀ x ∈ (L.dropWhile freeB).dropWhile bndB, IsR x) := hide (fun x hx => MF.out x (mem_dropW hx))
      have hl2 : ((L.dropWhile freeB).dropWhile bndB).flatten.length ≤ 1000 := by omega
      have hq : acc.length + (mkB (L.takeWhile freeB).flatten ++ mkB (quoR ((L.dropWhile freeB).takeWhile bndB))).size ≤ 4000 := by
        have := congrArg List.length EN.out
        rw [List.length_append, List.length_append, bys_len] at this
        omega
      have ksz : ¬ 9223372036854775807 < (mkB (L.takeWhile freeB).flatten).size + (mkB (quoR ((L.dropWhile freeB).takeWhile bndB))).size := by rw [ByteArray.size_append] at hq; omega
      obtain ⟨A, hA⟩ : ∃ A, A = mkB (L.takeWhile freeB).flatten := ⟨_, rfl⟩
      obtain ⟨Q, hQ⟩ : ∃ Q, Q = mkB (quoR ((L.dropWhile freeB).takeWhile bndB)) := ⟨_, rfl⟩
      rw [← hA, ← hQ] at EN hq ksz
      simp only [← hA, ← hQ]
      have H4 := hide (BD3.out.put (A ++ Q) (by omega))
      obtain ⟨L3, hL3⟩ : ∃ L3, L3 = (L.dropWhile freeB).dropWhile bndB := ⟨_, rfl⟩
      rw [← hL3] at EN MD hl2 LS
      simp only [← hL3]
      have HLT : Hid (L3.flatten.length < S.size) := hide (by rw [hSz]; exact LS.out)
      clear hA hQ hL3 HF MF fl fb hlL TR LS hSz hq HS
      go_wp2_with fail
      refine H4.out.mono ?_
      rintro e w4 ⟨rfl, hbd, hb4⟩
      have BD4 := hide hbd
      have HB4 := hide (HB3.out.trans hb4)
      clear H4 hbd hb4 BD3 HB3
      go_wp2
      exact ⟨⟨L3, _, _, rfl, hide rfl, hide ⟨MD.out, hl2, EN.out⟩, BD4, HB4⟩, by rw [ESz.out]; exact HLT.out⟩

end Go.Proofs.YtobcbffakldfcaaDoor

namespace Go.Proofs.YtobcbffakldfcaaDoor
open Go.RowKit

theorem prt_len {t : Tok} (h : mayTok t = true) : (prtT t).length ≤ 4 * t.text.size + 9 := by
  unfold prtT
  by_cases h0 : t.kind = 0
  · rw [if_pos h0]
    have hv := (may_zero h h0).2.1
    have h1 := textR_len (rns (bys t.text)) (rns_isR _ _ (Nat.le_refl _))
    rw [flat_rns _ _ (Nat.le_refl _) hv, bys_len] at h1
    omega
  · rw [if_neg h0]
    have hm := may_many h
    have hs : (sgnL t.kind).length ≤ 3 := by
      unfold sgnL
      repeat' split
      all_goals decide
    rw [List.length_flatten, List.map_replicate, List.sum_replicate_nat]
    have h3 : (max 1 t.many).toNat ≤ 3 := by omega
    have := Nat.mul_le_mul h3 hs
    omega
theorem prtL_snoc (ts : List Tok) (k : Nat) (h : k < ts.length) : prtL (ts.take (k + 1)) = prtL (ts.take k) ++ prtT (tokN ts k) := by
  have e : tokN ts k = ts[k] := tokN_get (List.getElem?_eq_getElem h)
  unfold prtL
  rw [List.take_add_one, List.getElem?_eq_getElem h, e, List.flatMap_append]
  simp
theorem prtL_len : ∀ ts : List Tok, (∀ t ∈ ts, mayTok t = true) → (prtL ts).length ≤ 4 * sizeT ts + 9 * ts.length
  | [], _ => Nat.zero_le _
  | t :: ts, h => by
    have h1 := prt_len (h t List.mem_cons_self)
    have h2 := prtL_len ts (fun x hx => h x (List.mem_cons_of_mem _ hx))
    unfold prtL sizeT at *
    rw [List.flatMap_cons, List.length_append, List.map_cons, List.sum_cons, List.length_cons]
    omega
theorem chk_ok {ts : List Tok} (h : chkT ts = 0) : (∀ t ∈ ts, mayTok t = true) ∧ ts.length ≤ 64 ∧ sizeT ts ≤ 64 := by
  obtain ⟨h1, h2⟩ := chkT_bad h
  unfold longT at h2
  simp at h2
  exact ⟨badT_may ts none h1, h2⟩
theorem tokN_mem {ts : List Tok} {i : Nat} (h : i < ts.length) : tokN ts i ∈ ts := by
  rw [tokN_get (List.getElem?_eq_getElem h)]
  exact List.getElem_mem h
theorem rep_eq (l : List UInt8) : ∀ n, Lib.repeatL l n = (List.replicate n l).flatten
  | 0 => rfl
  | n + 1 => by rw [Lib.repeatL, rep_eq l n, List.replicate_succ, List.flatten_cons]
theorem may_sign {t : Tok} (h : mayTok t = true) (h0 : ¬ t.kind = 0) : t.kind = 1 ∨ t.kind = 2 ∨ t.kind = 3 ∨ t.kind = 4 ∨ t.kind = 5 := by
  unfold mayTok at h
  rw [if_neg h0] at h
  split at h
  · omega
  · split at h
    · omega
    · cases h

set_option maxRecDepth 100000 in
set_option maxHeartbeats 4000000 in
theorem Print_ok (b o cap : Nat) (ts : List Tok) (w : World) (hc0 : chkT ts = 0) (hcap : ts.length ≤ cap) (hT : Wd w) (hA : TkAt w b o ts) :
    Calls Tryd.prog 9 #[.slice (some ⟨b, o, none⟩) ts.length cap] w fun e w' => e = .returned (.tuple #[.string (mkB (prtL ts)), .int .i64 0]) ∧ Below w.heap.size w w' := by
  obtain ⟨hM, hl64, hs64⟩ := chk_ok hc0
  have SZ : SzT ts := fun i => Nat.le_trans (size_tok ts i) (by omega)
  have CK := hide (Check_any (v := .slice (some ⟨b, o, none⟩) ts.length cap) ⟨_, cap, rfl, hcap, .inr ⟨b, o, rfl, hA⟩⟩ (by omega) SZ hT.u8)
  rw [hc0] at CK
  have hpl := prtL_len ts hM
  obtain ⟨P, hP⟩ : ∃ P, P = prtL ts := ⟨_, rfl⟩
  rw [← hP] at hpl ⊢
  have HP := hide hP
  have HM := hide hM
  have HA := hide hA
  have HT := hide hT
  obtain ⟨L, hL⟩ : ∃ L, L = ts.length := ⟨_, rfl⟩
  rw [← hL] at CK hcap hl64 hpl ⊢
  have HL := hide hL
  clear hM hA hT hL hP hc0 SZ
  go_enter Tryd.func9, Tryd.ntmps9
  go_wp2_with fail
  refine CK.out.mono ?_
  rintro e w1 ⟨rfl, hb1⟩
  have BW := hide hb1
  have N1 := hide (Bd.new w1)
  have B1 : Hid (Below w1.heap.size w1 (w1.alloc (.cells #[.pointer none, .slice none 0 0] 43))) := hide ((Below.refl _ _).alloc (Nat.le_refl _) _)
  clear hb1 CK
  go_wp2
  go_loopw [15] (fun q wr => ∃ (k : Nat), k ≤ L ∧ q = .int .i64 (k : Int) ∧ Hid (Bd wr w1.heap.size (prtL (ts.take k))) ∧ Hid (Below w1.heap.size w1 wr)) (fun q _ => L - (intOf q).toNat)
  case atStart => exact ⟨0, Nat.zero_le _, rfl, N1, B1⟩
  case round =>
    obtain ⟨k, hk, rfl, HBd, HB⟩ := hrel
    have BX := hide (BW.out.trans (HB.out.mono BW.out.size))
    by_cases hlt : k < L
    · have hlt' : (k : Int) < (L : Int) := by omega
      have hkt : k < ts.length := by rw [← HL.out]; exact hlt
      obtain ⟨c0, c1, c2⟩ := (HA.out.below BX.out) k hkt
      have hmk := HM.out _ (tokN_mem hkt)
      have ES := hide (prtL_snoc ts k hkt)
      have hpk : (prtL (ts.take k)).length + (prtT (tokN ts k)).length ≤ P.length := by
        rw [← List.length_append, ← prtL_snoc ts k hkt, HP.out]
        conv => rhs; rw [← List.take_append_drop (k + 1) ts]
        unfold prtL
        rw [List.flatMap_append, List.length_append]
        omega
      have htz : (tokN ts k).text.size ≤ 64 := Nat.le_trans (size_tok ts k) hs64
      obtain ⟨t, ht⟩ : ∃ t, t = tokN ts k := ⟨_, rfl⟩
      rw [← ht] at c0 c1 c2 hmk ES hpk htz
      clear ht hkt
      obtain ⟨W2, hW2⟩ : ∃ W2, W2 = wr.alloc (.cells #[.int .i64 t.kind, .int .i64 t.many, .string t.text] 32) := ⟨_, rfl⟩
      have BA : Hid (Below wr.heap.size wr W2) := hide (by rw [hW2]; exact (Below.refl _ _).alloc (Nat.le_refl _) _)
      have TB : Hid (Blk W2 wr.heap.size #[.int .i64 t.kind, .int .i64 t.many, .string t.text] 32) := hide (by rw [hW2]; exact Blk.newAt wr wr.heap.size rfl _ _)
      have HW2 := hide hW2.symm
      have d0 := TB.out.cell 0
      have d1 := TB.out.cell 1
      have d2 := TB.out.cell 2
      have BD2 := hide (HBd.out.below BA.out)
      have HB2 := hide (HB.out.trans (BA.out.mono HB.out.size))
      have TW2 := hide (HT.out.below (BX.out.trans (BA.out.mono BX.out.size)))
      clear hW2 HBd HB
      by_cases h0 : t.kind = 0
      · have h0' : (t.kind == 0) = true := beq_iff_eq.2 h0
        have hv := (may_zero hmk h0).2.1
        have hfl := flat_rns _ _ (Nat.le_refl _) hv
        have H1 := hide (textOf_any (rns (bys t.text)) W2 (rns_isR _ _ (Nat.le_refl _)) (by rw [hfl, bys_len]; omega) TW2.out)
        rw [hfl, mkB_bys] at H1
        have EP : Hid (prtT t = textR (rns (bys t.text))) := hide (by unfold prtT; rw [if_pos h0])
        rw [EP.out] at hpk ES
        obtain ⟨X, hX⟩ : ∃ X, X = textR (rns (bys t.text)) := ⟨_, rfl⟩
        rw [← hX] at H1 hpk ES
        clear hX EP hv hfl h0 hmk
        go_wp2_with (simp only [HW2.out])
        refine H1.out.mono ?_
        rintro e w3 ⟨rfl, hb3⟩
        have H2 := hide ((BD2.out.below hb3).put (mkB X) (by rw [size_mkB]; omega))
        have HB3 := hide (HB2.out.trans (hb3.mono HB2.out.size))
        clear hb3 H1
        go_wp2_with fail
        refine H2.out.mono ?_
        rintro e w4 ⟨rfl, hbd, hb4⟩
        rw [bys_mkB, ← ES.out] at hbd
        have BD4 := hide hbd
        have HB4 := hide (HB3.out.trans hb4)
        clear hbd hb4 H2 BD2 HB2 HB3
        go_wp2
        exact ⟨⟨k + 1, by omega, by go_num, BD4, HB4⟩, by simp [intOf]; omega⟩
      · have h0' : (t.kind == 0) = false := beq_eq_false_iff_ne.2 h0
        have hsg := may_sign hmk h0
        have hmm := may_many hmk
        have EP : Hid (prtT t = (List.replicate (max 1 t.many).toNat (sgnL t.kind)).flatten) := hide (by unfold prtT; rw [if_neg h0])
        obtain ⟨N, hN⟩ : ∃ N : Nat, max 1 t.many = (N : Int) := ⟨(max 1 t.many).toNat, by omega⟩
        have hN3 : N ≤ 3 := by omega
        rw [hN, Int.toNat_natCast] at EP
        obtain ⟨kd, nn, x⟩ := t
        simp only at c0 c1 c2 d0 d1 d2 TB HW2 h0' hsg hN EP ES hpk
        clear h0 hmk htz hmm
        obtain ⟨RP, hRP⟩ : ∃ RP, RP = prtT ⟨kd, nn, x⟩ := ⟨_, rfl⟩
        rw [← hRP] at EP ES hpk
        clear hRP
        have TW1 := hide (HT.out.below BW.out)
        have SG : Hid (∃ sg : ByteArray, w1.cell? ⟨0, kd.toNat, none⟩ = some (.string sg) ∧ bys sg = sgnL kd ∧ sg.size ≤ 3) := hide (by
          have hw := TW1.out
          rcases hsg with rfl | rfl | rfl | rfl | rfl
          · exact ⟨_, hw.s1, rfl, by decide⟩
          · exact ⟨_, hw.s2, rfl, by decide⟩
          · exact ⟨_, hw.s3, rfl, by decide⟩
          · exact ⟨_, hw.s4, rfl, by decide⟩
          · exact ⟨_, hw.s5, rfl, by decide⟩)
        obtain ⟨sg, hs0, hs2, hs3⟩ := SG.out
        have hs1 := cell_on HB2.out hs0
        have HS0 := hide hs0
        have hmul : sg.size * N ≤ 9 := Nat.mul_le_mul hs3 hN3
        have KP : Hid (∀ w', Below W2.heap.size W2 w' → (w'.cell? ⟨wr.heap.size, 0, none⟩ = some (.int .i64 kd) ∧ w'.cell? ⟨wr.heap.size, 1, none⟩ = some (.int .i64 nn)) ∧ w'.cell? ⟨0, kd.toNat, none⟩ = some (.string sg)) := hide (fun w' hb => ⟨⟨cell_on hb d0, cell_on hb d1⟩, cell_on hb hs1⟩)
        have C0 : Hid (∀ X, Hid (Below W2.heap.size W2 X) → Calls Tryd.prog 23 #[.string sg, .int .i64 (N : Int)] X fun x' w' => x' = .returned (.string (mkB RP)) ∧ Hid (Below W2.heap.size W2 w') ∧ (w'.cell? ⟨wr.heap.size, 0, none⟩ = some (.int .i64 kd) ∧ w'.cell? ⟨wr.heap.size, 1, none⟩ = some (.int .i64 nn)) ∧ w'.cell? ⟨0, kd.toNat, none⟩ = some (.string sg)) := hide (fun X hX => (Tryd.strings_Repeat sg N X (by omega) (by omega)).mono fun x' w' ⟨h1, h2⟩ => by
          have hb := hX.out.trans (h2.mono hX.out.size)
          have e : (⟨(Lib.repeatL sg.data.toList N).toArray⟩ : ByteArray) = mkB RP := by
            rw [rep_eq, EP.out]
            show mkB (List.replicate N (bys sg)).flatten = _
            rw [hs2]
          rw [e] at h1
          exact ⟨h1, hb, KP.out w' hb⟩)
        have C1 : Hid (∀ X, Hid (Below W2.heap.size W2 X) → Calls Tryd.prog 21 #[.pointer (some ⟨w1.heap.size, 0, none⟩), .string (mkB RP)] X fun x' w' => x' = .returned (.tuple #[.int .i64 (mkB RP).size, .nilIface]) ∧ Hid (Bd w' w1.heap.size (prtL (ts.take (k + 1))) ∧ Below w1.heap.size w1 w') ∧ (w'.cell? ⟨wr.heap.size, 0, none⟩ = some (.int .i64 kd) ∧ w'.cell? ⟨wr.heap.size, 1, none⟩ = some (.int .i64 nn)) ∧ w'.cell? ⟨0, kd.toNat, none⟩ = some (.string sg)) := hide (fun X hX => ((BD2.out.below hX.out).putK (mkB RP) (by rw [size_mkB]; omega)).mono fun x' w' ⟨h1, h2, h3, h4⟩ => by
          have q := h4 _ _ (TB.out.below hX.out TB.out.lt)
          rw [bys_mkB, ← ES.out] at h2
          exact ⟨h1, ⟨h2, (HB2.out.trans (hX.out.mono HB2.out.size)).trans h3⟩, ⟨q.cell 0, q.cell 1⟩, cell_on ((HB2.out.trans (hX.out.mono HB2.out.size)).trans h3) HS0.out⟩)
        have b0 : Hid (Below W2.heap.size W2 W2.drew) := hide (Below.refl _ _).drew
        have hk0 : (0 : Int) ≤ kd := by omega
        have hk6 : kd < 6 := by omega
        clear SG hs0 hs2 hs3 hmul KP EP ES hpk hN3 TB TW1 TW2 BD2 HB2 HS0 hsg BX
        go_wp2_with (simp only [HW2.out])
        have mk0 : True := trivial
        go_region_held3 (fun w' => (w'.cell? ⟨wr.heap.size, 0, none⟩ = some (.int .i64 kd) ∧ w'.cell? ⟨wr.heap.size, 1, none⟩ = some (.int .i64 nn)) ∧ w'.cell? ⟨0, kd.toNat, none⟩ = some (.string sg)) (go_keep) (first
          | (clear mk0; go_at_call 23; refine (C0.out _ b0).mono ?_; rintro x' z1 ⟨rfl, P1, ⟨t0, t1⟩, t2⟩; have mk1 : True := trivial)
          | (clear mk1; go_at_call 21; refine (C1.out _ P1).mono ?_; rintro x' z2 ⟨rfl, P2, ⟨t0, t1⟩, t2⟩; have mk2 : True := trivial))
        have BD4 := hide P2.out.1
        have HB4 := hide P2.out.2
        clear C0 C1 b0 P1 P2 mk2 t0 t1 t2 d0 d1 d2 hs1 c0 c1 c2
        go_wp2
        exact ⟨⟨k + 1, by omega, by go_num, BD4, HB4⟩, by simp [intOf]; omega⟩
    · obtain rfl : k = L := by omega
      have hlt' : ¬ (k : Int) < (k : Int) := by omega
      have e1 : ts.take k = ts := List.take_of_length_le (by rw [← HL.out]; exact Nat.le_refl _)
      have H1 := hide (Bd.str HBd.out)
      rw [e1, ← HP.out] at H1
      clear e1 hlt HBd
      go_wp2_with fail
      refine H1.out.mono ?_
      rintro e w2 ⟨rfl, hb⟩
      have HX := hide (BW.out.trans ((HB.out.trans hb).mono BW.out.size))
      clear hb H1
      go_wp2
      refine bodyPost_ret (results_tmp2 rfl _ _ _) rfl ?_
      exact ⟨rfl, HX.out⟩

set_option maxRecDepth 100000 in
set_option maxHeartbeats 1000000 in
theorem Print_bad (v : Value) (w : World) (C : Nat) (hC : C = 131 ∨ C = 132) (CK : Calls Tryd.prog 13 #[v] w fun e w' => e = .returned (.int .i64 (C : Int)) ∧ Below w.heap.size w w') :
    Calls Tryd.prog 9 #[v] w fun e w' => e = .returned (.tuple #[.string ⟨#[]⟩, .int .i64 (C : Int)]) ∧ Below w.heap.size w w' := by
  have HC := hide CK
  clear CK
  rcases hC with rfl | rfl
  all_goals
    go_enter Tryd.func9, Tryd.ntmps9
    go_wp2_with fail
    refine HC.out.mono ?_
    rintro e w1 ⟨rfl, hb⟩
    go_wp2
    refine bodyPost_ret (results_tmp2 rfl _ _ _) rfl ?_
    exact ⟨rfl, hb⟩

set_option maxRecDepth 100000 in
set_option maxHeartbeats 1000000 in
theorem Print_nil (ao : Option Addr) (cap : Nat) (w : World) :
    Calls Tryd.prog 9 #[.slice ao 0 cap] w fun e w' => e = .returned (.tuple #[.string ⟨#[]⟩, .int .i64 0]) ∧ Below w.heap.size w w' := by
  have HC := hide (Check_nil ao cap w)
  go_enter Tryd.func9, Tryd.ntmps9
  go_wp2_with fail
  refine HC.out.mono ?_
  rintro e w1 ⟨rfl, hb⟩
  have BW := hide hb
  have N1 := hide (Bd.new w1)
  have B1 : Hid (Below w1.heap.size w1 (w1.alloc (.cells #[.pointer none, .slice none 0 0] 43))) := hide ((Below.refl _ _).alloc (Nat.le_refl _) _)
  clear hb HC
  go_wp2
  go_loopw [15] (fun q wr => q = .int .i64 0 ∧ Hid (Bd wr w1.heap.size []) ∧ Hid (Below w1.heap.size w1 wr)) (fun q _ => 0)
  case atStart => exact ⟨rfl, N1, B1⟩
  case round =>
    obtain ⟨rfl, HBd, HB⟩ := hrel
    have H1 := hide (Bd.str HBd.out)
    go_wp2_with fail
    refine H1.out.mono ?_
    rintro e w2 ⟨rfl, hb⟩
    have HX := hide (BW.out.trans ((HB.out.trans hb).mono BW.out.size))
    clear hb H1
    go_wp2
    refine bodyPost_ret (results_tmp2 rfl _ _ _) rfl ?_
    exact ⟨rfl, HX.out⟩

theorem Print_any {w : World} {v : Value} {ts : List Tok} (h : TSl w v ts) (hl : ts.length ≤ 140737488355328) (hz : SzT ts) (hT : Wd w) :
    Calls Tryd.prog 9 #[v] w fun e w' => e = .returned (.tuple #[.string (mkB (printR ts).2), .int .i64 ((printR ts).1 : Int)]) ∧ Below w.heap.size w w' := by
  unfold printR
  by_cases hc : chkT ts = 0
  · rw [if_pos hc]
    obtain ⟨ao, cap, rfl, h2, h3⟩ := h
    rcases h3 with rfl | ⟨b, o, rfl, h3⟩
    · exact Print_nil ao cap w
    · exact Print_ok b o cap ts w hc h2 hT h3
  · rw [if_neg hc]
    have hci := chkT_is ts
    exact Print_bad v w (chkT ts) (by omega) (Check_any h hl hz hT.u8)

end Go.Proofs.YtobcbffakldfcaaDoor

namespace Go.Proofs.YtobcbffakldfcaaDoor
open Go.RowKit

def fxA : List Tok := [⟨0, 0, mkB [97, 39, 45]⟩, ⟨1, 0, ⟨#[]⟩⟩]
def fxB : List Tok := [⟨0, 0, mkB [48, 39]⟩, ⟨5, 2, ⟨#[]⟩⟩]
set_option maxRecDepth 100000 in
theorem fx_one : parseR [39, 97, 39, 39, 45, 39, 45] = (0, fxA) := by kernel_rfl
set_option maxRecDepth 100000 in
theorem fx_two : printR fxB = (0, [39, 48, 39, 39, 39, 194, 164, 194, 164]) := by kernel_rfl
set_option maxRecDepth 100000 in
theorem fx_three : parseR [39, 97] = (130, []) := by kernel_rfl

theorem TSl.lit2 (w : World) (a b : Tok) : TSl (w.alloc (.cells (cellsT [a, b]).toArray 32)) (.slice (some ⟨w.heap.size, 0, none⟩) 2 2) [a, b] :=
  TSl.of_blk (ts := [a, b]) (Blk.newAt w w.heap.size rfl _ _) 2 (Nat.le_refl _)

set_option maxRecDepth 100000 in
set_option maxHeartbeats 4000000 in
theorem fixed13_any (w : World) (hT : Wd w) : Calls Tryd.prog 18 #[] w fun e w' => e = .returned (.bool true) ∧ Below w.heap.size w w' := by
  have H1 := hide (Parse_any ⟨#[39, 97, 39, 39, 45, 39, 45]⟩ w (by decide) hT)
  rw [show bys ⟨#[39, 97, 39, 39, 45, 39, 45]⟩ = [39, 97, 39, 39, 45, 39, 45] from rfl, fx_one] at H1
  have HT := hide hT
  clear hT
  go_enter Tryd.func18, Tryd.ntmps18
  go_wp2_with fail
  refine H1.out.mono ?_
  rintro e w1 ⟨v, rfl, hp, hb1⟩
  have hp' : w1.ownsRow w.heap.size 32 3 v 2 (cellsT fxA) := hp
  obtain ⟨g, cap, rfl, hg0, hg1⟩ := own_some hp' (by decide)
  have P1 := hide hp'
  have B1 := hide hb1
  clear H1 hp hp' hb1
  have B2 : Hid (Below w1.heap.size w1 (w1.alloc (.cells (cellsT fxB).toArray 32))) := hide ((Below.refl _ _).alloc (Nat.le_refl _) _)
  have SZ : SzT fxB := fun i => Nat.le_trans (size_tok fxB i) (by decide)
  have H2 := hide (Print_any (TSl.lit2 w1 ⟨0, 0, mkB [48, 39]⟩ ⟨5, 2, ⟨#[]⟩⟩) (by decide) SZ (HT.out.below (B1.out.trans (B2.out.mono B1.out.size))))
  rw [show printR [⟨0, 0, mkB [48, 39]⟩, ⟨5, 2, ⟨#[]⟩⟩] = (0, [39, 48, 39, 39, 39, 194, 164, 194, 164]) from fx_two] at H2
  rw [show (cellsT [⟨0, 0, mkB [48, 39]⟩, ⟨5, 2, ⟨#[]⟩⟩]).toArray = #[.int .i64 0, .int .i64 0, .string ⟨#[48, 39]⟩, .int .i64 5, .int .i64 2, .string ⟨#[]⟩] from rfl] at H2
  rw [show (cellsT fxB).toArray = #[.int .i64 0, .int .i64 0, .string ⟨#[48, 39]⟩, .int .i64 5, .int .i64 2, .string ⟨#[]⟩] from rfl] at B2
  rw [show mkB ((0 : Nat), [39, 48, 39, 39, 39, 194, 164, 194, 164]).2 = ⟨#[39, 48, 39, 39, 39, 194, 164, 194, 164]⟩ from rfl] at H2
  clear SZ
  go_wp2_with fail
  refine H2.out.mono ?_
  rintro e w2 ⟨rfl, hb2⟩
  have B3 := hide (B2.out.trans (hb2.mono B2.out.size))
  have BW2 := hide (B1.out.trans (B3.out.mono B1.out.size))
  clear hb2 H2 B2
  have H3 := hide (Parse_any ⟨#[39, 97]⟩ w2 (by decide) (HT.out.below BW2.out))
  rw [show bys ⟨#[39, 97]⟩ = [39, 97] from rfl, fx_three] at H3
  go_wp2_with fail
  refine H3.out.mono ?_
  rintro e w3 ⟨v3, rfl, hp3, hb3⟩
  have P3 := hide (own_below P1.out (B3.out.trans (hb3.mono B3.out.size)))
  have BW3 := hide (BW2.out.trans (hb3.mono BW2.out.size))
  clear hp3 hb3 H3 P1 B1 B3 BW2
  have a0 : w3.cell? ⟨g, 0, none⟩ = some (.int .i64 0) := P3.out.cellAt 0 (by decide)
  have a1 : w3.cell? ⟨g, 1, none⟩ = some (.int .i64 0) := P3.out.cellAt 1 (by decide)
  have a2 : w3.cell? ⟨g, 2, none⟩ = some (.string ⟨#[97, 39, 45]⟩) := P3.out.cellAt 2 (by decide)
  have a3 : w3.cell? ⟨g, 3, none⟩ = some (.int .i64 1) := P3.out.cellAt 3 (by decide)
  have a4 : w3.cell? ⟨g, 4, none⟩ = some (.int .i64 0) := P3.out.cellAt 4 (by decide)
  have a5 : w3.cell? ⟨g, 5, none⟩ = some (.string ⟨#[]⟩) := P3.out.cellAt 5 (by decide)
  have HH : Hid (∀ X, Below w3.heap.size w3 X → Calls Tryd.prog 16 #[.slice (some ⟨g, 0, none⟩) 2 cap, .int .i64 1] X fun e w' => e = .returned (.bool true) ∧ Below X.heap.size X w') := hide (fun X hX => Has_any (ts := fxA) 1 (TSl.of_own (own_below P3.out hX)) (by decide))
  have HN : Hid (∀ X, Calls Tryd.prog 13 #[.slice none 0 0] X fun e w' => e = .returned (.int .i64 0) ∧ Below X.heap.size X w') := hide (fun X => Check_nil none 0 X)
  have HU : Hid (∀ X, Below w3.heap.size w3 X → Calls Tryd.prog 11 #[.slice (some ⟨g, 0, none⟩) 2 cap, .int .i64 1, .int .i64 2] X fun e w' => ∃ g', e = .returned (.slice (some ⟨g', 0, none⟩) 2 2) ∧ Below X.heap.size X w') := hide (fun X hX => (Turn_any (ts := fxA) 1 2 (TSl.of_own (own_below P3.out hX)) (by decide)).mono fun e w' ⟨g', h1, _, _, h2⟩ => ⟨g', h1, h2⟩)
  clear P3 HT
  go_wp2_with fail
  refine (HH.out w3 (Below.refl _ _)).mono ?_
  rintro e w4 ⟨rfl, hb4⟩
  have B4 := hide hb4
  clear hb4 HH
  go_wp2_with fail
  refine (HN.out w4).mono ?_
  rintro e w5 ⟨rfl, hb5⟩
  have B5 := hide (B4.out.trans (hb5.mono B4.out.size))
  clear hb5 HN B4
  have HU2 := hide (HU.out w5 B5.out)
  clear HU
  go_wp2_with fail
  refine HU2.out.mono ?_
  rintro e w6 ⟨g', rfl, hb6⟩
  have B6 := hide (BW3.out.trans ((B5.out.trans (hb6.mono B5.out.size)).mono BW3.out.size))
  clear hb6 HU2
  go_wp2
  go_ret
  exact ⟨rfl, B6.out⟩

end Go.Proofs.YtobcbffakldfcaaDoor

namespace Go.Proofs.YtobcbffakldfcaaDoor
open Go.RowKit

theorem tl_inj {x y : ByteArray} (h : x.toList = y.toList) : x = y := by
  rw [sl, sl] at h
  rw [← mkB_bys x, ← mkB_bys y, h]
theorem tok_eql (a b : Tok) (W : World) : (binOp .eql 32 (tokV a) (tokV b)).run Tryd.prog W = .ok (.bool (decide (a = b))) W := by
  obtain ⟨k, n, x⟩ := a
  obtain ⟨j, m, y⟩ := b
  unfold tokV
  by_cases h1 : k = j
  · by_cases h2 : n = m
    · by_cases h3 : x = y
      · subst h1; subst h2; subst h3
        simp [go_sem, Tryd.underlying32, Tryd.underlying3, Tryd.underlying9, Program.fieldsOf]
      · have h3' : ¬ x.toList = y.toList := fun e => h3 (tl_inj e)
        subst h1; subst h2
        simp [go_sem, Tryd.underlying32, Tryd.underlying3, Tryd.underlying9, Program.fieldsOf, h3, h3']
    · subst h1
      simp [go_sem, Tryd.underlying32, Tryd.underlying3, Tryd.underlying9, Program.fieldsOf, h2]
  · simp [go_sem, Tryd.underlying32, Tryd.underlying3, Tryd.underlying9, Program.fieldsOf, h1]
theorem tok_neq (a b : Tok) (W : World) : (binOp .neq 32 (tokV a) (tokV b)).run Tryd.prog W = .ok (.bool (!decide (a = b))) W := by
  have h := tok_eql a b W
  unfold tokV at *
  rw [run_eql_struct] at h
  rw [run_neq_struct]
  generalize (Op.equalIn 10000 32 (Value.agg #[Value.int IntKind.i64 a.kind, Value.int IntKind.i64 a.many, Value.string a.text]) (Value.agg #[Value.int IntKind.i64 b.kind, Value.int IntKind.i64 b.many, Value.string b.text])).run Tryd.prog W = R at *
  cases R with
  | ok v w' =>
    simp only [Result.andThen, Result.ok.injEq, Value.bool.injEq] at h ⊢
    exact ⟨by rw [h.1], h.2⟩
  | _ => simp [Result.andThen] at h

def sameT : List Tok → List Tok → Bool
  | [], [] => true
  | a :: l, b :: m => decide (a = b) && sameT l m
  | _, _ => false
theorem sameT_eq : ∀ a b : List Tok, sameT a b = decide (a = b)
  | [], [] => rfl
  | [], _ :: _ => by simp [sameT]
  | _ :: _, [] => by simp [sameT]
  | a :: l, b :: m => by
    rw [sameT, sameT_eq l m]
    by_cases h : a = b <;> by_cases k : l = m <;> simp [h, k]

set_option maxRecDepth 100000 in
set_option maxHeartbeats 2000000 in
theorem Same_at (b o cap b' o' cap' : Nat) (ts us : List Tok) (w : World) (hl : ts.length ≤ 140737488355328) (hc : ts.length ≤ cap) (hc' : us.length ≤ cap') (he : ts.length = us.length) (hA : TkAt w b o ts) (hB : TkAt w b' o' us) :
    Calls Tryd.prog 15 #[.slice (some ⟨b, o, none⟩) ts.length cap, .slice (some ⟨b', o', none⟩) us.length cap'] w fun e w' => e = .returned (.bool (decide (ts = us))) ∧ Below w.heap.size w w' := by
  rw [← sameT_eq]
  have HA := hide hA
  have HB := hide hB
  have HE := hide he
  rw [← he] at hc' ⊢
  obtain ⟨L, hL⟩ : ∃ L, L = ts.length := ⟨_, rfl⟩
  rw [← hL] at hl hc hc' ⊢
  have HL := hide hL
  obtain ⟨R, hR⟩ : ∃ R, R = sameT ts us := ⟨_, rfl⟩
  rw [← hR]
  have HR := hide hR
  clear hR hL he hA hB
  go_enter Tryd.func15, Tryd.ntmps15
  go_wp2
  go_loopw [5] (fun q wr => ∃ k : Nat, k ≤ L ∧ q = .int .i64 (k : Int) ∧ Hid (sameT (ts.drop k) (us.drop k) = R) ∧ Hid (Below w.heap.size w wr)) (fun q _ => L - (intOf q).toNat)
  case atStart => exact ⟨0, Nat.zero_le _, rfl, hide (by rw [HR.out, List.drop_zero, List.drop_zero]), Below.refl _ _⟩
  case round =>
    obtain ⟨k, hk, rfl, HF, HW⟩ := hrel
    by_cases hlt : k < L
    · have hlt' : (k : Int) < (L : Int) := by omega
      have hkt : k < ts.length := by rw [← HL.out]; exact hlt
      have hku : k < us.length := by rw [← HE.out]; exact hkt
      obtain ⟨c0, c1, c2⟩ := (HA.out.below HW.out) k hkt
      obtain ⟨d0, d1, d2⟩ := (HB.out.below HW.out) k hku
      have e1 := HF.out
      rw [tokN_drop hkt, tokN_drop hku, sameT] at e1
      have E1 := hide e1
      have NQ : Hid (∀ W, (binOp .neq 32 (tokV (tokN ts k)) (tokV (tokN us k))).run Tryd.prog W = .ok (.bool (!decide (tokN ts k = tokN us k))) W) := hide (fun W => tok_neq _ _ W)
      generalize decide (tokN ts k = tokN us k) = Q at *
      generalize tokN ts k = t at *
      generalize tokN us k = u at *
      unfold tokV at NQ
      have nq := NQ.out
      clear HF e1 hkt hku NQ
      go_wp2_with fail
      go_region
      have HN := hide HW.out.drew
      cases Q
      · have E2 : Hid (R = false) := hide (by rw [← E1.out]; rfl)
        clear E1
        go_wp2
        go_ret
        exact ⟨by first | (rw [E2.out]; done) | (rw [E2.out]; rfl), HN.out⟩
      · have E2 : Hid (sameT (ts.drop (k + 1)) (us.drop (k + 1)) = R) := hide (by rw [← E1.out]; rfl)
        clear E1
        go_wp2
        exact ⟨⟨k + 1, by omega, by go_num, E2, HN⟩, by simp [intOf]; omega⟩
    · obtain rfl : k = L := by omega
      have hlt' : ¬ (k : Int) < (k : Int) := by omega
      have ER : Hid (R = true) := hide (by rw [← HF.out, List.drop_eq_nil_of_le (by rw [← HL.out]; exact Nat.le_refl _), List.drop_eq_nil_of_le (by rw [← HE.out, ← HL.out]; exact Nat.le_refl _)]; rfl)
      clear HF hlt
      go_wp2
      go_ret
      exact ⟨by first | (rw [ER.out]; done) | (rw [ER.out]; rfl), HW.out⟩

set_option maxHeartbeats 1000000 in
theorem Same_len (ao ao' : Option Addr) (n m cap cap' : Nat) (w : World) (hn : n ≠ m) :
    Calls Tryd.prog 15 #[.slice ao n cap, .slice ao' m cap'] w fun e w' => e = .returned (.bool false) ∧ Below w.heap.size w w' := by
  have hn' : ((n : Int) == (m : Int)) = false := beq_eq_false_iff_ne.2 (by omega)
  have hn2 : ((n : Int) != (m : Int)) = true := by rw [bne, hn']; rfl
  have hn3 : ¬ (n : Int) = (m : Int) := by omega
  go_enter Tryd.func15, Tryd.ntmps15
  go_wp2
  go_ret
  exact ⟨rfl, Below.refl _ _⟩
set_option maxHeartbeats 1000000 in
theorem Same_nil (ao ao' : Option Addr) (cap cap' : Nat) (w : World) :
    Calls Tryd.prog 15 #[.slice ao 0 cap, .slice ao' 0 cap'] w fun e w' => e = .returned (.bool true) ∧ Below w.heap.size w w' := by
  go_enter Tryd.func15, Tryd.ntmps15
  go_wp2
  go_loopw [5] (fun q wr => q = .int .i64 0 ∧ wr = w) (fun q _ => 0)
  case atStart => exact ⟨rfl, rfl⟩
  case round =>
    obtain ⟨rfl, rfl⟩ := hrel
    go_wp2
    go_ret
    exact ⟨rfl, Below.refl _ _⟩

theorem Same_any {w : World} {v v' : Value} {ts us : List Tok} (h : TSl w v ts) (h' : TSl w v' us) (hl : ts.length ≤ 140737488355328) :
    Calls Tryd.prog 15 #[v, v'] w fun e w' => e = .returned (.bool (decide (ts = us))) ∧ Below w.heap.size w w' := by
  obtain ⟨ao, cap, rfl, h2, h3⟩ := h
  obtain ⟨ao', cap', rfl, h2', h3'⟩ := h'
  by_cases hn : ts.length = us.length
  · rcases h3 with rfl | ⟨b, o, rfl, h3⟩
    · have hu : us = [] := List.eq_nil_of_length_eq_zero hn.symm
      subst hu
      exact Same_nil ao ao' cap cap' w
    · rcases h3' with rfl | ⟨b', o', rfl, h3'⟩
      · have hu : ts = [] := List.eq_nil_of_length_eq_zero hn
        subst hu
        exact Same_nil _ ao' cap cap' w
      · exact Same_at b o cap b' o' cap' ts us w hl h2 h2' hn h3 h3'
  · have : decide (ts = us) = false := decide_eq_false (fun e => hn (by rw [e]))
    rw [this]
    exact Same_len ao ao' _ _ cap cap' w hn

end Go.Proofs.YtobcbffakldfcaaDoor
