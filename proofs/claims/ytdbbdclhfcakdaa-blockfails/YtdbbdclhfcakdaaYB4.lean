/-
  Plain mathematics: what Load tells of a disk whose reads tell the bytes of a list; where it stops.
  Plain mathematics: an image's head and body; one bit of an image turned.
  BlockBack answers true.
-/
import Derived.Test.YtdbbdclhfcakdaaYB2
namespace Go.Proofs.Ytdbbdclhfcakdaa
open Go.RowKit

def Vir (img : ByteArray) (fs : List Flt) (L : List UInt8) (m : Nat) : Prop := ∀ j, j < m → 64 * j < img.size → readT img fs j ((64 * j : Nat) : Int) ((min 64 (img.size - 64 * j) : Nat) : Int) = (⟨((L.drop (64 * j)).take 64).toArray⟩, 0, j + 1)

section
variable {img : ByteArray} {fs : List Flt} {L : List UInt8} {m e : Nat}

theorem take_block (L : List UInt8) (k : Nat) : L.take (64 * k) ++ (L.drop (64 * k)).take 64 = L.take (64 * (k + 1)) := by
  rw [show 64 * (k + 1) = 64 * k + 64 by omega, List.take_add]

theorem onT_vir (hL : L.length = img.size) (hv : Vir img fs L m) (he : e ≤ img.size) (hm : (e + 63) / 64 ≤ m) : ∀ f k, e ≤ f + 64 * k → k ≤ (e + 63) / 64 → onT img fs e f (L.take (64 * k)) k = (L.take (64 * ((e + 63) / 64)), 0, (e + 63) / 64)
  | 0, k, h1, h2 => by
    obtain rfl : k = (e + 63) / 64 := by omega
    rfl
  | f + 1, k, h1, h2 => by
    have hlen : (L.take (64 * k)).length = min (64 * k) img.size := by rw [List.length_take, hL]
    simp only [onT]
    by_cases hlt : 64 * k < e
    · have hl2 : (L.take (64 * k)).length = 64 * k := by omega
      rw [if_pos (by omega), hl2, hv k (by omega) (by omega)]
      dsimp only
      rw [if_neg (by simp), if_neg (by rw [size_mkL, List.length_take, List.length_drop]; omega), bys_mkL ((L.drop (64 * k)).take 64), take_block]
      exact onT_vir hL hv he hm f (k + 1) (by omega) (by omega)
    · rw [if_neg (by omega)]
      obtain rfl : k = (e + 63) / 64 := by omega
      rfl

theorem onT_stop {q : Nat} {t : ByteArray} {er : Int} (hL : L.length = img.size) (hv : Vir img fs L q) (he : e ≤ img.size) (hq : 64 * q < e)
    (hr : readT img fs q ((64 * q : Nat) : Int) ((min 64 (img.size - 64 * q) : Nat) : Int) = (t, er, q + 1)) (hs : er ≠ 0 ∨ t.size < min 64 (img.size - 64 * q)) :
    ∀ f k, e ≤ f + 64 * k → k ≤ q → onT img fs e f (L.take (64 * k)) k = ([], if er ≠ 0 then er else 101, q + 1)
  | 0, k, h1, h2 => by omega
  | f + 1, k, h1, h2 => by
    have hlen : (L.take (64 * k)).length = min (64 * k) img.size := by rw [List.length_take, hL]
    have hl2 : (L.take (64 * k)).length = 64 * k := by omega
    simp only [onT]
    rw [if_pos (by omega), hl2]
    by_cases hk : k = q
    · subst hk
      rw [hr]
      dsimp only
      by_cases h0 : er ≠ 0
      · rw [if_pos h0, if_pos h0]
      · rw [if_neg h0, if_neg h0, if_pos (by rcases hs with h | h; exact absurd h h0; exact h)]
    · rw [hv k (by omega) (by omega)]
      dsimp only
      rw [if_neg (by simp), if_neg (by rw [size_mkL, List.length_take, List.length_drop]; omega), bys_mkL ((L.drop (64 * k)).take 64), take_block]
      exact onT_stop hL hv he hq hr hs f (k + 1) (by omega) (by omega)

theorem take_take16 (L : List UInt8) : (L.take (64 * 1)).take 16 = L.take 16 := by rw [List.take_take]; rfl

theorem load_first (hL : L.length = img.size) (hv : Vir img fs L m) (h16 : 16 ≤ img.size) (hm : 1 ≤ m) : onT img fs 16 16 [] 0 = (L.take (64 * 1), 0, 1) := by
  have := onT_vir (e := 16) hL hv h16 (by omega) 16 0 (by omega) (by omega)
  rw [Nat.mul_zero, List.take_zero] at this
  exact this

theorem load_head (hL : L.length = img.size) (hv : Vir img fs L m) (h16 : 16 ≤ img.size) (hm : 1 ≤ m) (hh : headOk (L.take 16) = false) : loadT img fs 0 = (⟨#[]⟩, 105, 1) := by
  unfold loadT
  rw [if_neg (by omega), load_first hL hv h16 hm]
  unfold loadB
  dsimp only
  rw [if_neg (by simp), if_pos (by rw [take_take16]; exact hh)]

theorem load_body {n : Nat} (hL : L.length = img.size) (hv : Vir img fs L m) (h16 : 16 ≤ img.size) (hm : (79 + n) / 64 ≤ m) (hh : headOk (L.take 16) = true) (hn : valL ((L.take 16).drop 4) = n) (h65 : n ≤ 65536) (hsz : 16 + n ≤ img.size) :
    loadT img fs 0 = if crc ((L.take (16 + n)).drop 16) = valL ((L.take 16).drop 8) then (⟨((L.take (16 + n)).drop 16).toArray⟩, 0, (79 + n) / 64) else (⟨#[]⟩, 104, (79 + n) / 64) := by
  have hm1 : 1 ≤ m := by omega
  have hB := onT_vir (e := 16 + n) hL hv hsz (by omega) (16 + n) 1 (by omega) (by omega)
  rw [show (16 + n + 63) / 64 = (79 + n) / 64 by omega] at hB
  unfold loadT lenT
  rw [if_neg (by omega), load_first hL hv h16 hm1]
  dsimp only
  rw [take_take16, hn, hB]
  unfold loadB
  dsimp only
  rw [if_neg (by simp), take_take16, if_neg (by rw [hh]; simp), if_neg (by omega), if_neg (by simp), List.take_take, Nat.min_eq_left (by omega)]
  by_cases hq : crc ((L.take (16 + n)).drop 16) = valL ((L.take 16).drop 8)
  · rw [if_neg (by simp [hq]), if_pos hq]
  · rw [if_pos hq, if_neg hq]

theorem load_stop0 {t : ByteArray} {er : Int} (hL : L.length = img.size) (h16 : 16 ≤ img.size) (hr : readT img fs 0 ((64 * 0 : Nat) : Int) ((min 64 (img.size - 64 * 0) : Nat) : Int) = (t, er, 0 + 1)) (hs : er ≠ 0 ∨ t.size < min 64 (img.size - 64 * 0)) :
    loadT img fs 0 = (⟨#[]⟩, if er ≠ 0 then er else 101, 1) := by
  have h := onT_stop (e := 16) (q := 0) hL (fun j hj => by omega) h16 (by omega) hr hs 16 0 (by omega) (by omega)
  rw [Nat.mul_zero, List.take_zero] at h
  unfold loadT
  rw [if_neg (by omega), h]
  unfold loadB
  dsimp only
  rw [if_pos (by split <;> first | assumption | decide)]

theorem load_stop {n q : Nat} {t : ByteArray} {er : Int} (hL : L.length = img.size) (hv : Vir img fs L q) (h16 : 16 ≤ img.size) (hq : 1 ≤ q) (hh : headOk (L.take 16) = true) (hn : valL ((L.take 16).drop 4) = n) (h65 : n ≤ 65536) (hsz : 16 + n ≤ img.size) (hqn : 64 * q < 16 + n)
    (hr : readT img fs q ((64 * q : Nat) : Int) ((min 64 (img.size - 64 * q) : Nat) : Int) = (t, er, q + 1)) (hs : er ≠ 0 ∨ t.size < min 64 (img.size - 64 * q)) :
    loadT img fs 0 = (⟨#[]⟩, if er ≠ 0 then er else 101, q + 1) := by
  have hB := onT_stop (e := 16 + n) hL hv hsz hqn hr hs (16 + n) 1 (by omega) hq
  unfold loadT lenT
  rw [if_neg (by omega), load_first hL hv h16 hq]
  dsimp only
  rw [take_take16, hn, hB]
  unfold loadB
  dsimp only
  rw [if_neg (by simp), take_take16, if_neg (by rw [hh]; simp), if_neg (by omega), if_pos (by split <;> first | assumption | decide)]
end

theorem bys_extB (t : ByteArray) (i j : Nat) : bys (t.extract i j) = ((bys t).take j).drop i := by
  unfold bys
  rw [ByteArray.data_extract]
  simp [List.extract_eq_take_drop, List.drop_take]

theorem read_plain (img : ByteArray) (fs : List Flt) (j : Nat) (h : 64 * j < img.size) : readT img fs j ((64 * j : Nat) : Int) ((min 64 (img.size - 64 * j) : Nat) : Int) = ((chg (findF fs (j : Int)) ⟨(((bys img).drop (64 * j)).take 64).toArray⟩).1, (chg (findF fs (j : Int)) ⟨(((bys img).drop (64 * j)).take 64).toArray⟩).2, j + 1) := by
  have e : img.extract (64 * j) (64 * j + min 64 (img.size - 64 * j)) = ⟨(((bys img).drop (64 * j)).take 64).toArray⟩ := by
    rw [← mk_bysB (img.extract (64 * j) (64 * j + min 64 (img.size - 64 * j))), bys_extB]
    congr 2
    rw [List.drop_take, show 64 * j + min 64 (img.size - 64 * j) - 64 * j = min 64 (img.size - 64 * j) by omega]
    by_cases g : 64 ≤ img.size - 64 * j
    · rw [Nat.min_eq_left g]
    · rw [Nat.min_eq_right (by omega), List.take_of_length_le (by rw [List.length_drop, bys_len]; omega), List.take_of_length_le (by rw [List.length_drop, bys_len]; omega)]
  unfold readT
  rw [if_pos (show hasT img.size ((64 * j : Nat) : Int) ((min 64 (img.size - 64 * j) : Nat) : Int) = true from decide_eq_true (by omega)), Int.toNat_natCast, Int.toNat_natCast, e]

theorem chg_zero (s : ByteArray) : chg Flt.zero s = (s, 0) := by
  unfold chg Flt.zero
  rw [if_neg (by decide), if_neg (by decide), if_neg (by decide)]

theorem vir_free {img : ByteArray} {fs : List Flt} {m : Nat} (h : ∀ j, j < m → findF fs ((j : Nat) : Int) = Flt.zero) : Vir img fs (bys img) m := by
  intro j hj hs
  rw [read_plain img fs j hs, h j hj, chg_zero]

theorem vir_none (img : ByteArray) (m : Nat) : Vir img [] (bys img) m := vir_free (fun _ _ => rfl)

theorem flip_out (l : List UInt8) (p k j : Nat) (h : p < 64 * j ∨ 64 * j + 64 ≤ p) : ((flipB l p k).drop (64 * j)).take 64 = (l.drop (64 * j)).take 64 := by
  apply List.ext_getElem?
  intro i
  unfold flipB
  rw [List.getElem?_take, List.getElem?_take, List.getElem?_drop, List.getElem?_drop]
  by_cases hi : i < 64
  · rw [if_pos hi, if_pos hi, List.getElem?_set_ne (by omega)]
  · rw [if_neg hi, if_neg hi]

theorem flip_in (l : List UInt8) (p k j i : Nat) (hi : i < 64) (hp : p = 64 * j + i) : flipB ((l.drop (64 * j)).take 64) i k = ((flipB l p k).drop (64 * j)).take 64 := by
  have hb : byt ((l.drop (64 * j)).take 64) i = byt l p := by rw [byt_take _ hi, byt_drop, hp]
  apply List.ext_getElem?
  intro x
  unfold flipB
  rw [hb, List.getElem?_take, List.getElem?_drop, List.getElem?_set, List.getElem?_set, List.getElem?_take, List.getElem?_drop, List.length_take, List.length_drop]
  by_cases hx : x < 64
  · rw [if_pos hx, if_pos hx]
    by_cases hix : i = x
    · subst hix
      rw [if_pos rfl, if_pos hp]
      by_cases hl : p < l.length
      · rw [if_pos (by omega), if_pos (by omega)]
      · rw [if_neg (by omega), if_neg (by omega)]
    · rw [if_neg hix, if_neg (by omega)]
  · rw [if_neg hx, if_neg hx]
    rw [if_neg (by omega)]

theorem vir_flip {img : ByteArray} {p k m : Nat} (hp : p < img.size) : Vir img [⟨((p / 64 : Nat) : Int), 3, ((p % 64 : Nat) : Int), (k : Int)⟩] (flipB (bys img) p k) m := by
  intro j hj hs
  rw [read_plain img _ j hs]
  by_cases hq : p / 64 = j
  · have e : findF [⟨((p / 64 : Nat) : Int), 3, ((p % 64 : Nat) : Int), (k : Int)⟩] (j : Int) = ⟨((p / 64 : Nat) : Int), 3, ((p % 64 : Nat) : Int), (k : Int)⟩ := by
      simp only [findF]; rw [if_pos (by rw [hq])]
    rw [e]
    unfold chg
    rw [if_neg (show ¬ (3 : Int) = 1 by decide), if_neg (show ¬ (3 : Int) = 2 by decide), if_pos rfl]
    dsimp only
    rw [size_mkL, bys_mkL (((bys img).drop (64 * j)).take 64), Int.toNat_natCast]
    have hsz : (((bys img).drop (64 * j)).take 64).length = min 64 (img.size - 64 * j) := by rw [List.length_take, List.length_drop, bys_len]
    have ht : (((p % 64 : Nat) : Int).tmod ((((bys img).drop (64 * j)).take 64).length : Int)).toNat = p % 64 := by
      rw [hsz, Int.tmod_eq_of_lt (Int.natCast_nonneg _) (by omega), Int.toNat_natCast]
    rw [ht, flip_in (bys img) p k j (p % 64) (by omega) (by omega)]
  · have e : findF [⟨((p / 64 : Nat) : Int), 3, ((p % 64 : Nat) : Int), (k : Int)⟩] (j : Int) = Flt.zero := by
      simp only [findF]; rw [if_neg (by omega)]
    rw [e, chg_zero, flip_out _ _ _ _ (by omega)]

end Go.Proofs.Ytdbbdclhfcakdaa

namespace Go.Proofs.Ytdbbdclhfcakdaa
open Go.RowKit

theorem four_len (n : Nat) : (fourL n).length = 4 := rfl
theorem front_len (b : List UInt8) : (frontL b).length = 12 := rfl
theorem seal_len (b : List UInt8) : (sealL b).length = 16 + b.length := by
  unfold sealL
  rw [List.length_append, List.length_append, front_len, four_len]

theorem valL_app {n : Nat} (h : n < 4294967296) (r : List UInt8) : valL (fourL n ++ r) = n := by
  have e : valL (fourL n ++ r) = valL (fourL n) := rfl
  rw [e, val_four h]

def headL (b : List UInt8) : List UInt8 := frontL b ++ fourL (crc (frontL b))
theorem headL_len (b : List UInt8) : (headL b).length = 16 := rfl
theorem seal_head (b x : List UInt8) : (sealL b ++ x).take 16 = headL b := by
  unfold sealL
  rw [List.append_assoc]
  exact List.take_left' (headL_len b)
theorem head_mark (b : List UInt8) : (headL b).take 4 = markL := rfl
theorem head_sum (b : List UInt8) : valL ((headL b).drop 12) = crc ((headL b).take 12) := by
  have e1 : (headL b).drop 12 = fourL (crc (frontL b)) := List.drop_left' (front_len b)
  have e2 : (headL b).take 12 = frontL b := List.take_left' (front_len b)
  rw [e1, e2, val_four (crc_lt _)]
theorem head_ok (b : List UInt8) : headOk (headL b) = true := by
  unfold headOk
  rw [head_mark, head_sum]
  simp
theorem head_length {b : List UInt8} (h : b.length < 4294967296) : valL ((headL b).drop 4) = b.length := valL_app h _
theorem head_crc (b : List UInt8) : valL ((headL b).drop 8) = crc b := valL_app (crc_lt b) _

theorem seal_body (b x : List UInt8) : ((sealL b ++ x).take (16 + b.length)).drop 16 = b := by
  rw [show (sealL b ++ x).take (16 + b.length) = sealL b from List.take_left' (seal_len b)]
  exact List.drop_left' (headL_len b)

theorem load_seal {img : ByteArray} {fs : List Flt} {b x : List UInt8} {m : Nat} (hb : b.length ≤ 65536) (hi : bys img = sealL b ++ x) (hv : Vir img fs (bys img) m) (hm : (79 + b.length) / 64 ≤ m) : loadT img fs 0 = (⟨b.toArray⟩, 0, (79 + b.length) / 64) := by
  have hlen : img.size = 16 + b.length + x.length := by rw [← bys_len, hi, List.length_append, seal_len]
  have h := load_body (L := bys img) (n := b.length) (bys_len img) hv (by omega) hm (by rw [hi, seal_head]; exact head_ok b) (by rw [hi, seal_head]; exact head_length (by omega)) hb (by omega)
  rw [h, hi, seal_head, seal_body, head_crc, if_pos rfl]

theorem xor_ne (a k : Nat) : a ^^^ 2 ^ k ≠ a := by
  intro h
  have h2 := congrArg (a ^^^ ·) h
  simp only [← Nat.xor_assoc, Nat.xor_self, Nat.zero_xor] at h2
  have := Nat.pow_pos (n := k) (show 0 < 2 by decide)
  omega

theorem flip_len (l : List UInt8) (p k : Nat) : (flipB l p k).length = l.length := by unfold flipB; rw [List.length_set]
theorem flip_at {l : List UInt8} {p k : Nat} (hp : p < l.length) (hk : k ≤ 7) : byt (flipB l p k) p ≠ byt l p := by
  have h2 : 2 ^ k < 256 := Nat.lt_of_le_of_lt (Nat.pow_le_pow_right (by decide) hk) (by decide)
  have e : byt (flipB l p k) p = byt l p ^^^ 2 ^ k := by
    unfold flipB
    rw [show byt (l.set p (UInt8.ofNat (byt l p ^^^ 2 ^ k))) p = (UInt8.ofNat (byt l p ^^^ 2 ^ k)).toNat by
      unfold byt; rw [List.getElem?_set_self hp]; rfl]
    rw [UInt8.toNat_ofNat']
    exact Nat.mod_eq_of_lt (Nat.xor_lt_two_pow (n := 8) (byt_lt _ _) h2)
  rw [e]
  exact xor_ne _ _
theorem flip_off (l : List UInt8) {p k i : Nat} (h : i ≠ p) : byt (flipB l p k) i = byt l i := by
  unfold flipB
  show ((l.set p _)[i]?.map UInt8.toNat).getD 0 = _
  rw [List.getElem?_set_ne (fun e => h e.symm)]
  rfl
theorem flip_take (l : List UInt8) {p k n : Nat} (h : n ≤ p) : (flipB l p k).take n = l.take n := by
  unfold flipB
  exact List.take_set_of_le h

theorem valL_ne {l m : List UInt8} {i : Nat} (hi : i < 4) (h : byt l i ≠ byt m i) : valL l ≠ valL m := by
  intro e
  unfold valL at e
  have a0 := byt_lt l 0
  have a1 := byt_lt l 1
  have a2 := byt_lt l 2
  have a3 := byt_lt l 3
  have b0 := byt_lt m 0
  have b1 := byt_lt m 1
  have b2 := byt_lt m 2
  have b3 := byt_lt m 3
  match i, hi with
  | 0, _ => omega
  | 1, _ => omega
  | 2, _ => omega
  | 3, _ => omega

theorem valL_eq {l m : List UInt8} (h : ∀ i, i < 4 → byt l i = byt m i) : valL l = valL m := by
  unfold valL
  rw [h 0 (by decide), h 1 (by decide), h 2 (by decide), h 3 (by decide)]

theorem head_turned (b : List UInt8) {p k : Nat} (hp : p < 16) (hk : k ≤ 7) : headOk ((flipB (sealL b) p k).take 16) = false := by
  have hs : (sealL b).take 16 = headL b := by have := seal_head b []; rwa [List.append_nil] at this
  have hl := seal_len b
  have hat := flip_at (l := sealL b) (p := p) (k := k) (by omega) hk
  have hb16 : ∀ i, i < 16 → byt (sealL b) i = byt (headL b) i := fun i hi => by rw [← hs, byt_take _ hi]
  unfold headOk
  rw [List.take_take, List.take_take, show min 4 16 = 4 from rfl, show min 12 16 = 12 from rfl]
  have hd : ∀ i, i < 4 → byt (((flipB (sealL b) p k).take 16).drop 12) i = byt (flipB (sealL b) p k) (12 + i) := fun i hi => by rw [byt_drop, byt_take _ (by omega)]
  have hd2 : ∀ i, i < 4 → byt ((headL b).drop 12) i = byt (sealL b) (12 + i) := fun i hi => by rw [byt_drop, hb16 _ (by omega)]
  by_cases h4 : p < 4
  · have hne : (flipB (sealL b) p k).take 4 ≠ markL := by
      intro e
      have h1 : byt ((flipB (sealL b) p k).take 4) p = byt markL p := by rw [e]
      rw [byt_take _ h4] at h1
      have h2 : byt (sealL b) p = byt markL p := by rw [← head_mark b, byt_take _ h4]; exact hb16 p hp
      exact hat (h1.trans h2.symm)
    rw [beq_eq_false_iff_ne.2 hne]
    rfl
  · have hne : valL (((flipB (sealL b) p k).take 16).drop 12) ≠ crc ((flipB (sealL b) p k).take 12) := by
      by_cases h12 : p < 12
      · have e1 : valL (((flipB (sealL b) p k).take 16).drop 12) = valL ((headL b).drop 12) := valL_eq (fun i hi => by rw [hd i hi, hd2 i hi, flip_off _ (by omega)])
        rw [e1, head_sum]
        refine crc_parts (p := p) ?_ ?_ ?_ ?_
        · rw [List.length_take, List.length_take, flip_len, headL_len]; omega
        · rw [byt_take _ h12, byt_take _ h12, ← hb16 p hp]; exact fun e => hat e.symm
        · rw [List.length_take, headL_len]; omega
        · intro i hi
          by_cases h : i < 12
          · rw [byt_take _ h, byt_take _ h, flip_off _ hi, hb16 i (by omega)]
          · have z : ∀ l : List UInt8, byt (l.take 12) i = 0 := fun l => by unfold byt; rw [List.getElem?_eq_none (by rw [List.length_take]; omega)]; rfl
            rw [z, z]
      · have e2 : (flipB (sealL b) p k).take 12 = (headL b).take 12 := by rw [flip_take _ (by omega), ← hs, List.take_take]; rfl
        rw [e2, ← head_sum]
        refine valL_ne (i := p - 12) (by omega) ?_
        rw [hd _ (by omega), hd2 _ (by omega), show 12 + (p - 12) = p by omega]
        exact hat
    rw [beq_eq_false_iff_ne.2 hne]
    exact Bool.and_false _

theorem load_turned {img : ByteArray} {fs : List Flt} {b : List UInt8} {p k : Nat} (hb : b.length ≤ 65536) (hi : img.size = 16 + b.length) (hp : p < 16 + b.length) (hk : k ≤ 7) (hv : Vir img fs (flipB (sealL b) p k) ((79 + b.length) / 64)) :
    (loadT img fs 0).1 = ⟨#[]⟩ ∧ (loadT img fs 0).2.1 = if p < 16 then 105 else 104 := by
  have hlen : (flipB (sealL b) p k).length = img.size := by rw [flip_len, seal_len, hi]
  by_cases h16 : p < 16
  · rw [load_head hlen hv (by omega) (by omega) (head_turned b h16 hk), if_pos h16]
    exact ⟨rfl, rfl⟩
  · have ht : (flipB (sealL b) p k).take 16 = headL b := by
      rw [flip_take _ (by omega)]
      have := seal_head b []; rwa [List.append_nil] at this
    have h := load_body (n := b.length) hlen hv (by omega) (Nat.le_refl _) (by rw [ht]; exact head_ok b) (by rw [ht]; exact head_length (by omega)) hb (by omega)
    have hbd : ((sealL b).take (16 + b.length)).drop 16 = b := by have := seal_body b []; rwa [List.append_nil] at this
    have hne : crc (((flipB (sealL b) p k).take (16 + b.length)).drop 16) ≠ valL (((flipB (sealL b) p k).take 16).drop 8) := by
      rw [ht, head_crc]
      conv => rhs; rw [← hbd]
      have hbb : ∀ (l : List UInt8) i, i < b.length → byt ((l.take (16 + b.length)).drop 16) i = byt l (16 + i) := fun l i hi => by rw [byt_drop, byt_take _ (by omega)]
      refine crc_parts (p := p - 16) ?_ ?_ ?_ ?_
      · rw [List.length_drop, List.length_drop, List.length_take, List.length_take, flip_len]
      · rw [hbb _ _ (by omega), hbb _ _ (by omega), show 16 + (p - 16) = p by omega]
        exact flip_at (by rw [seal_len]; omega) hk
      · rw [List.length_drop, List.length_take, flip_len, seal_len]; omega
      · intro i hi2
        by_cases h : i < b.length
        · rw [hbb _ _ h, hbb _ _ h, flip_off _ (by omega)]
        · have z : ∀ l : List UInt8, byt ((l.take (16 + b.length)).drop 16) i = 0 := fun l => by unfold byt; rw [List.getElem?_eq_none (by rw [List.length_drop, List.length_take]; omega)]; rfl
          rw [z, z]
    rw [h, if_neg hne, if_neg h16]
    exact ⟨rfl, rfl⟩

end Go.Proofs.Ytdbbdclhfcakdaa

namespace Go.Proofs.Ytdbbdclhfcakdaa
open Go.RowKit

theorem nil_arg (w : World) : FArg w (.slice none 0 0) [] := ⟨⟨none, 0, rfl, Nat.le_refl _, .inl rfl⟩, fun l c e => by simp at e; omega⟩

theorem New_load {w : World} {v : Value} {fs : List Flt} (img : ByteArray) (hi : img.size ≤ 65552) (h : FArg w v fs) (hm : mayAllF fs = true) : Calls Try.prog 15 #[.string img, v] w fun e w' => ∃ D, e = .returned (.tuple #[.pointer (some ⟨D, 0, none⟩), .int .i64 0]) ∧ (w.heap.size ≤ D ∧ D < w'.heap.size ∧ ∃ u, Dsk 60 w' D u img fs 0 ∧ Low u w'.heap.size ∧ ∀ E, E < w.heap.size → Off u E) ∧ Below w.heap.size w w' := by
  refine (New_ok img hi h hm).mono ?_
  rintro e w' ⟨D, u, rfl, hD, hds, hu, hb⟩
  exact ⟨D, rfl, ⟨hD, hds.blk.lt, u, hds, fun b o l c e => (hu b o l c e).2, fun E hE b o l c e => by have := (hu b o l c e).1; omega⟩, hb⟩

set_option maxRecDepth 100000 in
set_option maxHeartbeats 2000000 in
theorem back_row (w : World) (s : ByteArray) (hs : s.size ≤ 140737488355328) (x : ByteArray) (_ : x.size ≤ 140737488355328) : Calls Try.prog 6 #[.string s, .string x] w fun e w' => e = .returned (.bool true) ∧ Below w.heap.size w w' := by
  have K5 := hide (fun X => fixed_any X)
  by_cases h65 : s.size ≤ 65536
  · have K1 := hide (fun X => Seal_ok s X h65)
    obtain ⟨S, hS⟩ : ∃ S : ByteArray, S = ⟨(sealL (bys s)).toArray⟩ := ⟨_, rfl⟩
    have hSz : S.size = s.size + 16 := by rw [hS, size_mkL, seal_len, bys_len]; omega
    have hq1 : ((S.size : Int) != (s.size : Int) + 16) = false := by rw [hSz]; simp
    have hq2 : ((S.size : Int) == (s.size : Int) + 16) = true := by rw [hSz]; simp
    have hSb : S.size ≤ 65552 := by omega
    rw [← hS] at K1
    by_cases hbl : x.size ≤ 65552 - S.size
    · have hbl' : ¬ (65552 : Int) - (S.size : Int) < (x.size : Int) := by omega
      have hbs : bys S = sealL (bys s) := by rw [hS, bys_mkL (sealL (bys s))]
      have hbi : bys (S ++ x) = sealL (bys s) ++ bys x := by rw [bys_append, hbs]
      have hld : loadT (S ++ x) [] 0 = (s, 0, (79 + s.size) / 64) := by
        have h := load_seal (img := S ++ x) (fs := []) (b := bys s) (x := bys x) (m := (79 + s.size) / 64) (by rw [bys_len]; exact h65) hbi (vir_none _ _) (by rw [bys_len]; exact Nat.le_refl _)
        rw [h, mk_bysB, bys_len]
      have hcat : ¬ 9223372036854775807 < S.size + x.size := by omega
      have K2 := hide (fun X => New_load (w := X) (S ++ x) (by rw [ByteArray.size_append]; omega) (nil_arg X) (by decide))
      have HLD := hide hld
      obtain ⟨N, hN⟩ : ∃ N, N = (79 + s.size) / 64 := ⟨_, rfl⟩
      rw [← hN] at HLD
      have hNi : ((S.size : Int) + 63) / 64 = (N : Int) := by omega
      have HXs : Hid ((S ++ x).size ≤ 65552) := hide (by rw [ByteArray.size_append]; omega)
      clear hbs hbi hld hS hN hSz hbl
      go_enter Try.func6, Try.ntmps6
      go_wp2_with fail
      refine (K1.out _).mono ?_
      rintro e w1 ⟨rfl, hb⟩
      have HB1 := hide hb
      clear hb
      go_wp2_with fail
      refine (K2.out _).mono ?_
      rintro e w2 ⟨D, rfl, hdd, hb⟩
      obtain ⟨hD1, hD2, u, hds, hlo, _⟩ := hdd
      have HB2 := hide (HB1.out.trans (hb.mono HB1.out.size))
      have K3 := hide (Load_any (S ++ x) [] 0 D u w2 hds HXs.out (by omega) hlo)
      rw [HLD.out] at K3
      dsimp only at K3
      have hDw : w.heap.size ≤ D := Nat.le_trans HB1.out.size hD1
      clear hb hds hlo hD1 hD2 K2 HLD
      go_wp2_with fail
      refine K3.out.mono ?_
      rintro e w3 ⟨rfl, hbu, hds⟩
      have HB3 := hide (HB2.out.trans (hbu.to_below HB2.out.size hDw))
      have K4 := hide (Reads_any hds)
      clear hbu hds K3
      go_wp2_with fail
      refine K4.out.mono ?_
      rintro e w3' ⟨rfl, rfl⟩
      go_wp2_with fail
      refine (K5.out _).mono ?_
      rintro e w4 ⟨rfl, hb⟩
      have HB4 := hide (HB3.out.trans (hb.mono HB3.out.size))
      clear hb
      go_wp2
      go_ret
      exact ⟨rfl, HB4.out⟩
    · have hbl' : (65552 : Int) - (S.size : Int) < (x.size : Int) := by omega
      clear hS hSz hbl
      go_enter Try.func6, Try.ntmps6
      go_wp2_with fail
      refine (K1.out _).mono ?_
      rintro e w1 ⟨rfl, hb⟩
      have HB1 := hide hb
      clear hb
      go_wp2_with fail
      refine (K5.out _).mono ?_
      rintro e w4 ⟨rfl, hb⟩
      have HB3 := hide (HB1.out.trans (hb.mono HB1.out.size))
      clear hb
      go_wp2
      go_ret
      exact ⟨rfl, HB3.out⟩
  · have K1 := hide (fun X => Seal_long s X (by omega))
    have h' : (65536 : Int) < (s.size : Int) := by omega
    go_enter Try.func6, Try.ntmps6
    go_wp2_with fail
    refine (K1.out _).mono ?_
    rintro e w1 ⟨rfl, hb⟩
    have HB1 := hide hb
    clear hb
    go_wp2_with fail
    refine (K5.out _).mono ?_
    rintro e w4 ⟨rfl, hb⟩
    have HB3 := hide (HB1.out.trans (hb.mono HB1.out.size))
    clear hb
    go_wp2
    go_ret
    exact ⟨rfl, HB3.out⟩

end Go.Proofs.Ytdbbdclhfcakdaa
