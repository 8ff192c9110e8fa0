/-
  RuleLogic answers true.
  What the rows' list of package variables gives, and a world that holds them.
  What the rows' list of package variables gives of the two errors of strconv.
-/
import Derived.Test.YthkkndaednienaaGreatDoorLB22
import Derived.Test.YthkkndaednienaaGreatDoorRows
import Derived.Test.YthkkndaednienaaGreatDoorLB6
import Derived.Lib.LaidTab
import Derived.Deep.DeepHandedRow
import Derived.Test.YthkkndaednienaaGreatDoorLB15
namespace Go.Proofs.YthkkndaednienaaGreatDoor
open Go.RowKit

noncomputable def holdA (x : OperT) (l : List UInt8) : Bool := (pickT (oneC ++ l) x).1 == 1
noncomputable def isA (x : OperT) (l : List UInt8) : Bool := (pickT (oneC ++ l) x).2 == 0

theorem alone_is (s : ByteArray) (l : List UInt8) (hl : bys s = l) (i : ByteArray) (v z : Int) (f t : ByteArray) (e : Int) (w : World) (hs : s.size ≤ 4611686018427387904) (he : Evs w) : Calls Tryz.prog 26 #[.string s, opV i v z f t e] w fun e' w' => e' = .returned (.tuple #[.bool (holdA ⟨bys i, v, z, bys f, bys t, e⟩ l), .bool (isA ⟨bys i, v, z, bys f, bys t, e⟩ l)]) ∧ Below w.heap.size w w' := by
  subst hl
  exact alone_any s i v z f t e w hs he

theorem oth_len (l : List UInt8) : (oth l).length ≤ l.length + 1 := by
  induction l with
  | nil => simp [oth]
  | cons a l ih =>
    rw [oth]
    split
    · simp; omega
    · split
      · simp
      · simp; omega

theorem logic_all {A B C : List UInt8} {x : OperT} (ia : isA x A = true) (ib : isA x B = true) (ic : isA x C = true) (sa : singB A = true) (sb : singB B = true) (sc : singB C = true) (hl : A.length + B.length + C.length ≤ 900) :
    (holdA x (A ++ andC ++ B) = (holdA x A && holdA x B) ∧ isA x (A ++ andC ++ B) = true) ∧ (holdA x (A ++ orC ++ B) = (holdA x A || holdA x B) ∧ isA x (A ++ orC ++ B) = true) ∧
    (holdA x (A ++ orC ++ B ++ andC ++ C) = (holdA x A || holdA x B && holdA x C) ∧ isA x (A ++ orC ++ B ++ andC ++ C) = true) ∧ (holdA x (A ++ andC ++ B ++ orC ++ C) = (holdA x A && holdA x B || holdA x C) ∧ isA x (A ++ andC ++ B ++ orC ++ C) = true) ∧ (holdA x (oth A) = (!holdA x A) ∧ isA x (oth A) = true) := by
  unfold isA at ia ib ic
  rw [beq_iff_eq] at ia ib ic
  obtain ⟨a1, a2, a3⟩ := sing_out sa
  obtain ⟨b1, b2, b3⟩ := sing_out sb
  obtain ⟨c1, c2, c3⟩ := sing_out sc
  obtain ⟨hm, ra, hA, ea⟩ := isOne_of a1 a2 a3 ia
  obtain ⟨_, rb, hB, eb⟩ := isOne_of b1 b2 b3 ib
  obtain ⟨_, rc, hC, ec⟩ := isOne_of c1 c2 c3 ic
  have k1 := logic_both hm hA hB (by omega)
  have k2 := logic_one hm hA hB (by omega)
  have k3 := logic_mixed hm hA hB hC hl
  have k4 := logic_turned hm hA hB hC hl
  have k5 := logic_not hm hA (by omega)
  unfold holdA isA
  rw [ea, eb, ec, k1.1, k1.2, k2.1, k2.2, k3.1, k3.2, k4.1, k4.2, k5.1, k5.2]
  exact ⟨⟨rfl, rfl⟩, ⟨rfl, rfl⟩, ⟨rfl, rfl⟩, ⟨rfl, rfl⟩, rfl, rfl⟩

set_option maxRecDepth 100000 in
set_option maxHeartbeats 8000000 in
theorem logic_walk (a b c i : ByteArray) (v z : Int) (f t : ByteArray) (e : Int) (w : World) (ha : a.size ≤ 140737488355328) (hb : b.size ≤ 140737488355328) (hc : c.size ≤ 140737488355328) (he : Evs w) :
    Calls Tryz.prog 7 #[.string a, .string b, .agg #[.string c, .string i, .int .i64 v, .int .i64 z, .string f, .string t, .int .i64 e]] w fun e' w' => e' = .returned (.bool true) ∧ Below w.heap.size w w' := by
  have HE := hide he
  have BT0 := hide (Blk.newAt w w.heap.size rfl #[.string c, .string i, .int .i64 v, .int .i64 z, .string f, .string t, .int .i64 e] 45)
  have HB0 : Hid (Below w.heap.size w ((w.alloc (.cells #[.string c, .string i, .int .i64 v, .int .i64 z, .string f, .string t, .int .i64 e] 45)).alloc (.cells #[.string i, .int .i64 v, .int .i64 z, .string f, .string t, .int .i64 e] 37)).drew) := (((Below.refl _ _).alloc (Nat.le_refl _) _).alloc (by simp) _).trans ((bdrewD _).mono (by simp; omega))
  have BX0 : Hid (Blk ((w.alloc (.cells #[.string c, .string i, .int .i64 v, .int .i64 z, .string f, .string t, .int .i64 e] 45)).alloc (.cells #[.string i, .int .i64 v, .int .i64 z, .string f, .string t, .int .i64 e] 37)).drew (w.heap.size + 1) #[.string i, .int .i64 v, .int .i64 z, .string f, .string t, .int .i64 e] 37) := (Blk.newAt (w.alloc (.cells #[.string c, .string i, .int .i64 v, .int .i64 z, .string f, .string t, .int .i64 e] 45)) (w.heap.size + 1) (by simp) #[.string i, .int .i64 v, .int .i64 z, .string f, .string t, .int .i64 e] 37).below (bdrewD _) (by simp)
  have s5 : (⟨#[32, 97, 110, 100, 32]⟩ : ByteArray).size = 5 := rfl
  have s4 : (⟨#[32, 111, 114, 32]⟩ : ByteArray).size = 4 := rfl
  have KA := hide (fun X (h : Below w.heap.size w X) => alone_is a (bys a) rfl i v z f t e X (by omega) (HE.out.below h))
  have KB := hide (fun X (h : Below w.heap.size w X) => alone_is b (bys b) rfl i v z f t e X (by omega) (HE.out.below h))
  have KC := hide (fun X (h : Below w.heap.size w X) => alone_is c (bys c) rfl i v z f t e X (by omega) (HE.out.below h))
  have J1 := hide (fun X (h : Below w.heap.size w X) => alone_is (a ++ ⟨#[32, 97, 110, 100, 32]⟩ ++ b) (bys a ++ andC ++ bys b) (by simp only [bys_cat]; rfl) i v z f t e X (by simp only [ByteArray.size_append, s5]; omega) (HE.out.below h))
  have J2 := hide (fun X (h : Below w.heap.size w X) => alone_is (a ++ ⟨#[32, 111, 114, 32]⟩ ++ b) (bys a ++ orC ++ bys b) (by simp only [bys_cat]; rfl) i v z f t e X (by simp only [ByteArray.size_append, s4]; omega) (HE.out.below h))
  have J3 := hide (fun X (h : Below w.heap.size w X) => alone_is (a ++ ⟨#[32, 111, 114, 32]⟩ ++ b ++ ⟨#[32, 97, 110, 100, 32]⟩ ++ c) (bys a ++ orC ++ bys b ++ andC ++ bys c) (by simp only [bys_cat]; rfl) i v z f t e X (by simp only [ByteArray.size_append, s5, s4]; omega) (HE.out.below h))
  have J4 := hide (fun X (h : Below w.heap.size w X) => alone_is (a ++ ⟨#[32, 97, 110, 100, 32]⟩ ++ b ++ ⟨#[32, 111, 114, 32]⟩ ++ c) (bys a ++ andC ++ bys b ++ orC ++ bys c) (by simp only [bys_cat]; rfl) i v z f t e X (by simp only [ByteArray.size_append, s5, s4]; omega) (HE.out.below h))
  have KO := hide (fun (r : ByteArray) (hr : bys r = oth (bys a)) X (h : Below w.heap.size w X) => alone_is r (oth (bys a)) hr i v z f t e X (by have h1 := oth_len (bys a); rw [← hr, bys_len, bys_len] at h1; omega) (HE.out.below h))
  have KW := hide (fun X (h : Below w.heap.size w X) => awake09 X (HE.out.below h))
  have SA := hide (fun X => single_any a X (by omega))
  have SB := hide (fun X => single_any b X (by omega))
  have SC := hide (fun X => single_any c X (by omega))
  have KT := hide (fun X (h : a.size ≤ 1000000) => other_any a X h)
  have LA := hide (fun h1 h2 h3 h4 h5 h6 (h7 : a.size + b.size + c.size ≤ 900) => logic_all (A := bys a) (B := bys b) (C := bys c) (x := ⟨bys i, v, z, bys f, bys t, e⟩) h1 h2 h3 h4 h5 h6 (by rw [bys_len, bys_len, bys_len]; exact h7))
  generalize holdA ⟨bys i, v, z, bys f, bys t, e⟩ (bys a) = hpa at *
  generalize isA ⟨bys i, v, z, bys f, bys t, e⟩ (bys a) = qpa at *
  generalize holdA ⟨bys i, v, z, bys f, bys t, e⟩ (bys b) = hpb at *
  generalize isA ⟨bys i, v, z, bys f, bys t, e⟩ (bys b) = qpb at *
  generalize holdA ⟨bys i, v, z, bys f, bys t, e⟩ (bys c) = hpc at *
  generalize isA ⟨bys i, v, z, bys f, bys t, e⟩ (bys c) = qpc at *
  generalize holdA ⟨bys i, v, z, bys f, bys t, e⟩ (bys a ++ andC ++ bys b) = hj1 at *
  generalize isA ⟨bys i, v, z, bys f, bys t, e⟩ (bys a ++ andC ++ bys b) = qj1 at *
  generalize holdA ⟨bys i, v, z, bys f, bys t, e⟩ (bys a ++ orC ++ bys b) = hj2 at *
  generalize isA ⟨bys i, v, z, bys f, bys t, e⟩ (bys a ++ orC ++ bys b) = qj2 at *
  generalize holdA ⟨bys i, v, z, bys f, bys t, e⟩ (bys a ++ orC ++ bys b ++ andC ++ bys c) = hj3 at *
  generalize isA ⟨bys i, v, z, bys f, bys t, e⟩ (bys a ++ orC ++ bys b ++ andC ++ bys c) = qj3 at *
  generalize holdA ⟨bys i, v, z, bys f, bys t, e⟩ (bys a ++ andC ++ bys b ++ orC ++ bys c) = hj4 at *
  generalize isA ⟨bys i, v, z, bys f, bys t, e⟩ (bys a ++ andC ++ bys b ++ orC ++ bys c) = qj4 at *
  generalize holdA ⟨bys i, v, z, bys f, bys t, e⟩ (oth (bys a)) = hno at *
  generalize isA ⟨bys i, v, z, bys f, bys t, e⟩ (oth (bys a)) = qno at *
  generalize singB (bys a) = sa at *
  generalize singB (bys b) = sb at *
  generalize singB (bys c) = sc at *
  have f0x : ¬ 9223372036854775807 < a.size + 5 := by omega
  have f0y : ¬ 9223372036854775807 < a.size + (⟨#[32, 97, 110, 100, 32]⟩ : ByteArray).size := by simp only [s5]; omega
  have f1x : ¬ 9223372036854775807 < a.size + 4 := by omega
  have f1y : ¬ 9223372036854775807 < a.size + (⟨#[32, 111, 114, 32]⟩ : ByteArray).size := by simp only [s4]; omega
  have f2x : ¬ 9223372036854775807 < a.size + 5 + b.size := by omega
  have f2y : ¬ 9223372036854775807 < (a ++ ⟨#[32, 97, 110, 100, 32]⟩ : ByteArray).size + b.size := by simp only [ByteArray.size_append, s5]; omega
  have f3x : ¬ 9223372036854775807 < a.size + 4 + b.size := by omega
  have f3y : ¬ 9223372036854775807 < (a ++ ⟨#[32, 111, 114, 32]⟩ : ByteArray).size + b.size := by simp only [ByteArray.size_append, s4]; omega
  have f4x : ¬ 9223372036854775807 < a.size + 4 + b.size + 5 := by omega
  have f4y : ¬ 9223372036854775807 < (a ++ ⟨#[32, 111, 114, 32]⟩ ++ b : ByteArray).size + (⟨#[32, 97, 110, 100, 32]⟩ : ByteArray).size := by simp only [ByteArray.size_append, s5, s4]; omega
  have f5x : ¬ 9223372036854775807 < a.size + 5 + b.size + 4 := by omega
  have f5y : ¬ 9223372036854775807 < (a ++ ⟨#[32, 97, 110, 100, 32]⟩ ++ b : ByteArray).size + (⟨#[32, 111, 114, 32]⟩ : ByteArray).size := by simp only [ByteArray.size_append, s5, s4]; omega
  have f6x : ¬ 9223372036854775807 < a.size + 4 + b.size + 5 + c.size := by omega
  have f6y : ¬ 9223372036854775807 < (a ++ ⟨#[32, 111, 114, 32]⟩ ++ b ++ ⟨#[32, 97, 110, 100, 32]⟩ : ByteArray).size + c.size := by simp only [ByteArray.size_append, s5, s4]; omega
  have f7x : ¬ 9223372036854775807 < a.size + 5 + b.size + 4 + c.size := by omega
  have f7y : ¬ 9223372036854775807 < (a ++ ⟨#[32, 97, 110, 100, 32]⟩ ++ b ++ ⟨#[32, 111, 114, 32]⟩ : ByteArray).size + c.size := by simp only [ByteArray.size_append, s5, s4]; omega
  have w1 : IntKind.i64.wrap ((a.size : Int) + (b.size : Int)) = (a.size : Int) + (b.size : Int) := by rw [IntKind.wrap_i64]; omega
  have w2 : IntKind.i64.wrap ((a.size : Int) + (b.size : Int) + (c.size : Int)) = (a.size : Int) + (b.size : Int) + (c.size : Int) := by rw [IntKind.wrap_i64]; omega
  clear he s5 s4
  go_enter Tryz.func7, Tryz.ntmps7
  have c0 : (w.alloc (.cells #[.string c, .string i, .int .i64 v, .int .i64 z, .string f, .string t, .int .i64 e] 45)).cell? ⟨w.heap.size, 0, none⟩ = some (.string c) := BT0.out.cell 0
  have c1 : (w.alloc (.cells #[.string c, .string i, .int .i64 v, .int .i64 z, .string f, .string t, .int .i64 e] 45)).cell? ⟨w.heap.size, 1, none⟩ = some (.string i) := BT0.out.cell 1
  have c2 : (w.alloc (.cells #[.string c, .string i, .int .i64 v, .int .i64 z, .string f, .string t, .int .i64 e] 45)).cell? ⟨w.heap.size, 2, none⟩ = some (.int .i64 v) := BT0.out.cell 2
  have c3 : (w.alloc (.cells #[.string c, .string i, .int .i64 v, .int .i64 z, .string f, .string t, .int .i64 e] 45)).cell? ⟨w.heap.size, 3, none⟩ = some (.int .i64 z) := BT0.out.cell 3
  have c4 : (w.alloc (.cells #[.string c, .string i, .int .i64 v, .int .i64 z, .string f, .string t, .int .i64 e] 45)).cell? ⟨w.heap.size, 4, none⟩ = some (.string f) := BT0.out.cell 4
  have c5 : (w.alloc (.cells #[.string c, .string i, .int .i64 v, .int .i64 z, .string f, .string t, .int .i64 e] 45)).cell? ⟨w.heap.size, 5, none⟩ = some (.string t) := BT0.out.cell 5
  have c6 : (w.alloc (.cells #[.string c, .string i, .int .i64 v, .int .i64 z, .string f, .string t, .int .i64 e] 45)).cell? ⟨w.heap.size, 6, none⟩ = some (.int .i64 e) := BT0.out.cell 6
  go_wp2_with fail
  go_region_held3 (fun w' => w'.cell? ⟨w.heap.size, 0, none⟩ = some (.string c) ∧ w'.cell? ⟨w.heap.size, 1, none⟩ = some (.string i) ∧ w'.cell? ⟨w.heap.size, 2, none⟩ = some (.int .i64 v) ∧ w'.cell? ⟨w.heap.size, 3, none⟩ = some (.int .i64 z) ∧ w'.cell? ⟨w.heap.size, 4, none⟩ = some (.string f) ∧ w'.cell? ⟨w.heap.size, 5, none⟩ = some (.string t) ∧ w'.cell? ⟨w.heap.size, 6, none⟩ = some (.int .i64 e)) (go_keep) (fail)
  clear c0 c1 c2 c3 c4 c5 c6 BT0
  obtain ⟨X0, hX0⟩ : ∃ X, X = ((w.alloc (.cells #[.string c, .string i, .int .i64 v, .int .i64 z, .string f, .string t, .int .i64 e] 45)).alloc (.cells #[.string i, .int .i64 v, .int .i64 z, .string f, .string t, .int .i64 e] 37)).drew := ⟨_, rfl⟩
  rw [← hX0] at HB0 BX0
  simp only [← hX0]
  clear hX0
  obtain ⟨o0, o1, o2, o3, o4, o5⟩ := BX0.out.six
  go_wp2_with fail
  refine (KA.out _ HB0.out).mono ?_
  rintro e' w1' ⟨rfl, hbb⟩
  have HB1 := hide (HB0.out.trans (hbb.mono HB0.out.size))
  have BX1 := Blk.on BX0 hbb
  clear hbb KA HB0 BX0 o0 o1 o2 o3 o4 o5
  obtain ⟨o0, o1, o2, o3, o4, o5⟩ := BX1.out.six
  go_wp2_with fail
  refine (KB.out _ HB1.out).mono ?_
  rintro e' w2' ⟨rfl, hbb⟩
  have HB2 := hide (HB1.out.trans (hbb.mono HB1.out.size))
  have BX2 := Blk.on BX1 hbb
  clear hbb KB HB1 BX1 o0 o1 o2 o3 o4 o5
  obtain ⟨o0, o1, o2, o3, o4, o5⟩ := BX2.out.six
  go_wp2_with fail
  refine (KC.out _ HB2.out).mono ?_
  rintro e' w3' ⟨rfl, hbb⟩
  have HB3 := hide (HB2.out.trans (hbb.mono HB2.out.size))
  have BX3 := Blk.on BX2 hbb
  clear hbb KC HB2 BX2 o0 o1 o2 o3 o4 o5
  obtain ⟨o0, o1, o2, o3, o4, o5⟩ := BX3.out.six
  go_wp2_with fail
  refine (KW.out _ HB3.out).mono ?_
  rintro e' w4' ⟨rfl, hbb⟩
  have HB4 := hide (HB3.out.trans (hbb.mono HB3.out.size))
  have BX4 := Blk.on BX3 hbb
  clear hbb KW HB3 BX3 o0 o1 o2 o3 o4 o5
  cases qpa with
  | false =>
    clear KO SA SB SC KT LA J1 J2 J3 J4 BX4
    go_wp2
    go_ret
    exact ⟨rfl, HB4.out⟩
  | true =>
    cases qpb with
    | false =>
      clear KO SA SB SC KT LA J1 J2 J3 J4 BX4
      go_wp2
      go_ret
      exact ⟨rfl, HB4.out⟩
    | true =>
      cases qpc with
      | false =>
        clear KO SA SB SC KT LA J1 J2 J3 J4 BX4
        go_wp2
        go_ret
        exact ⟨rfl, HB4.out⟩
      | true =>
        go_wp2_with fail
        refine (SA.out _).mono ?_
        rintro e' wS ⟨rfl, hws⟩
        subst hws
        clear SA
        cases sa with
        | false =>
          clear KO KT LA J1 J2 J3 J4 SB SC BX4
          go_wp2
          go_ret
          exact ⟨rfl, HB4.out⟩
        | true =>
          go_wp2_with fail
          refine (SB.out _).mono ?_
          rintro e' wS ⟨rfl, hws⟩
          subst hws
          clear SB
          cases sb with
          | false =>
            clear KO KT LA J1 J2 J3 J4 SC BX4
            go_wp2
            go_ret
            exact ⟨rfl, HB4.out⟩
          | true =>
            go_wp2_with fail
            refine (SC.out _).mono ?_
            rintro e' wS ⟨rfl, hws⟩
            subst hws
            clear SC
            cases sc with
            | false =>
              clear KO KT LA J1 J2 J3 J4  BX4
              go_wp2
              go_ret
              exact ⟨rfl, HB4.out⟩
            | true =>
              by_cases hlong : 900 < a.size + b.size + c.size
              · have hlong' : (900 : Int) < (a.size : Int) + (b.size : Int) + (c.size : Int) := by omega
                clear KO KT LA J1 J2 J3 J4 BX4
                go_wp2
                go_ret
                exact ⟨rfl, HB4.out⟩
              have hlong' : ¬ (900 : Int) < (a.size : Int) + (b.size : Int) + (c.size : Int) := by omega
              obtain ⟨⟨rfl, rfl⟩, ⟨rfl, rfl⟩, ⟨rfl, rfl⟩, ⟨rfl, rfl⟩, rfl, rfl⟩ := LA.out (by trivial) (by trivial) (by trivial) (by trivial) (by trivial) (by trivial) (by omega)
              clear LA
              obtain ⟨o0, o1, o2, o3, o4, o5⟩ := BX4.out.six
              go_wp2_with fail
              refine (J1.out _ HB4.out).mono ?_
              rintro e' w5' ⟨rfl, hbb⟩
              have HB5 := hide (HB4.out.trans (hbb.mono HB4.out.size))
              have BX5 := Blk.on BX4 hbb
              clear hbb J1 HB4 BX4 o0 o1 o2 o3 o4 o5
              obtain ⟨o0, o1, o2, o3, o4, o5⟩ := BX5.out.six
              go_wp2_with fail
              refine (J2.out _ HB5.out).mono ?_
              rintro e' w6' ⟨rfl, hbb⟩
              have HB6 := hide (HB5.out.trans (hbb.mono HB5.out.size))
              have BX6 := Blk.on BX5 hbb
              clear hbb J2 HB5 BX5 o0 o1 o2 o3 o4 o5
              obtain ⟨o0, o1, o2, o3, o4, o5⟩ := BX6.out.six
              go_wp2_with fail
              refine (J3.out _ HB6.out).mono ?_
              rintro e' w7' ⟨rfl, hbb⟩
              have HB7 := hide (HB6.out.trans (hbb.mono HB6.out.size))
              have BX7 := Blk.on BX6 hbb
              clear hbb J3 HB6 BX6 o0 o1 o2 o3 o4 o5
              obtain ⟨o0, o1, o2, o3, o4, o5⟩ := BX7.out.six
              go_wp2_with fail
              refine (J4.out _ HB7.out).mono ?_
              rintro e' w8' ⟨rfl, hbb⟩
              have HB8 := hide (HB7.out.trans (hbb.mono HB7.out.size))
              have BX8 := Blk.on BX7 hbb
              clear hbb J4 HB7 BX7 o0 o1 o2 o3 o4 o5
              have b0 : Hid (Below w8'.heap.size w8' w8'.drew) := bdrewD w8'
              have C0 : Hid (∀ X, Hid (Below w8'.heap.size w8' X) → Calls Tryz.prog 28 #[.string a] X fun e' w' => (∃ r : ByteArray, e' = .returned (.string r) ∧ Hid (bys r = oth (bys a))) ∧ Hid (Below w8'.heap.size w8' w') ∧ w'.cell? ⟨w.heap.size + 1, 0, none⟩ = some (.string i) ∧ w'.cell? ⟨w.heap.size + 1, 1, none⟩ = some (.int .i64 v) ∧ w'.cell? ⟨w.heap.size + 1, 2, none⟩ = some (.int .i64 z) ∧ w'.cell? ⟨w.heap.size + 1, 3, none⟩ = some (.string f) ∧ w'.cell? ⟨w.heap.size + 1, 4, none⟩ = some (.string t) ∧ w'.cell? ⟨w.heap.size + 1, 5, none⟩ = some (.int .i64 e)) := by
                intro X bX
                refine (KT.out X (by omega)).mono ?_
                rintro e' w' ⟨⟨r, rfl, hr⟩, hbb⟩
                have bb := bX.out.trans (hbb.mono bX.out.size)
                have Bq := BX8.out.below bb BX8.out.lt
                exact ⟨⟨r, rfl, hr⟩, bb, Bq.cell 0, Bq.cell 1, Bq.cell 2, Bq.cell 3, Bq.cell 4, Bq.cell 5⟩
              have C1 : Hid (∀ X (r : ByteArray), Hid (Below w8'.heap.size w8' X) → Hid (bys r = oth (bys a)) → Calls Tryz.prog 26 #[.string r, .agg #[.string i, .int .i64 v, .int .i64 z, .string f, .string t, .int .i64 e]] X fun e' w' => e' = .returned (.tuple #[.bool (!hpa), .bool true]) ∧ Hid (Below w8'.heap.size w8' w') ∧ w'.cell? ⟨w.heap.size + 1, 0, none⟩ = some (.string i) ∧ w'.cell? ⟨w.heap.size + 1, 1, none⟩ = some (.int .i64 v) ∧ w'.cell? ⟨w.heap.size + 1, 2, none⟩ = some (.int .i64 z) ∧ w'.cell? ⟨w.heap.size + 1, 3, none⟩ = some (.string f) ∧ w'.cell? ⟨w.heap.size + 1, 4, none⟩ = some (.string t) ∧ w'.cell? ⟨w.heap.size + 1, 5, none⟩ = some (.int .i64 e)) := by
                intro X r bX hr
                refine (KO.out r hr.out X (HB8.out.trans (bX.out.mono HB8.out.size))).mono ?_
                rintro e' w' ⟨rfl, hbb⟩
                have bb := bX.out.trans (hbb.mono bX.out.size)
                have Bq := BX8.out.below bb BX8.out.lt
                exact ⟨rfl, bb, Bq.cell 0, Bq.cell 1, Bq.cell 2, Bq.cell 3, Bq.cell 4, Bq.cell 5⟩
              clear KT KO
              obtain ⟨o0, o1, o2, o3, o4, o5⟩ := BX8.out.six
              cases hpa <;> cases hpb <;> cases hpc
              all_goals
                simp only [Bool.not_true, Bool.not_false] at C1
                go_wp2_with fail
                have mk0 : True := trivial
                go_region_held3 (fun w' => w'.cell? ⟨w.heap.size + 1, 0, none⟩ = some (.string i) ∧ w'.cell? ⟨w.heap.size + 1, 1, none⟩ = some (.int .i64 v) ∧ w'.cell? ⟨w.heap.size + 1, 2, none⟩ = some (.int .i64 z) ∧ w'.cell? ⟨w.heap.size + 1, 3, none⟩ = some (.string f) ∧ w'.cell? ⟨w.heap.size + 1, 4, none⟩ = some (.string t) ∧ w'.cell? ⟨w.heap.size + 1, 5, none⟩ = some (.int .i64 e)) (go_keep) (first
                  | (clear mk0; go_at_call 28; refine (C0.out _ b0).mono ?_; rintro e' wO ⟨⟨r, rfl, hr⟩, b1, q0, q1, q2, q3, q4, q5⟩; have mk1 : True := trivial)
                  | (clear mk1; go_at_call 26; refine (C1.out _ r b1 hr).mono ?_; rintro e' wP ⟨rfl, b2, p0, p1, p2, p3, p4, p5⟩; have mk2 : True := trivial))
                have HBP := hide (HB8.out.trans (b2.out.mono HB8.out.size))
                clear b0 b1 b2 C0 C1 hr q0 q1 q2 q3 q4 q5 p0 p1 p2 p3 p4 p5 o0 o1 o2 o3 o4 o5
                go_wp2
                go_ret
                exact ⟨rfl, HBP.out⟩

theorem logic_row (w : World) (he : Evs w) (a : ByteArray) (ha : a.size ≤ 140737488355328) (b : ByteArray) (hb : b.size ≤ 140737488355328) (c i : ByteArray) (v z : Int) (f t : ByteArray) (e : Int) (hc : c.size ≤ 140737488355328) :
    Calls Tryz.prog 7 #[.string a, .string b, .agg #[.string c, .string i, .int .i64 v, .int .i64 z, .string f, .string t, .int .i64 e]] w fun e' w' => e' = .returned (.bool true) ∧ Below w.heap.size w w' :=
  logic_walk a b c i v z f t e w ha hb hc he

end Go.Proofs.YthkkndaednienaaGreatDoor

namespace Go.Proofs.YthkkndaednienaaGreatDoor
open Go.RowKit

def tabVals : DataW Unit → Array Value
  | .agg l => (l.flatMap fun
      | .lit (.int k z) => [Value.int k z]
      | .agg l2 => l2.map fun
        | .lit (.int k z) => Value.int k z
        | _ => .int .u8 0
      | _ => []).toArray
  | _ => #[]

def putVals (d : DataW Unit) : Obj → Obj
  | .cells _ t frozen => .cells (tabVals d) t frozen
  | o => o

def errText : DataW Unit → ByteArray
  | .iface _ (.ptr (.agg [.lit (.string l)])) => ⟨l.toArray⟩
  | _ => ⟨#[]⟩

def putErr (b : Nat) : Obj → Obj
  | .cells _ t frozen => .cells #[.iface 288 (.pointer (some ⟨b, 0, none⟩))] t frozen
  | o => o

noncomputable def laidWorld (os : Os) : World :=
  { World.holding Tryz.prog os ⟨#[], #[], []⟩ with
    heap := (((((((((World.holding Tryz.prog os ⟨#[], #[], []⟩).heap.modify 8 (putVals Rows.laid_math_bits_deBruijn32tab)).modify 9 (putVals Rows.laid_math_bits_deBruijn64tab)).modify 3 (putVals Rows.laid_internal_strconv_uint64pow10)).modify 5 (putVals Rows.laid_unicode_utf8_acceptRanges)).modify 4 (putVals Rows.laid_unicode_utf8_first)).modify 1 (putErr (World.holding Tryz.prog os ⟨#[], #[], []⟩).heap.size)).modify 0 (putErr ((World.holding Tryz.prog os ⟨#[], #[], []⟩).heap.size + 1))).push (.cells #[.string (errText Rows.laid_strconv_ErrRange)] 290)).push (.cells #[.string (errText Rows.laid_strconv_ErrSyntax)] 290) }

end Go.Proofs.YthkkndaednienaaGreatDoor

namespace Go.Proofs.YthkkndaednienaaGreatDoor
open Go.RowKit

theorem evs_of_trod {W : World} {nm : String} {cs : Array Value} {fuel : Nat} {p : List MemPlace} {name : String} {d : DataW Unit} {t : TypeId} (hv : W.var? Tryz.prog nm = some cs) (ht : t = 107)
    (hd : DataW.trod (fun _ => ()) Tryz.prog W 0 (fun _ => true) false fuel t cs.toList = some (.iface name d, p)) : ∃ tp q, W.var? Tryz.prog nm = some #[.iface tp q] := by
  subst ht
  obtain ⟨_, u, v, hc, _, _⟩ := iface_of_trod Tryz.underlying107 hd
  obtain rfl : cs = #[.iface u v] := by cases cs; simp_all
  exact ⟨u, v, hv⟩

theorem teR : (Tryz.prog.globalNamed "strconv.ErrRange").bind (fun g => (Tryz.prog.globals[g]?).map (·.type)) = some 107 := by kernel_rfl
theorem teS : (Tryz.prog.globalNamed "strconv.ErrSyntax").bind (fun g => (Tryz.prog.globals[g]?).map (·.type)) = some 107 := by kernel_rfl

theorem evs {W : World} (h : laidMetH Tryz.prog [("math/bits.deBruijn32tab", Rows.laid_math_bits_deBruijn32tab), ("math/bits.deBruijn64tab", Rows.laid_math_bits_deBruijn64tab), ("internal/strconv.uint64pow10", Rows.laid_internal_strconv_uint64pow10), ("unicode/utf8.acceptRanges", Rows.laid_unicode_utf8_acceptRanges), ("strconv.ErrRange", Rows.laid_strconv_ErrRange), ("strconv.ErrSyntax", Rows.laid_strconv_ErrSyntax), ("unicode/utf8.first", Rows.laid_unicode_utf8_first)] W) : Evs W := by
  have h' : laidMet Tryz.prog [("math/bits.deBruijn32tab", Rows.laid_math_bits_deBruijn32tab), ("math/bits.deBruijn64tab", Rows.laid_math_bits_deBruijn64tab), ("internal/strconv.uint64pow10", Rows.laid_internal_strconv_uint64pow10), ("unicode/utf8.acceptRanges", Rows.laid_unicode_utf8_acceptRanges), ("strconv.ErrRange", Rows.laid_strconv_ErrRange), ("strconv.ErrSyntax", Rows.laid_strconv_ErrSyntax), ("unicode/utf8.first", Rows.laid_unicode_utf8_first)] W := h
  obtain ⟨ps, ⟨_, _, _, _, _, q1, _, _, _, _, ⟨_, _, _, _, _, q2, _, _, _, _, ⟨_, _, _, _, _, q3, _, _, _, _, ⟨_, _, _, _, _, q4, _, _, _, _, ⟨g5, t5, c5, f5, p5, q5, hg5, ht5, hv5, hd5, ⟨g6, t6, c6, f6, p6, q6, hg6, ht6, hv6, hd6, _, _⟩, _⟩, _⟩, _⟩, _⟩, _⟩, _⟩ := h'
  have e5 := teR
  rw [hg5] at e5
  have e6 := teS
  rw [hg6] at e6
  exact ⟨evs_of_trod hv6 (Option.some.inj (ht6.symm.trans e6)) hd6, evs_of_trod hv5 (Option.some.inj (ht5.symm.trans e5)) hd5⟩

end Go.Proofs.YthkkndaednienaaGreatDoor
