/- Layer 4: ValueInts. (Made by gen/genvints.py.) -/
import Derived.Test.YtlnpolepgdoloaaVTwo
namespace Go.Proofs.Ytlnpolepgdoloaa
open Go.RowKit
set_option linter.unusedVariables false
set_option linter.unusedSimpArgs false
set_option maxRecDepth 20000

/-- Reckon of two ints comes to this -/
def RkI (op m n : Int) (v : Vl) (e : Int) : Prop := ∀ W, Calls Try.prog 26 #[.int .i64 op, agV (vInt m), agV (vInt n)] W (VMk (pairVE v e) W)
theorem RkI_any (op m n : Int) (h : opsB op = true) (hm : in64 m) (hn : in64 n) : RkI op m n (ofP (intsV op m n)) (intsV op m n).2 := fun W => by
  have g := Reckon_any op (vInt m) (vInt n) W hm hn (show (0 : Nat) < 18446744073709551616 by decide) (show (0 : Nat) < 18446744073709551616 by decide)
  have hr : reckV op (vInt m) (vInt n) = (ofP (intsV op m n), (intsV op m n).2) := by
    unfold reckV; rw [h, like_int, if_pos rfl, if_pos rfl, if_pos rfl]
  rwa [hr] at g
theorem RkI_ok (op m n r : Int) (h : opsB op = true) (hm : in64 m) (hn : in64 n) (hr : intsV op m n = (r, 0)) : RkI op m n (vInt r) 0 := by
  have g := RkI_any op m n h hm hn
  rw [hr] at g
  exact g
theorem RkI_no (op m n e : Int) (h : opsB op = true) (hm : in64 m) (hn : in64 n) (hr : intsV op m n = (0, e)) (he : e ≠ 0) : RkI op m n vZero e := by
  have g := RkI_any op m n h hm hn
  rw [hr] at g
  unfold ofP at g
  rw [if_neg he] at g
  exact g
theorem ints_4 (x y : Int) : intsV 4 x y = ovr (x + y) := rfl
theorem ints_5 (x y : Int) : intsV 5 x y = ovr (x - y) := rfl
theorem ints_6 (x y : Int) : intsV 6 x y = ovr (x * y) := rfl
theorem ints_7 (x y : Int) : intsV 7 x y = quoI x y := rfl

set_option maxHeartbeats 8000000 in
theorem ints_path_121 (x y s p q t r : Int) (w : World) (hA : RkI 4 x y (vInt s) 0) (hD : RkI 5 s y (vInt x) 0) (hB : RkI 6 x y (vInt p) 0) (hC : RkI 7 x y vZero 42) (bA : Bool) (tA : decide (0 ≤ y) = bA) (tB : decide (x ≤ s) = bA) (ty : (y == 0) = true) : Calls Try.prog 11 #[.int .i64 x, .int .i64 y] w (VMk (.bool true) w) := by
  have hsf := fun (w : World) (a : Addr) (m : Mode) (b : Nat) => run_store Try.prog w a (.float .f64 b) m rfl
  have ty2 : (y != 0) = false := by rw [bne, ty]; rfl
  have HA := Lib.hid hA
  have HD := Lib.hid hD
  have HB := Lib.hid hB
  have HC := Lib.hid hC
  clear hA hD hB hC
  have TA := Lib.hid tA
  have TB := Lib.hid tB
  clear tA tB
  go_enter Try.func11, Try.ntmps11
  go_wp2_with fail
  refine (rIntV_any x _).mono ?_
  rintro e w1 ⟨rfl, hb1⟩
  go_wp2_with fail
  refine (rIntV_any y _).mono ?_
  rintro e w2 ⟨rfl, hb2⟩
  have B2 := hb1.trans (hb2.mono hb1.size)
  go_upto_region 2 with fail
  have F1 := Lib.hid ((Bx.new w2 (vInt x)).alloc (bxO (vInt y)))
  have F2 : Bx ((w2.alloc (bxO (vInt x))).alloc (bxO (vInt y))) (w2.heap.size + 1) (vInt y) := by
    have h := Bx.new (w2.alloc (bxO (vInt x))) (vInt y)
    simpa using h
  have F2 := Lib.hid F2
  have F3 := Lib.hid ((B2.alloc B2.size (bxO (vInt x))).alloc (by have := B2.size; simp; omega) (bxO (vInt y)))
  clear B2 hb1 hb2
  generalize (w2.alloc (bxO (vInt x))).alloc (bxO (vInt y)) = wc at *
  generalize w2.heap.size + 1 = b2 at *
  generalize w2.heap.size = b1 at *
  obtain ⟨a0, a1, a2, a3, a4⟩ := F1.out
  obtain ⟨c0, c1, c2, c3, c4⟩ := F2.out
  go_wp2_with fail
  refine (HA.out _).mono ?_
  rintro e w1a ⟨rfl, hb⟩
  clear a0 a1 a2 a3 a4 c0 c1 c2 c3 c4
  go_upto_region 3 with fail
  have F1 := Lib.hid ((F1.out.below hb).alloc (bxO (vInt s)))
  have F2 := Lib.hid ((F2.out.below hb).alloc (bxO (vInt s)))
  have F3 := Lib.hid ((F3.out.trans (hb.mono F3.out.size)).alloc (F3.out.trans (hb.mono F3.out.size)).size (bxO (vInt s)))
  have G1 := Lib.hid (Bx.new w1a (vInt s))
  clear hb
  generalize w1a.alloc (bxO (vInt s)) = w1b at *
  generalize w1a.heap.size = b3 at *
  obtain ⟨c0, c1, c2, c3, c4⟩ := F2.out
  obtain ⟨g1_0, g1_1, g1_2, g1_3, g1_4⟩ := G1.out
  go_wp2_with fail
  refine (HD.out _).mono ?_
  rintro e w2a ⟨rfl, hb⟩
  clear c0 c1 c2 c3 c4 g1_0 g1_1 g1_2 g1_3 g1_4
  go_upto_region 5 with fail
  have F1 := Lib.hid ((F1.out.below hb).alloc (bxO (vInt x)))
  have F2 := Lib.hid ((F2.out.below hb).alloc (bxO (vInt x)))
  have G1 := Lib.hid ((G1.out.below hb).alloc (bxO (vInt x)))
  have F3 := Lib.hid ((F3.out.trans (hb.mono F3.out.size)).alloc (F3.out.trans (hb.mono F3.out.size)).size (bxO (vInt x)))
  have G2 := Lib.hid (Bx.new w2a (vInt x))
  clear hb
  generalize w2a.alloc (bxO (vInt x)) = w2b at *
  generalize w2a.heap.size = b4 at *
  obtain ⟨g1_0, g1_1, g1_2, g1_3, g1_4⟩ := G1.out
  obtain ⟨g2_0, g2_1, g2_2, g2_3, g2_4⟩ := G2.out
  have tA := TA.out
  have tB := TB.out
  rcases bA with _ | _
  all_goals
    go_upto_region 7 with fail
    clear g1_0 g1_1 g1_2 g1_3 g1_4 g2_0 g2_1 g2_2 g2_3 g2_4
    clear tA tB
    obtain ⟨a0, a1, a2, a3, a4⟩ := F1.out
    obtain ⟨c0, c1, c2, c3, c4⟩ := F2.out
    go_wp2_with fail
    refine (HB.out _).mono ?_
    rintro e w3a ⟨rfl, hb⟩
    clear a0 a1 a2 a3 a4 c0 c1 c2 c3 c4
    go_upto_region 8 with fail
    have F1 := Lib.hid ((F1.out.below hb).alloc (bxO (vInt p)))
    have F2 := Lib.hid ((F2.out.below hb).alloc (bxO (vInt p)))
    have G1 := Lib.hid ((G1.out.below hb).alloc (bxO (vInt p)))
    have G2 := Lib.hid ((G2.out.below hb).alloc (bxO (vInt p)))
    have F3 := Lib.hid ((F3.out.trans (hb.mono F3.out.size)).alloc (F3.out.trans (hb.mono F3.out.size)).size (bxO (vInt p)))
    have G3 := Lib.hid (Bx.new w3a (vInt p))
    clear hb
    generalize w3a.alloc (bxO (vInt p)) = w3b at *
    generalize w3a.heap.size = b5 at *
    go_upto_region 12 with fail
    obtain ⟨a0, a1, a2, a3, a4⟩ := F1.out
    obtain ⟨c0, c1, c2, c3, c4⟩ := F2.out
    go_wp2_with fail
    refine (HC.out _).mono ?_
    rintro e w4a ⟨rfl, hb⟩
    clear a0 a1 a2 a3 a4 c0 c1 c2 c3 c4
    go_upto_region 13 with fail
    have F1 := Lib.hid ((F1.out.below hb).alloc (bxO (vZero)))
    have F2 := Lib.hid ((F2.out.below hb).alloc (bxO (vZero)))
    have G1 := Lib.hid ((G1.out.below hb).alloc (bxO (vZero)))
    have G2 := Lib.hid ((G2.out.below hb).alloc (bxO (vZero)))
    have G3 := Lib.hid ((G3.out.below hb).alloc (bxO (vZero)))
    have F3 := Lib.hid ((F3.out.trans (hb.mono F3.out.size)).alloc (F3.out.trans (hb.mono F3.out.size)).size (bxO (vZero)))
    have G4 := Lib.hid (Bx.new w4a (vZero))
    clear hb
    generalize w4a.alloc (bxO (vZero)) = w4b at *
    generalize w4a.heap.size = b6 at *
    go_wp2_with fail
    refine (awake4_any _).mono ?_
    rintro e wz ⟨rfl, hb⟩
    have F3 := Lib.hid (F3.out.trans (hb.mono F3.out.size))
    clear hb
    go_wp2
    go_ret
    exact ⟨rfl, F3.out⟩

set_option maxHeartbeats 8000000 in
theorem ints_path_032 (x y s p q t r : Int) (w : World) (hA : RkI 4 x y vZero 41) (hB : RkI 6 x y vZero 41) (hC : RkI 7 x y vZero 41) (ty : (y == 0) = false) (ty1 : (y == -1) = true) : Calls Try.prog 11 #[.int .i64 x, .int .i64 y] w (VMk (.bool true) w) := by
  have hsf := fun (w : World) (a : Addr) (m : Mode) (b : Nat) => run_store Try.prog w a (.float .f64 b) m rfl
  have ty2 : (y != 0) = true := by rw [bne, ty]; rfl
  have HA := Lib.hid hA
  have HB := Lib.hid hB
  have HC := Lib.hid hC
  clear hA hB hC
  go_enter Try.func11, Try.ntmps11
  go_wp2_with fail
  refine (rIntV_any x _).mono ?_
  rintro e w1 ⟨rfl, hb1⟩
  go_wp2_with fail
  refine (rIntV_any y _).mono ?_
  rintro e w2 ⟨rfl, hb2⟩
  have B2 := hb1.trans (hb2.mono hb1.size)
  go_upto_region 2 with fail
  have F1 := Lib.hid ((Bx.new w2 (vInt x)).alloc (bxO (vInt y)))
  have F2 : Bx ((w2.alloc (bxO (vInt x))).alloc (bxO (vInt y))) (w2.heap.size + 1) (vInt y) := by
    have h := Bx.new (w2.alloc (bxO (vInt x))) (vInt y)
    simpa using h
  have F2 := Lib.hid F2
  have F3 := Lib.hid ((B2.alloc B2.size (bxO (vInt x))).alloc (by have := B2.size; simp; omega) (bxO (vInt y)))
  clear B2 hb1 hb2
  generalize (w2.alloc (bxO (vInt x))).alloc (bxO (vInt y)) = wc at *
  generalize w2.heap.size + 1 = b2 at *
  generalize w2.heap.size = b1 at *
  obtain ⟨a0, a1, a2, a3, a4⟩ := F1.out
  obtain ⟨c0, c1, c2, c3, c4⟩ := F2.out
  go_wp2_with fail
  refine (HA.out _).mono ?_
  rintro e w1a ⟨rfl, hb⟩
  clear a0 a1 a2 a3 a4 c0 c1 c2 c3 c4
  go_upto_region 3 with fail
  have F1 := Lib.hid ((F1.out.below hb).alloc (bxO (vZero)))
  have F2 := Lib.hid ((F2.out.below hb).alloc (bxO (vZero)))
  have F3 := Lib.hid ((F3.out.trans (hb.mono F3.out.size)).alloc (F3.out.trans (hb.mono F3.out.size)).size (bxO (vZero)))
  have G1 := Lib.hid (Bx.new w1a (vZero))
  clear hb
  generalize w1a.alloc (bxO (vZero)) = w1b at *
  generalize w1a.heap.size = b3 at *
  go_upto_region 7 with fail
  obtain ⟨a0, a1, a2, a3, a4⟩ := F1.out
  obtain ⟨c0, c1, c2, c3, c4⟩ := F2.out
  go_wp2_with fail
  refine (HB.out _).mono ?_
  rintro e w2a ⟨rfl, hb⟩
  clear a0 a1 a2 a3 a4 c0 c1 c2 c3 c4
  go_upto_region 8 with fail
  have F1 := Lib.hid ((F1.out.below hb).alloc (bxO (vZero)))
  have F2 := Lib.hid ((F2.out.below hb).alloc (bxO (vZero)))
  have G1 := Lib.hid ((G1.out.below hb).alloc (bxO (vZero)))
  have F3 := Lib.hid ((F3.out.trans (hb.mono F3.out.size)).alloc (F3.out.trans (hb.mono F3.out.size)).size (bxO (vZero)))
  have G2 := Lib.hid (Bx.new w2a (vZero))
  clear hb
  generalize w2a.alloc (bxO (vZero)) = w2b at *
  generalize w2a.heap.size = b4 at *
  go_upto_region 12 with fail
  obtain ⟨a0, a1, a2, a3, a4⟩ := F1.out
  obtain ⟨c0, c1, c2, c3, c4⟩ := F2.out
  go_wp2_with fail
  refine (HC.out _).mono ?_
  rintro e w3a ⟨rfl, hb⟩
  clear a0 a1 a2 a3 a4 c0 c1 c2 c3 c4
  go_upto_region 13 with fail
  have F1 := Lib.hid ((F1.out.below hb).alloc (bxO (vZero)))
  have F2 := Lib.hid ((F2.out.below hb).alloc (bxO (vZero)))
  have G1 := Lib.hid ((G1.out.below hb).alloc (bxO (vZero)))
  have G2 := Lib.hid ((G2.out.below hb).alloc (bxO (vZero)))
  have F3 := Lib.hid ((F3.out.trans (hb.mono F3.out.size)).alloc (F3.out.trans (hb.mono F3.out.size)).size (bxO (vZero)))
  have G3 := Lib.hid (Bx.new w3a (vZero))
  clear hb
  generalize w3a.alloc (bxO (vZero)) = w3b at *
  generalize w3a.heap.size = b5 at *
  go_wp2_with fail
  refine (awake4_any _).mono ?_
  rintro e wz ⟨rfl, hb⟩
  have F3 := Lib.hid (F3.out.trans (hb.mono F3.out.size))
  clear hb
  go_wp2
  go_ret
  exact ⟨rfl, F3.out⟩

set_option maxHeartbeats 8000000 in
theorem ints_path_113 (x y s p q t r : Int) (w : World) (hA : RkI 4 x y (vInt s) 0) (hD : RkI 5 s y (vInt x) 0) (hB : RkI 6 x y (vInt p) 0) (hE : RkI 7 p y (vInt x) 0) (hC : RkI 7 x y (vInt q) 0) (hT : RkI 6 q y (vInt t) 0) (hR : RkI 5 x t (vInt r) 0) (bA : Bool) (tA : decide (0 ≤ y) = bA) (tB : decide (x ≤ s) = bA) (ty : (y == 0) = false) (tr : (r == 0) = true ∨ ((r == 0) = false ∧ decide (r < 0) = decide (x < 0))) : Calls Try.prog 11 #[.int .i64 x, .int .i64 y] w (VMk (.bool true) w) := by
  have hsf := fun (w : World) (a : Addr) (m : Mode) (b : Nat) => run_store Try.prog w a (.float .f64 b) m rfl
  have ty2 : (y != 0) = true := by rw [bne, ty]; rfl
  have HA := Lib.hid hA
  have HD := Lib.hid hD
  have HB := Lib.hid hB
  have HE := Lib.hid hE
  have HC := Lib.hid hC
  have HT := Lib.hid hT
  have HR := Lib.hid hR
  clear hA hD hB hE hC hT hR
  have TA := Lib.hid tA
  have TB := Lib.hid tB
  clear tA tB
  have TR := Lib.hid tr
  clear tr
  go_enter Try.func11, Try.ntmps11
  go_wp2_with fail
  refine (rIntV_any x _).mono ?_
  rintro e w1 ⟨rfl, hb1⟩
  go_wp2_with fail
  refine (rIntV_any y _).mono ?_
  rintro e w2 ⟨rfl, hb2⟩
  have B2 := hb1.trans (hb2.mono hb1.size)
  go_upto_region 2 with fail
  have F1 := Lib.hid ((Bx.new w2 (vInt x)).alloc (bxO (vInt y)))
  have F2 : Bx ((w2.alloc (bxO (vInt x))).alloc (bxO (vInt y))) (w2.heap.size + 1) (vInt y) := by
    have h := Bx.new (w2.alloc (bxO (vInt x))) (vInt y)
    simpa using h
  have F2 := Lib.hid F2
  have F3 := Lib.hid ((B2.alloc B2.size (bxO (vInt x))).alloc (by have := B2.size; simp; omega) (bxO (vInt y)))
  clear B2 hb1 hb2
  generalize (w2.alloc (bxO (vInt x))).alloc (bxO (vInt y)) = wc at *
  generalize w2.heap.size + 1 = b2 at *
  generalize w2.heap.size = b1 at *
  obtain ⟨a0, a1, a2, a3, a4⟩ := F1.out
  obtain ⟨c0, c1, c2, c3, c4⟩ := F2.out
  go_wp2_with fail
  refine (HA.out _).mono ?_
  rintro e w1a ⟨rfl, hb⟩
  clear a0 a1 a2 a3 a4 c0 c1 c2 c3 c4
  go_upto_region 3 with fail
  have F1 := Lib.hid ((F1.out.below hb).alloc (bxO (vInt s)))
  have F2 := Lib.hid ((F2.out.below hb).alloc (bxO (vInt s)))
  have F3 := Lib.hid ((F3.out.trans (hb.mono F3.out.size)).alloc (F3.out.trans (hb.mono F3.out.size)).size (bxO (vInt s)))
  have G1 := Lib.hid (Bx.new w1a (vInt s))
  clear hb
  generalize w1a.alloc (bxO (vInt s)) = w1b at *
  generalize w1a.heap.size = b3 at *
  obtain ⟨c0, c1, c2, c3, c4⟩ := F2.out
  obtain ⟨g1_0, g1_1, g1_2, g1_3, g1_4⟩ := G1.out
  go_wp2_with fail
  refine (HD.out _).mono ?_
  rintro e w2a ⟨rfl, hb⟩
  clear c0 c1 c2 c3 c4 g1_0 g1_1 g1_2 g1_3 g1_4
  go_upto_region 5 with fail
  have F1 := Lib.hid ((F1.out.below hb).alloc (bxO (vInt x)))
  have F2 := Lib.hid ((F2.out.below hb).alloc (bxO (vInt x)))
  have G1 := Lib.hid ((G1.out.below hb).alloc (bxO (vInt x)))
  have F3 := Lib.hid ((F3.out.trans (hb.mono F3.out.size)).alloc (F3.out.trans (hb.mono F3.out.size)).size (bxO (vInt x)))
  have G2 := Lib.hid (Bx.new w2a (vInt x))
  clear hb
  generalize w2a.alloc (bxO (vInt x)) = w2b at *
  generalize w2a.heap.size = b4 at *
  obtain ⟨g1_0, g1_1, g1_2, g1_3, g1_4⟩ := G1.out
  obtain ⟨g2_0, g2_1, g2_2, g2_3, g2_4⟩ := G2.out
  have tA := TA.out
  have tB := TB.out
  rcases bA with _ | _
  all_goals
    go_upto_region 7 with fail
    clear g1_0 g1_1 g1_2 g1_3 g1_4 g2_0 g2_1 g2_2 g2_3 g2_4
    clear tA tB
    obtain ⟨a0, a1, a2, a3, a4⟩ := F1.out
    obtain ⟨c0, c1, c2, c3, c4⟩ := F2.out
    go_wp2_with fail
    refine (HB.out _).mono ?_
    rintro e w3a ⟨rfl, hb⟩
    clear a0 a1 a2 a3 a4 c0 c1 c2 c3 c4
    go_upto_region 8 with fail
    have F1 := Lib.hid ((F1.out.below hb).alloc (bxO (vInt p)))
    have F2 := Lib.hid ((F2.out.below hb).alloc (bxO (vInt p)))
    have G1 := Lib.hid ((G1.out.below hb).alloc (bxO (vInt p)))
    have G2 := Lib.hid ((G2.out.below hb).alloc (bxO (vInt p)))
    have F3 := Lib.hid ((F3.out.trans (hb.mono F3.out.size)).alloc (F3.out.trans (hb.mono F3.out.size)).size (bxO (vInt p)))
    have G3 := Lib.hid (Bx.new w3a (vInt p))
    clear hb
    generalize w3a.alloc (bxO (vInt p)) = w3b at *
    generalize w3a.heap.size = b5 at *
    obtain ⟨c0, c1, c2, c3, c4⟩ := F2.out
    obtain ⟨g3_0, g3_1, g3_2, g3_3, g3_4⟩ := G3.out
    go_wp2_with fail
    refine (HE.out _).mono ?_
    rintro e w4a ⟨rfl, hb⟩
    clear c0 c1 c2 c3 c4 g3_0 g3_1 g3_2 g3_3 g3_4
    go_upto_region 10 with fail
    have F1 := Lib.hid ((F1.out.below hb).alloc (bxO (vInt x)))
    have F2 := Lib.hid ((F2.out.below hb).alloc (bxO (vInt x)))
    have G1 := Lib.hid ((G1.out.below hb).alloc (bxO (vInt x)))
    have G2 := Lib.hid ((G2.out.below hb).alloc (bxO (vInt x)))
    have G3 := Lib.hid ((G3.out.below hb).alloc (bxO (vInt x)))
    have F3 := Lib.hid ((F3.out.trans (hb.mono F3.out.size)).alloc (F3.out.trans (hb.mono F3.out.size)).size (bxO (vInt x)))
    have G4 := Lib.hid (Bx.new w4a (vInt x))
    clear hb
    generalize w4a.alloc (bxO (vInt x)) = w4b at *
    generalize w4a.heap.size = b6 at *
    obtain ⟨g4_0, g4_1, g4_2, g4_3, g4_4⟩ := G4.out
    go_upto_region 12 with fail
    clear g4_0 g4_1 g4_2 g4_3 g4_4
    obtain ⟨a0, a1, a2, a3, a4⟩ := F1.out
    obtain ⟨c0, c1, c2, c3, c4⟩ := F2.out
    go_wp2_with fail
    refine (HC.out _).mono ?_
    rintro e w5a ⟨rfl, hb⟩
    clear a0 a1 a2 a3 a4 c0 c1 c2 c3 c4
    go_upto_region 13 with fail
    have F1 := Lib.hid ((F1.out.below hb).alloc (bxO (vInt q)))
    have F2 := Lib.hid ((F2.out.below hb).alloc (bxO (vInt q)))
    have G1 := Lib.hid ((G1.out.below hb).alloc (bxO (vInt q)))
    have G2 := Lib.hid ((G2.out.below hb).alloc (bxO (vInt q)))
    have G3 := Lib.hid ((G3.out.below hb).alloc (bxO (vInt q)))
    have G4 := Lib.hid ((G4.out.below hb).alloc (bxO (vInt q)))
    have F3 := Lib.hid ((F3.out.trans (hb.mono F3.out.size)).alloc (F3.out.trans (hb.mono F3.out.size)).size (bxO (vInt q)))
    have G5 := Lib.hid (Bx.new w5a (vInt q))
    clear hb
    generalize w5a.alloc (bxO (vInt q)) = w5b at *
    generalize w5a.heap.size = b7 at *
    obtain ⟨c0, c1, c2, c3, c4⟩ := F2.out
    obtain ⟨g5_0, g5_1, g5_2, g5_3, g5_4⟩ := G5.out
    go_wp2_with fail
    refine (HT.out _).mono ?_
    rintro e w6a ⟨rfl, hb⟩
    clear c0 c1 c2 c3 c4 g5_0 g5_1 g5_2 g5_3 g5_4
    go_upto_region 18 with fail
    have F1 := Lib.hid ((F1.out.below hb).alloc (bxO (vInt t)))
    have F2 := Lib.hid ((F2.out.below hb).alloc (bxO (vInt t)))
    have G1 := Lib.hid ((G1.out.below hb).alloc (bxO (vInt t)))
    have G2 := Lib.hid ((G2.out.below hb).alloc (bxO (vInt t)))
    have G3 := Lib.hid ((G3.out.below hb).alloc (bxO (vInt t)))
    have G4 := Lib.hid ((G4.out.below hb).alloc (bxO (vInt t)))
    have G5 := Lib.hid ((G5.out.below hb).alloc (bxO (vInt t)))
    have F3 := Lib.hid ((F3.out.trans (hb.mono F3.out.size)).alloc (F3.out.trans (hb.mono F3.out.size)).size (bxO (vInt t)))
    have G6 := Lib.hid (Bx.new w6a (vInt t))
    clear hb
    generalize w6a.alloc (bxO (vInt t)) = w6b at *
    generalize w6a.heap.size = b8 at *
    obtain ⟨a0, a1, a2, a3, a4⟩ := F1.out
    obtain ⟨g6_0, g6_1, g6_2, g6_3, g6_4⟩ := G6.out
    go_wp2_with fail
    refine (HR.out _).mono ?_
    rintro e w7a ⟨rfl, hb⟩
    clear a0 a1 a2 a3 a4 g6_0 g6_1 g6_2 g6_3 g6_4
    go_upto_region 19 with fail
    have F1 := Lib.hid ((F1.out.below hb).alloc (bxO (vInt r)))
    have F2 := Lib.hid ((F2.out.below hb).alloc (bxO (vInt r)))
    have G1 := Lib.hid ((G1.out.below hb).alloc (bxO (vInt r)))
    have G2 := Lib.hid ((G2.out.below hb).alloc (bxO (vInt r)))
    have G3 := Lib.hid ((G3.out.below hb).alloc (bxO (vInt r)))
    have G4 := Lib.hid ((G4.out.below hb).alloc (bxO (vInt r)))
    have G5 := Lib.hid ((G5.out.below hb).alloc (bxO (vInt r)))
    have G6 := Lib.hid ((G6.out.below hb).alloc (bxO (vInt r)))
    have F3 := Lib.hid ((F3.out.trans (hb.mono F3.out.size)).alloc (F3.out.trans (hb.mono F3.out.size)).size (bxO (vInt r)))
    have G7 := Lib.hid (Bx.new w7a (vInt r))
    clear hb
    generalize w7a.alloc (bxO (vInt r)) = w7b at *
    generalize w7a.heap.size = b9 at *
    obtain ⟨g7_0, g7_1, g7_2, g7_3, g7_4⟩ := G7.out
    rcases TR.out with r0 | ⟨r0, r1⟩
    · skip
      go_wp2_with fail
      refine (awake4_any _).mono ?_
      rintro e wz ⟨rfl, hb⟩
      have F3 := Lib.hid (F3.out.trans (hb.mono F3.out.size))
      clear hb
      go_wp2
      go_ret
      exact ⟨rfl, F3.out⟩
    · rcases hxn : decide (x < 0) with _ | _
      · rw [hxn] at r1
        go_wp2_with fail
        refine (awake4_any _).mono ?_
        rintro e wz ⟨rfl, hb⟩
        have F3 := Lib.hid (F3.out.trans (hb.mono F3.out.size))
        clear hb
        go_wp2
        go_ret
        exact ⟨rfl, F3.out⟩
      · rw [hxn] at r1
        go_wp2_with fail
        refine (awake4_any _).mono ?_
        rintro e wz ⟨rfl, hb⟩
        have F3 := Lib.hid (F3.out.trans (hb.mono F3.out.size))
        clear hb
        go_wp2
        go_ret
        exact ⟨rfl, F3.out⟩

set_option maxHeartbeats 8000000 in
theorem ints_path_133 (x y s p q t r : Int) (w : World) (hA : RkI 4 x y (vInt s) 0) (hD : RkI 5 s y (vInt x) 0) (hB : RkI 6 x y vZero 41) (hC : RkI 7 x y (vInt q) 0) (hT : RkI 6 q y (vInt t) 0) (hR : RkI 5 x t (vInt r) 0) (bA : Bool) (tA : decide (0 ≤ y) = bA) (tB : decide (x ≤ s) = bA) (ty : (y == 0) = false) (tr : (r == 0) = true ∨ ((r == 0) = false ∧ decide (r < 0) = decide (x < 0))) : Calls Try.prog 11 #[.int .i64 x, .int .i64 y] w (VMk (.bool true) w) := by
  have hsf := fun (w : World) (a : Addr) (m : Mode) (b : Nat) => run_store Try.prog w a (.float .f64 b) m rfl
  have ty2 : (y != 0) = true := by rw [bne, ty]; rfl
  have HA := Lib.hid hA
  have HD := Lib.hid hD
  have HB := Lib.hid hB
  have HC := Lib.hid hC
  have HT := Lib.hid hT
  have HR := Lib.hid hR
  clear hA hD hB hC hT hR
  have TA := Lib.hid tA
  have TB := Lib.hid tB
  clear tA tB
  have TR := Lib.hid tr
  clear tr
  go_enter Try.func11, Try.ntmps11
  go_wp2_with fail
  refine (rIntV_any x _).mono ?_
  rintro e w1 ⟨rfl, hb1⟩
  go_wp2_with fail
  refine (rIntV_any y _).mono ?_
  rintro e w2 ⟨rfl, hb2⟩
  have B2 := hb1.trans (hb2.mono hb1.size)
  go_upto_region 2 with fail
  have F1 := Lib.hid ((Bx.new w2 (vInt x)).alloc (bxO (vInt y)))
  have F2 : Bx ((w2.alloc (bxO (vInt x))).alloc (bxO (vInt y))) (w2.heap.size + 1) (vInt y) := by
    have h := Bx.new (w2.alloc (bxO (vInt x))) (vInt y)
    simpa using h
  have F2 := Lib.hid F2
  have F3 := Lib.hid ((B2.alloc B2.size (bxO (vInt x))).alloc (by have := B2.size; simp; omega) (bxO (vInt y)))
  clear B2 hb1 hb2
  generalize (w2.alloc (bxO (vInt x))).alloc (bxO (vInt y)) = wc at *
  generalize w2.heap.size + 1 = b2 at *
  generalize w2.heap.size = b1 at *
  obtain ⟨a0, a1, a2, a3, a4⟩ := F1.out
  obtain ⟨c0, c1, c2, c3, c4⟩ := F2.out
  go_wp2_with fail
  refine (HA.out _).mono ?_
  rintro e w1a ⟨rfl, hb⟩
  clear a0 a1 a2 a3 a4 c0 c1 c2 c3 c4
  go_upto_region 3 with fail
  have F1 := Lib.hid ((F1.out.below hb).alloc (bxO (vInt s)))
  have F2 := Lib.hid ((F2.out.below hb).alloc (bxO (vInt s)))
  have F3 := Lib.hid ((F3.out.trans (hb.mono F3.out.size)).alloc (F3.out.trans (hb.mono F3.out.size)).size (bxO (vInt s)))
  have G1 := Lib.hid (Bx.new w1a (vInt s))
  clear hb
  generalize w1a.alloc (bxO (vInt s)) = w1b at *
  generalize w1a.heap.size = b3 at *
  obtain ⟨c0, c1, c2, c3, c4⟩ := F2.out
  obtain ⟨g1_0, g1_1, g1_2, g1_3, g1_4⟩ := G1.out
  go_wp2_with fail
  refine (HD.out _).mono ?_
  rintro e w2a ⟨rfl, hb⟩
  clear c0 c1 c2 c3 c4 g1_0 g1_1 g1_2 g1_3 g1_4
  go_upto_region 5 with fail
  have F1 := Lib.hid ((F1.out.below hb).alloc (bxO (vInt x)))
  have F2 := Lib.hid ((F2.out.below hb).alloc (bxO (vInt x)))
  have G1 := Lib.hid ((G1.out.below hb).alloc (bxO (vInt x)))
  have F3 := Lib.hid ((F3.out.trans (hb.mono F3.out.size)).alloc (F3.out.trans (hb.mono F3.out.size)).size (bxO (vInt x)))
  have G2 := Lib.hid (Bx.new w2a (vInt x))
  clear hb
  generalize w2a.alloc (bxO (vInt x)) = w2b at *
  generalize w2a.heap.size = b4 at *
  obtain ⟨g1_0, g1_1, g1_2, g1_3, g1_4⟩ := G1.out
  obtain ⟨g2_0, g2_1, g2_2, g2_3, g2_4⟩ := G2.out
  have tA := TA.out
  have tB := TB.out
  rcases bA with _ | _
  all_goals
    go_upto_region 7 with fail
    clear g1_0 g1_1 g1_2 g1_3 g1_4 g2_0 g2_1 g2_2 g2_3 g2_4
    clear tA tB
    obtain ⟨a0, a1, a2, a3, a4⟩ := F1.out
    obtain ⟨c0, c1, c2, c3, c4⟩ := F2.out
    go_wp2_with fail
    refine (HB.out _).mono ?_
    rintro e w3a ⟨rfl, hb⟩
    clear a0 a1 a2 a3 a4 c0 c1 c2 c3 c4
    go_upto_region 8 with fail
    have F1 := Lib.hid ((F1.out.below hb).alloc (bxO (vZero)))
    have F2 := Lib.hid ((F2.out.below hb).alloc (bxO (vZero)))
    have G1 := Lib.hid ((G1.out.below hb).alloc (bxO (vZero)))
    have G2 := Lib.hid ((G2.out.below hb).alloc (bxO (vZero)))
    have F3 := Lib.hid ((F3.out.trans (hb.mono F3.out.size)).alloc (F3.out.trans (hb.mono F3.out.size)).size (bxO (vZero)))
    have G3 := Lib.hid (Bx.new w3a (vZero))
    clear hb
    generalize w3a.alloc (bxO (vZero)) = w3b at *
    generalize w3a.heap.size = b5 at *
    go_upto_region 12 with fail
    obtain ⟨a0, a1, a2, a3, a4⟩ := F1.out
    obtain ⟨c0, c1, c2, c3, c4⟩ := F2.out
    go_wp2_with fail
    refine (HC.out _).mono ?_
    rintro e w4a ⟨rfl, hb⟩
    clear a0 a1 a2 a3 a4 c0 c1 c2 c3 c4
    go_upto_region 13 with fail
    have F1 := Lib.hid ((F1.out.below hb).alloc (bxO (vInt q)))
    have F2 := Lib.hid ((F2.out.below hb).alloc (bxO (vInt q)))
    have G1 := Lib.hid ((G1.out.below hb).alloc (bxO (vInt q)))
    have G2 := Lib.hid ((G2.out.below hb).alloc (bxO (vInt q)))
    have G3 := Lib.hid ((G3.out.below hb).alloc (bxO (vInt q)))
    have F3 := Lib.hid ((F3.out.trans (hb.mono F3.out.size)).alloc (F3.out.trans (hb.mono F3.out.size)).size (bxO (vInt q)))
    have G4 := Lib.hid (Bx.new w4a (vInt q))
    clear hb
    generalize w4a.alloc (bxO (vInt q)) = w4b at *
    generalize w4a.heap.size = b6 at *
    obtain ⟨c0, c1, c2, c3, c4⟩ := F2.out
    obtain ⟨g4_0, g4_1, g4_2, g4_3, g4_4⟩ := G4.out
    go_wp2_with fail
    refine (HT.out _).mono ?_
    rintro e w5a ⟨rfl, hb⟩
    clear c0 c1 c2 c3 c4 g4_0 g4_1 g4_2 g4_3 g4_4
    go_upto_region 18 with fail
    have F1 := Lib.hid ((F1.out.below hb).alloc (bxO (vInt t)))
    have F2 := Lib.hid ((F2.out.below hb).alloc (bxO (vInt t)))
    have G1 := Lib.hid ((G1.out.below hb).alloc (bxO (vInt t)))
    have G2 := Lib.hid ((G2.out.below hb).alloc (bxO (vInt t)))
    have G3 := Lib.hid ((G3.out.below hb).alloc (bxO (vInt t)))
    have G4 := Lib.hid ((G4.out.below hb).alloc (bxO (vInt t)))
    have F3 := Lib.hid ((F3.out.trans (hb.mono F3.out.size)).alloc (F3.out.trans (hb.mono F3.out.size)).size (bxO (vInt t)))
    have G5 := Lib.hid (Bx.new w5a (vInt t))
    clear hb
    generalize w5a.alloc (bxO (vInt t)) = w5b at *
    generalize w5a.heap.size = b7 at *
    obtain ⟨a0, a1, a2, a3, a4⟩ := F1.out
    obtain ⟨g5_0, g5_1, g5_2, g5_3, g5_4⟩ := G5.out
    go_wp2_with fail
    refine (HR.out _).mono ?_
    rintro e w6a ⟨rfl, hb⟩
    clear a0 a1 a2 a3 a4 g5_0 g5_1 g5_2 g5_3 g5_4
    go_upto_region 19 with fail
    have F1 := Lib.hid ((F1.out.below hb).alloc (bxO (vInt r)))
    have F2 := Lib.hid ((F2.out.below hb).alloc (bxO (vInt r)))
    have G1 := Lib.hid ((G1.out.below hb).alloc (bxO (vInt r)))
    have G2 := Lib.hid ((G2.out.below hb).alloc (bxO (vInt r)))
    have G3 := Lib.hid ((G3.out.below hb).alloc (bxO (vInt r)))
    have G4 := Lib.hid ((G4.out.below hb).alloc (bxO (vInt r)))
    have G5 := Lib.hid ((G5.out.below hb).alloc (bxO (vInt r)))
    have F3 := Lib.hid ((F3.out.trans (hb.mono F3.out.size)).alloc (F3.out.trans (hb.mono F3.out.size)).size (bxO (vInt r)))
    have G6 := Lib.hid (Bx.new w6a (vInt r))
    clear hb
    generalize w6a.alloc (bxO (vInt r)) = w6b at *
    generalize w6a.heap.size = b8 at *
    obtain ⟨g6_0, g6_1, g6_2, g6_3, g6_4⟩ := G6.out
    rcases TR.out with r0 | ⟨r0, r1⟩
    · skip
      go_wp2_with fail
      refine (awake4_any _).mono ?_
      rintro e wz ⟨rfl, hb⟩
      have F3 := Lib.hid (F3.out.trans (hb.mono F3.out.size))
      clear hb
      go_wp2
      go_ret
      exact ⟨rfl, F3.out⟩
    · rcases hxn : decide (x < 0) with _ | _
      · rw [hxn] at r1
        go_wp2_with fail
        refine (awake4_any _).mono ?_
        rintro e wz ⟨rfl, hb⟩
        have F3 := Lib.hid (F3.out.trans (hb.mono F3.out.size))
        clear hb
        go_wp2
        go_ret
        exact ⟨rfl, F3.out⟩
      · rw [hxn] at r1
        go_wp2_with fail
        refine (awake4_any _).mono ?_
        rintro e wz ⟨rfl, hb⟩
        have F3 := Lib.hid (F3.out.trans (hb.mono F3.out.size))
        clear hb
        go_wp2
        go_ret
        exact ⟨rfl, F3.out⟩

set_option maxHeartbeats 8000000 in
theorem ints_path_013 (x y s p q t r : Int) (w : World) (hA : RkI 4 x y vZero 41) (hB : RkI 6 x y (vInt p) 0) (hE : RkI 7 p y (vInt x) 0) (hC : RkI 7 x y (vInt q) 0) (hT : RkI 6 q y (vInt t) 0) (hR : RkI 5 x t (vInt r) 0) (ty : (y == 0) = false) (tr : (r == 0) = true ∨ ((r == 0) = false ∧ decide (r < 0) = decide (x < 0))) : Calls Try.prog 11 #[.int .i64 x, .int .i64 y] w (VMk (.bool true) w) := by
  have hsf := fun (w : World) (a : Addr) (m : Mode) (b : Nat) => run_store Try.prog w a (.float .f64 b) m rfl
  have ty2 : (y != 0) = true := by rw [bne, ty]; rfl
  have HA := Lib.hid hA
  have HB := Lib.hid hB
  have HE := Lib.hid hE
  have HC := Lib.hid hC
  have HT := Lib.hid hT
  have HR := Lib.hid hR
  clear hA hB hE hC hT hR
  have TR := Lib.hid tr
  clear tr
  go_enter Try.func11, Try.ntmps11
  go_wp2_with fail
  refine (rIntV_any x _).mono ?_
  rintro e w1 ⟨rfl, hb1⟩
  go_wp2_with fail
  refine (rIntV_any y _).mono ?_
  rintro e w2 ⟨rfl, hb2⟩
  have B2 := hb1.trans (hb2.mono hb1.size)
  go_upto_region 2 with fail
  have F1 := Lib.hid ((Bx.new w2 (vInt x)).alloc (bxO (vInt y)))
  have F2 : Bx ((w2.alloc (bxO (vInt x))).alloc (bxO (vInt y))) (w2.heap.size + 1) (vInt y) := by
    have h := Bx.new (w2.alloc (bxO (vInt x))) (vInt y)
    simpa using h
  have F2 := Lib.hid F2
  have F3 := Lib.hid ((B2.alloc B2.size (bxO (vInt x))).alloc (by have := B2.size; simp; omega) (bxO (vInt y)))
  clear B2 hb1 hb2
  generalize (w2.alloc (bxO (vInt x))).alloc (bxO (vInt y)) = wc at *
  generalize w2.heap.size + 1 = b2 at *
  generalize w2.heap.size = b1 at *
  obtain ⟨a0, a1, a2, a3, a4⟩ := F1.out
  obtain ⟨c0, c1, c2, c3, c4⟩ := F2.out
  go_wp2_with fail
  refine (HA.out _).mono ?_
  rintro e w1a ⟨rfl, hb⟩
  clear a0 a1 a2 a3 a4 c0 c1 c2 c3 c4
  go_upto_region 3 with fail
  have F1 := Lib.hid ((F1.out.below hb).alloc (bxO (vZero)))
  have F2 := Lib.hid ((F2.out.below hb).alloc (bxO (vZero)))
  have F3 := Lib.hid ((F3.out.trans (hb.mono F3.out.size)).alloc (F3.out.trans (hb.mono F3.out.size)).size (bxO (vZero)))
  have G1 := Lib.hid (Bx.new w1a (vZero))
  clear hb
  generalize w1a.alloc (bxO (vZero)) = w1b at *
  generalize w1a.heap.size = b3 at *
  go_upto_region 7 with fail
  obtain ⟨a0, a1, a2, a3, a4⟩ := F1.out
  obtain ⟨c0, c1, c2, c3, c4⟩ := F2.out
  go_wp2_with fail
  refine (HB.out _).mono ?_
  rintro e w2a ⟨rfl, hb⟩
  clear a0 a1 a2 a3 a4 c0 c1 c2 c3 c4
  go_upto_region 8 with fail
  have F1 := Lib.hid ((F1.out.below hb).alloc (bxO (vInt p)))
  have F2 := Lib.hid ((F2.out.below hb).alloc (bxO (vInt p)))
  have G1 := Lib.hid ((G1.out.below hb).alloc (bxO (vInt p)))
  have F3 := Lib.hid ((F3.out.trans (hb.mono F3.out.size)).alloc (F3.out.trans (hb.mono F3.out.size)).size (bxO (vInt p)))
  have G2 := Lib.hid (Bx.new w2a (vInt p))
  clear hb
  generalize w2a.alloc (bxO (vInt p)) = w2b at *
  generalize w2a.heap.size = b4 at *
  obtain ⟨c0, c1, c2, c3, c4⟩ := F2.out
  obtain ⟨g2_0, g2_1, g2_2, g2_3, g2_4⟩ := G2.out
  go_wp2_with fail
  refine (HE.out _).mono ?_
  rintro e w3a ⟨rfl, hb⟩
  clear c0 c1 c2 c3 c4 g2_0 g2_1 g2_2 g2_3 g2_4
  go_upto_region 10 with fail
  have F1 := Lib.hid ((F1.out.below hb).alloc (bxO (vInt x)))
  have F2 := Lib.hid ((F2.out.below hb).alloc (bxO (vInt x)))
  have G1 := Lib.hid ((G1.out.below hb).alloc (bxO (vInt x)))
  have G2 := Lib.hid ((G2.out.below hb).alloc (bxO (vInt x)))
  have F3 := Lib.hid ((F3.out.trans (hb.mono F3.out.size)).alloc (F3.out.trans (hb.mono F3.out.size)).size (bxO (vInt x)))
  have G3 := Lib.hid (Bx.new w3a (vInt x))
  clear hb
  generalize w3a.alloc (bxO (vInt x)) = w3b at *
  generalize w3a.heap.size = b5 at *
  obtain ⟨g3_0, g3_1, g3_2, g3_3, g3_4⟩ := G3.out
  go_upto_region 12 with fail
  clear g3_0 g3_1 g3_2 g3_3 g3_4
  obtain ⟨a0, a1, a2, a3, a4⟩ := F1.out
  obtain ⟨c0, c1, c2, c3, c4⟩ := F2.out
  go_wp2_with fail
  refine (HC.out _).mono ?_
  rintro e w4a ⟨rfl, hb⟩
  clear a0 a1 a2 a3 a4 c0 c1 c2 c3 c4
  go_upto_region 13 with fail
  have F1 := Lib.hid ((F1.out.below hb).alloc (bxO (vInt q)))
  have F2 := Lib.hid ((F2.out.below hb).alloc (bxO (vInt q)))
  have G1 := Lib.hid ((G1.out.below hb).alloc (bxO (vInt q)))
  have G2 := Lib.hid ((G2.out.below hb).alloc (bxO (vInt q)))
  have G3 := Lib.hid ((G3.out.below hb).alloc (bxO (vInt q)))
  have F3 := Lib.hid ((F3.out.trans (hb.mono F3.out.size)).alloc (F3.out.trans (hb.mono F3.out.size)).size (bxO (vInt q)))
  have G4 := Lib.hid (Bx.new w4a (vInt q))
  clear hb
  generalize w4a.alloc (bxO (vInt q)) = w4b at *
  generalize w4a.heap.size = b6 at *
  obtain ⟨c0, c1, c2, c3, c4⟩ := F2.out
  obtain ⟨g4_0, g4_1, g4_2, g4_3, g4_4⟩ := G4.out
  go_wp2_with fail
  refine (HT.out _).mono ?_
  rintro e w5a ⟨rfl, hb⟩
  clear c0 c1 c2 c3 c4 g4_0 g4_1 g4_2 g4_3 g4_4
  go_upto_region 18 with fail
  have F1 := Lib.hid ((F1.out.below hb).alloc (bxO (vInt t)))
  have F2 := Lib.hid ((F2.out.below hb).alloc (bxO (vInt t)))
  have G1 := Lib.hid ((G1.out.below hb).alloc (bxO (vInt t)))
  have G2 := Lib.hid ((G2.out.below hb).alloc (bxO (vInt t)))
  have G3 := Lib.hid ((G3.out.below hb).alloc (bxO (vInt t)))
  have G4 := Lib.hid ((G4.out.below hb).alloc (bxO (vInt t)))
  have F3 := Lib.hid ((F3.out.trans (hb.mono F3.out.size)).alloc (F3.out.trans (hb.mono F3.out.size)).size (bxO (vInt t)))
  have G5 := Lib.hid (Bx.new w5a (vInt t))
  clear hb
  generalize w5a.alloc (bxO (vInt t)) = w5b at *
  generalize w5a.heap.size = b7 at *
  obtain ⟨a0, a1, a2, a3, a4⟩ := F1.out
  obtain ⟨g5_0, g5_1, g5_2, g5_3, g5_4⟩ := G5.out
  go_wp2_with fail
  refine (HR.out _).mono ?_
  rintro e w6a ⟨rfl, hb⟩
  clear a0 a1 a2 a3 a4 g5_0 g5_1 g5_2 g5_3 g5_4
  go_upto_region 19 with fail
  have F1 := Lib.hid ((F1.out.below hb).alloc (bxO (vInt r)))
  have F2 := Lib.hid ((F2.out.below hb).alloc (bxO (vInt r)))
  have G1 := Lib.hid ((G1.out.below hb).alloc (bxO (vInt r)))
  have G2 := Lib.hid ((G2.out.below hb).alloc (bxO (vInt r)))
  have G3 := Lib.hid ((G3.out.below hb).alloc (bxO (vInt r)))
  have G4 := Lib.hid ((G4.out.below hb).alloc (bxO (vInt r)))
  have G5 := Lib.hid ((G5.out.below hb).alloc (bxO (vInt r)))
  have F3 := Lib.hid ((F3.out.trans (hb.mono F3.out.size)).alloc (F3.out.trans (hb.mono F3.out.size)).size (bxO (vInt r)))
  have G6 := Lib.hid (Bx.new w6a (vInt r))
  clear hb
  generalize w6a.alloc (bxO (vInt r)) = w6b at *
  generalize w6a.heap.size = b8 at *
  obtain ⟨g6_0, g6_1, g6_2, g6_3, g6_4⟩ := G6.out
  rcases TR.out with r0 | ⟨r0, r1⟩
  · skip
    go_wp2_with fail
    refine (awake4_any _).mono ?_
    rintro e wz ⟨rfl, hb⟩
    have F3 := Lib.hid (F3.out.trans (hb.mono F3.out.size))
    clear hb
    go_wp2
    go_ret
    exact ⟨rfl, F3.out⟩
  · rcases hxn : decide (x < 0) with _ | _
    · rw [hxn] at r1
      go_wp2_with fail
      refine (awake4_any _).mono ?_
      rintro e wz ⟨rfl, hb⟩
      have F3 := Lib.hid (F3.out.trans (hb.mono F3.out.size))
      clear hb
      go_wp2
      go_ret
      exact ⟨rfl, F3.out⟩
    · rw [hxn] at r1
      go_wp2_with fail
      refine (awake4_any _).mono ?_
      rintro e wz ⟨rfl, hb⟩
      have F3 := Lib.hid (F3.out.trans (hb.mono F3.out.size))
      clear hb
      go_wp2
      go_ret
      exact ⟨rfl, F3.out⟩

set_option maxHeartbeats 8000000 in
theorem ints_path_033 (x y s p q t r : Int) (w : World) (hA : RkI 4 x y vZero 41) (hB : RkI 6 x y vZero 41) (hC : RkI 7 x y (vInt q) 0) (hT : RkI 6 q y (vInt t) 0) (hR : RkI 5 x t (vInt r) 0) (ty : (y == 0) = false) (tr : (r == 0) = true ∨ ((r == 0) = false ∧ decide (r < 0) = decide (x < 0))) : Calls Try.prog 11 #[.int .i64 x, .int .i64 y] w (VMk (.bool true) w) := by
  have hsf := fun (w : World) (a : Addr) (m : Mode) (b : Nat) => run_store Try.prog w a (.float .f64 b) m rfl
  have ty2 : (y != 0) = true := by rw [bne, ty]; rfl
  have HA := Lib.hid hA
  have HB := Lib.hid hB
  have HC := Lib.hid hC
  have HT := Lib.hid hT
  have HR := Lib.hid hR
  clear hA hB hC hT hR
  have TR := Lib.hid tr
  clear tr
  go_enter Try.func11, Try.ntmps11
  go_wp2_with fail
  refine (rIntV_any x _).mono ?_
  rintro e w1 ⟨rfl, hb1⟩
  go_wp2_with fail
  refine (rIntV_any y _).mono ?_
  rintro e w2 ⟨rfl, hb2⟩
  have B2 := hb1.trans (hb2.mono hb1.size)
  go_upto_region 2 with fail
  have F1 := Lib.hid ((Bx.new w2 (vInt x)).alloc (bxO (vInt y)))
  have F2 : Bx ((w2.alloc (bxO (vInt x))).alloc (bxO (vInt y))) (w2.heap.size + 1) (vInt y) := by
    have h := Bx.new (w2.alloc (bxO (vInt x))) (vInt y)
    simpa using h
  have F2 := Lib.hid F2
  have F3 := Lib.hid ((B2.alloc B2.size (bxO (vInt x))).alloc (by have := B2.size; simp; omega) (bxO (vInt y)))
  clear B2 hb1 hb2
  generalize (w2.alloc (bxO (vInt x))).alloc (bxO (vInt y)) = wc at *
  generalize w2.heap.size + 1 = b2 at *
  generalize w2.heap.size = b1 at *
  obtain ⟨a0, a1, a2, a3, a4⟩ := F1.out
  obtain ⟨c0, c1, c2, c3, c4⟩ := F2.out
  go_wp2_with fail
  refine (HA.out _).mono ?_
  rintro e w1a ⟨rfl, hb⟩
  clear a0 a1 a2 a3 a4 c0 c1 c2 c3 c4
  go_upto_region 3 with fail
  have F1 := Lib.hid ((F1.out.below hb).alloc (bxO (vZero)))
  have F2 := Lib.hid ((F2.out.below hb).alloc (bxO (vZero)))
  have F3 := Lib.hid ((F3.out.trans (hb.mono F3.out.size)).alloc (F3.out.trans (hb.mono F3.out.size)).size (bxO (vZero)))
  have G1 := Lib.hid (Bx.new w1a (vZero))
  clear hb
  generalize w1a.alloc (bxO (vZero)) = w1b at *
  generalize w1a.heap.size = b3 at *
  go_upto_region 7 with fail
  obtain ⟨a0, a1, a2, a3, a4⟩ := F1.out
  obtain ⟨c0, c1, c2, c3, c4⟩ := F2.out
  go_wp2_with fail
  refine (HB.out _).mono ?_
  rintro e w2a ⟨rfl, hb⟩
  clear a0 a1 a2 a3 a4 c0 c1 c2 c3 c4
  go_upto_region 8 with fail
  have F1 := Lib.hid ((F1.out.below hb).alloc (bxO (vZero)))
  have F2 := Lib.hid ((F2.out.below hb).alloc (bxO (vZero)))
  have G1 := Lib.hid ((G1.out.below hb).alloc (bxO (vZero)))
  have F3 := Lib.hid ((F3.out.trans (hb.mono F3.out.size)).alloc (F3.out.trans (hb.mono F3.out.size)).size (bxO (vZero)))
  have G2 := Lib.hid (Bx.new w2a (vZero))
  clear hb
  generalize w2a.alloc (bxO (vZero)) = w2b at *
  generalize w2a.heap.size = b4 at *
  go_upto_region 12 with fail
  obtain ⟨a0, a1, a2, a3, a4⟩ := F1.out
  obtain ⟨c0, c1, c2, c3, c4⟩ := F2.out
  go_wp2_with fail
  refine (HC.out _).mono ?_
  rintro e w3a ⟨rfl, hb⟩
  clear a0 a1 a2 a3 a4 c0 c1 c2 c3 c4
  go_upto_region 13 with fail
  have F1 := Lib.hid ((F1.out.below hb).alloc (bxO (vInt q)))
  have F2 := Lib.hid ((F2.out.below hb).alloc (bxO (vInt q)))
  have G1 := Lib.hid ((G1.out.below hb).alloc (bxO (vInt q)))
  have G2 := Lib.hid ((G2.out.below hb).alloc (bxO (vInt q)))
  have F3 := Lib.hid ((F3.out.trans (hb.mono F3.out.size)).alloc (F3.out.trans (hb.mono F3.out.size)).size (bxO (vInt q)))
  have G3 := Lib.hid (Bx.new w3a (vInt q))
  clear hb
  generalize w3a.alloc (bxO (vInt q)) = w3b at *
  generalize w3a.heap.size = b5 at *
  obtain ⟨c0, c1, c2, c3, c4⟩ := F2.out
  obtain ⟨g3_0, g3_1, g3_2, g3_3, g3_4⟩ := G3.out
  go_wp2_with fail
  refine (HT.out _).mono ?_
  rintro e w4a ⟨rfl, hb⟩
  clear c0 c1 c2 c3 c4 g3_0 g3_1 g3_2 g3_3 g3_4
  go_upto_region 18 with fail
  have F1 := Lib.hid ((F1.out.below hb).alloc (bxO (vInt t)))
  have F2 := Lib.hid ((F2.out.below hb).alloc (bxO (vInt t)))
  have G1 := Lib.hid ((G1.out.below hb).alloc (bxO (vInt t)))
  have G2 := Lib.hid ((G2.out.below hb).alloc (bxO (vInt t)))
  have G3 := Lib.hid ((G3.out.below hb).alloc (bxO (vInt t)))
  have F3 := Lib.hid ((F3.out.trans (hb.mono F3.out.size)).alloc (F3.out.trans (hb.mono F3.out.size)).size (bxO (vInt t)))
  have G4 := Lib.hid (Bx.new w4a (vInt t))
  clear hb
  generalize w4a.alloc (bxO (vInt t)) = w4b at *
  generalize w4a.heap.size = b6 at *
  obtain ⟨a0, a1, a2, a3, a4⟩ := F1.out
  obtain ⟨g4_0, g4_1, g4_2, g4_3, g4_4⟩ := G4.out
  go_wp2_with fail
  refine (HR.out _).mono ?_
  rintro e w5a ⟨rfl, hb⟩
  clear a0 a1 a2 a3 a4 g4_0 g4_1 g4_2 g4_3 g4_4
  go_upto_region 19 with fail
  have F1 := Lib.hid ((F1.out.below hb).alloc (bxO (vInt r)))
  have F2 := Lib.hid ((F2.out.below hb).alloc (bxO (vInt r)))
  have G1 := Lib.hid ((G1.out.below hb).alloc (bxO (vInt r)))
  have G2 := Lib.hid ((G2.out.below hb).alloc (bxO (vInt r)))
  have G3 := Lib.hid ((G3.out.below hb).alloc (bxO (vInt r)))
  have G4 := Lib.hid ((G4.out.below hb).alloc (bxO (vInt r)))
  have F3 := Lib.hid ((F3.out.trans (hb.mono F3.out.size)).alloc (F3.out.trans (hb.mono F3.out.size)).size (bxO (vInt r)))
  have G5 := Lib.hid (Bx.new w5a (vInt r))
  clear hb
  generalize w5a.alloc (bxO (vInt r)) = w5b at *
  generalize w5a.heap.size = b7 at *
  obtain ⟨g5_0, g5_1, g5_2, g5_3, g5_4⟩ := G5.out
  rcases TR.out with r0 | ⟨r0, r1⟩
  · skip
    go_wp2_with fail
    refine (awake4_any _).mono ?_
    rintro e wz ⟨rfl, hb⟩
    have F3 := Lib.hid (F3.out.trans (hb.mono F3.out.size))
    clear hb
    go_wp2
    go_ret
    exact ⟨rfl, F3.out⟩
  · rcases hxn : decide (x < 0) with _ | _
    · rw [hxn] at r1
      go_wp2_with fail
      refine (awake4_any _).mono ?_
      rintro e wz ⟨rfl, hb⟩
      have F3 := Lib.hid (F3.out.trans (hb.mono F3.out.size))
      clear hb
      go_wp2
      go_ret
      exact ⟨rfl, F3.out⟩
    · rw [hxn] at r1
      go_wp2_with fail
      refine (awake4_any _).mono ?_
      rintro e wz ⟨rfl, hb⟩
      have F3 := Lib.hid (F3.out.trans (hb.mono F3.out.size))
      clear hb
      go_wp2
      go_ret
      exact ⟨rfl, F3.out⟩

theorem ValueInts_any (x y : Int) (w : World) (hx : in64 x) (hy : in64 y) : Calls Try.prog 11 #[.int .i64 x, .int .i64 y] w (VMk (.bool true) w) := by
  have hx' := hx
  have hy' := hy
  unfold in64 at hx' hy'
  by_cases h0 : y = 0
  · subst h0
    refine ints_path_121 x 0 x 0 0 0 0 w (RkI_ok 4 x 0 x rfl hx hy ?_) (RkI_ok 5 x 0 x rfl hx hy ?_) (RkI_ok 6 x 0 0 rfl hx hy ?_) (RkI_no 7 x 0 42 rfl hx hy rfl (by decide)) true (by decide) (by simp) rfl
    · rw [ints_4, Int.add_zero, ovr_in hx]
    · rw [ints_5, Int.sub_zero, ovr_in hx]
    · rw [ints_6, Int.mul_zero]; rfl
  have ty : (y == 0) = false := by simpa using h0
  by_cases hm : x = -9223372036854775808 ∧ y = -1
  · obtain ⟨rfl, rfl⟩ := hm
    exact ints_path_032 _ _ 0 0 0 0 0 w (RkI_no 4 _ _ 41 rfl hx hy (by decide) (by decide)) (RkI_no 6 _ _ 41 rfl hx hy (by decide) (by decide)) (RkI_no 7 _ _ 41 rfl hx hy (by decide) (by decide)) rfl rfl
  have hq : intsV 7 x y = (x.tdiv y, 0) := by rw [ints_7]; unfold quoI; rw [if_neg h0, if_neg hm]
  have hq64 : in64 (x.tdiv y) := quot_in64 x y h0 hx hm
  have hdm := Int.mul_tdiv_add_tmod x y
  have hmod : (x.tmod y).natAbs < y.natAbs := by
    rw [Int.natAbs_tmod]; exact Nat.mod_lt _ (by omega)
  have hmodx : (x.tmod y).natAbs ≤ x.natAbs := by
    rw [Int.natAbs_tmod]; exact Nat.mod_le _ _
  have hmods : (x.tmod y = 0) ∨ (x.tmod y < 0 ↔ x < 0) := by
    by_cases hx0 : 0 ≤ x
    · right
      have := Int.tmod_nonneg y hx0
      omega
    · have h2 := Int.tmod_nonneg y (show 0 ≤ -x by omega)
      rw [Int.neg_tmod] at h2
      by_cases h3 : x.tmod y = 0
      · exact .inl h3
      · right; omega
  have ht : x.tdiv y * y = x - x.tmod y := by rw [Int.mul_comm]; omega
  have ht64 : in64 (x.tdiv y * y) := by
    rw [ht]; unfold in64
    rcases hmods with h | h
    · omega
    · by_cases hx0 : x < 0
      · have := h.2 hx0; omega
      · have : ¬ x.tmod y < 0 := fun g => hx0 (h.1 g)
        omega
  have hT : RkI 6 (x.tdiv y) y (vInt (x.tdiv y * y)) 0 := RkI_ok 6 _ _ _ rfl hq64 hy (by rw [ints_6, ovr_in ht64])
  have hR64 : in64 (x - x.tdiv y * y) := by rw [ht]; unfold in64; omega
  have hR : RkI 5 x (x.tdiv y * y) (vInt (x - x.tdiv y * y)) 0 := RkI_ok 5 _ _ _ rfl hx ht64 (by rw [ints_5, ovr_in hR64])
  have hC : RkI 7 x y (vInt (x.tdiv y)) 0 := RkI_ok 7 x y _ rfl hx hy hq
  have tr : ((x - x.tdiv y * y) == 0) = true ∨ (((x - x.tdiv y * y) == 0) = false ∧ decide ((x - x.tdiv y * y) < 0) = decide (x < 0)) := by
    have e : x - x.tdiv y * y = x.tmod y := by rw [ht]; omega
    rw [e]
    by_cases h3 : x.tmod y = 0
    · left; simpa using h3
    · right
      refine ⟨by simpa using h3, ?_⟩
      rcases hmods with h | h
      · exact absurd h h3
      · exact decide_eq_decide.2 h
  have hA : in64 (x + y) → RkI 4 x y (vInt (x + y)) 0 := fun h => RkI_ok 4 x y _ rfl hx hy (by rw [ints_4, ovr_in h])
  have hA2 : ¬ in64 (x + y) → RkI 4 x y vZero 41 := fun h => RkI_no 4 x y 41 rfl hx hy (by rw [ints_4, ovr_out h]) (by decide)
  have hD : in64 (x + y) → RkI 5 (x + y) y (vInt x) 0 := fun h => RkI_ok 5 _ y _ rfl h hy (by rw [ints_5, show x + y - y = x by omega, ovr_in hx])
  have hB : in64 (x * y) → RkI 6 x y (vInt (x * y)) 0 := fun h => RkI_ok 6 x y _ rfl hx hy (by rw [ints_6, ovr_in h])
  have hB2 : ¬ in64 (x * y) → RkI 6 x y vZero 41 := fun h => RkI_no 6 x y 41 rfl hx hy (by rw [ints_6, ovr_out h]) (by decide)
  have hE : in64 (x * y) → RkI 7 (x * y) y (vInt x) 0 := fun h => RkI_ok 7 _ y _ rfl h hy (by
    rw [ints_7]; unfold quoI
    rw [if_neg h0, if_neg, Int.mul_tdiv_cancel _ h0]
    rintro ⟨h1, rfl⟩
    omega)
  have tAB : decide (x ≤ x + y) = decide (0 ≤ y) := decide_eq_decide.2 (by omega)
  by_cases ha : in64 (x + y) <;> by_cases hb : in64 (x * y)
  · exact ints_path_113 x y (x + y) (x * y) _ _ _ w (hA ha) (hD ha) (hB hb) (hE hb) hC hT hR _ rfl tAB ty tr
  · exact ints_path_133 x y (x + y) 0 _ _ _ w (hA ha) (hD ha) (hB2 hb) hC hT hR _ rfl tAB ty tr
  · exact ints_path_013 x y 0 (x * y) _ _ _ w (hA2 ha) (hB hb) (hE hb) hC hT hR ty tr
  · exact ints_path_033 x y 0 0 _ _ _ w (hA2 ha) (hB2 hb) hC hT hR ty tr
end Go.Proofs.Ytlnpolepgdoloaa
