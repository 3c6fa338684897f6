/- Layer 4: the chapter's examples. -/
import Derived.Test.YtlnpolepgdoloaaVShort
import Derived.Test.YtlnpolepgdoloaaVReck
import Derived.Test.YtlnpolepgdoloaaVEq
import Derived.Deep.CutRange
namespace Go.Proofs.Ytlnpolepgdoloaa
open Go.RowKit
set_option linter.unusedVariables false
set_option linter.unusedSimpArgs false
set_option maxRecDepth 20000

theorem negative_any (w : World) : Calls Try.prog 45 #[] w (VGv (.float .f64 9223372036854775808) w) := by
  have hng := fun (n : Nat) => unary_neg_float n
  have h0 : Op.negFloat .f64 0 = 9223372036854775808 := by decide
  have H0 := Lib.hid h0
  clear h0
  go_enter Try.func45, Try.ntmps45
  go_wp2
  go_ret
  exact ⟨by rw [← H0.out]; rfl, rfl⟩

theorem good_num (n : Nat) : goodV (vNum n) = true := by unfold goodV; rw [empty_list]; rfl
theorem good_int (i : Int) : goodV (vInt i) = true := by unfold goodV; rw [empty_list]; simp [ByteArray.size]
theorem like_num (m n : Nat) : alikeV (vNum m) (vNum n) = true := by unfold alikeV; rw [good_num, good_num]; rfl
theorem like_int (m n : Int) : alikeV (vInt m) (vInt n) = true := by unfold alikeV; rw [good_int, good_int]; rfl
theorem eq_num (m n : Nat) : eqV (vNum m) (vNum n) = (flO m n == some .eq, 0) := by unfold eqV; rw [like_num, if_pos rfl]; rfl
theorem lt_num (m n : Nat) : ltV (vNum m) (vNum n) = (flO m n == some .lt, 0) := by unfold ltV; rw [like_num]; rfl
theorem same_num (m n : Nat) : sameV (vNum m) (vNum n) = (numW m == numW n) := by unfold sameV; rw [beq_self_eq_true, beq_self_eq_true, beq_self_eq_true, beq_self_eq_true]; rfl
theorem ord_num (m n : Nat) : ordV (vNum m) (vNum n) = cmpI (flRank m) (flRank n) := rfl
theorem ex1 : eqV (vNum 9221120237041090561) (vNum 9221120237041090561) = (false, 0) := by rw [eq_num]; decide
theorem ex2 : sameV (vNum 9221120237041090561) (vNum 9221120237041090561) = true := by rw [same_num]; decide
theorem ex3 : eqV (vNum 9223372036854775808) (vNum 0) = (true, 0) := by rw [eq_num]; decide
theorem ex4 : sameV (vNum 9223372036854775808) (vNum 0) = false := by rw [same_num]; decide
theorem ex5 : ordV (vNum 9223372036854775808) (vNum 0) = -1 := by rw [ord_num]; decide
theorem ex6 : reckV 7 (vInt 1) (vInt 0) = (vZero, 42) := by unfold reckV; rw [like_int]; rfl

theorem num_nan (w : World) : Calls Try.prog 40 #[.float .f64 9221120237041090561] w (VMk (agV (vNum 9221120237041090561)) w) := by
  have h := rNumV_any 9221120237041090561 w
  rwa [(numW_eq_nan _).2 nan_bits] at h
theorem num_0 (w : World) : Calls Try.prog 40 #[.float .f64 0] w (VMk (agV (vNum 0)) w) := by
  have h := rNumV_any 0 w
  rwa [numW_0] at h

set_option maxHeartbeats 4000000 in
theorem awake4_any (w : World) : Calls Try.prog 17 #[] w (VMk (.bool true) w) := by
  have hsf := fun (w : World) (a : Addr) (m : Mode) (b : Nat) => run_store Try.prog w a (.float .f64 b) m rfl
  have e1 : ∀ W, Calls Try.prog 22 #[agV (vNum 9221120237041090561), agV (vNum 9221120237041090561)] W (VMk (pairBE false 0) W) := fun W => by have h := Equal_val (vNum 9221120237041090561) (vNum 9221120237041090561) W; rwa [ex1] at h
  have e2 : ∀ W, Calls Try.prog 20 #[agV (vNum 9221120237041090561), agV (vNum 9221120237041090561)] W (VMk (.bool true) W) := fun W => by have h := Same_val (vNum 9221120237041090561) (vNum 9221120237041090561) W; rwa [ex2] at h
  have e3 : ∀ W, Calls Try.prog 22 #[agV (vNum 9223372036854775808), agV (vNum 0)] W (VMk (pairBE true 0) W) := fun W => by have h := Equal_val (vNum 9223372036854775808) (vNum 0) W; rwa [ex3] at h
  have e4 : ∀ W, Calls Try.prog 20 #[agV (vNum 9223372036854775808), agV (vNum 0)] W (VMk (.bool false) W) := fun W => by have h := Same_val (vNum 9223372036854775808) (vNum 0) W; rwa [ex4] at h
  have e5 : ∀ W, Calls Try.prog 18 #[agV (vNum 9223372036854775808), agV (vNum 0)] W (VMk (.int .i64 (-1)) W) := fun W => by have h := Order_val (vNum 9223372036854775808) (vNum 0) W (by decide) (by decide); rwa [ex5] at h
  have e6 : ∀ W, Calls Try.prog 26 #[.int .i64 7, agV (vInt 1), agV (vInt 0)] W (VMk (pairVE vZero 42) W) := fun W => by have h := Reckon_any 7 (vInt 1) (vInt 0) W (by decide) (by decide) (by decide) (by decide); rwa [ex6] at h
  have n1 : ∀ W, Calls Try.prog 44 #[] W (VMk (.float .f64 9221120237041090561) W) := rNaN_any
  have n2 : ∀ W, Calls Try.prog 40 #[.float .f64 9221120237041090561] W (VMk (agV (vNum 9221120237041090561)) W) := num_nan
  have n3 : ∀ W, Calls Try.prog 45 #[] W (VGv (.float .f64 9223372036854775808) W) := negative_any
  generalize (9221120237041090561 : Nat) = q at *
  generalize (9223372036854775808 : Nat) = m at *
  have E1 := Lib.hid e1
  have E2 := Lib.hid e2
  have E3 := Lib.hid e3
  have E4 := Lib.hid e4
  have E5 := Lib.hid e5
  have E6 := Lib.hid e6
  have N1 := Lib.hid n1
  have N2 := Lib.hid n2
  have N3 := Lib.hid n3
  clear e1 e2 e3 e4 e5 e6 n1 n2 n3
  go_enter Try.func17, Try.ntmps17
  go_wp2_with fail
  refine (N1.out _).mono ?_
  rintro e w1 ⟨rfl, hb1⟩
  go_wp2_with fail
  refine (N2.out _).mono ?_
  rintro e w2 ⟨rfl, hb2⟩
  have B2 : Below w.heap.size w w2 := hb1.trans (hb2.mono hb1.size)
  have X1 := Lib.hid (Bx.new w2 (vNum q))
  have B3 := B2.alloc B2.size (.cells #[.int .i64 4, .int .i64 0, .bool false, .string ⟨#[]⟩, .float .f64 q] 24)
  go_wp2_with fail
  refine (num_0 _).mono ?_
  rintro e w3 ⟨rfl, hb3⟩
  have B4 := B3.trans (hb3.mono B3.size)
  have X2 := Lib.hid (X1.out.below hb3)
  clear X1
  go_wp2_with fail
  refine (N3.out _).mono ?_
  rintro e w4 ⟨rfl, rfl⟩
  have Y1 : Bx ((w3.alloc (.cells #[.int .i64 4, .int .i64 0, .bool false, .string ⟨#[]⟩, .float .f64 0] 24)).alloc (.cells #[.int .i64 4, .int .i64 0, .bool false, .string ⟨#[]⟩, .float .f64 m] 24)) w2.heap.size (vNum q) := (X2.out.alloc _).alloc _
  have Y2 : Bx ((w3.alloc (.cells #[.int .i64 4, .int .i64 0, .bool false, .string ⟨#[]⟩, .float .f64 0] 24)).alloc (.cells #[.int .i64 4, .int .i64 0, .bool false, .string ⟨#[]⟩, .float .f64 m] 24)) w3.heap.size (vNum 0) := (Bx.new w3 (vNum 0)).alloc _
  have Y3 : Bx ((w3.alloc (.cells #[.int .i64 4, .int .i64 0, .bool false, .string ⟨#[]⟩, .float .f64 0] 24)).alloc (.cells #[.int .i64 4, .int .i64 0, .bool false, .string ⟨#[]⟩, .float .f64 m] 24)) (w3.heap.size + 1) (vNum m) := by
    have h := Bx.new (w3.alloc (.cells #[.int .i64 4, .int .i64 0, .bool false, .string ⟨#[]⟩, .float .f64 0] 24)) (vNum m)
    simpa using h
  have B5 : Below w.heap.size w ((w3.alloc (.cells #[.int .i64 4, .int .i64 0, .bool false, .string ⟨#[]⟩, .float .f64 0] 24)).alloc (.cells #[.int .i64 4, .int .i64 0, .bool false, .string ⟨#[]⟩, .float .f64 m] 24)) := (B4.alloc B4.size _).alloc (by have := B4.size; simp; omega) _
  clear X2
  go_upto_region 3 with fail
  generalize (w3.alloc (.cells #[.int .i64 4, .int .i64 0, .bool false, .string ⟨#[]⟩, .float .f64 0] 24)).alloc (.cells #[.int .i64 4, .int .i64 0, .bool false, .string ⟨#[]⟩, .float .f64 m] 24) = wc at *
  have hwc : w.heap.size ≤ wc.heap.size := B5.size
  generalize w2.heap.size = b1 at *
  generalize w3.heap.size + 1 = b3 at *
  generalize w3.heap.size = b2 at *
  clear B2 B3 B4 hb1 hb2 hb3 N1 N2 N3
  have Z1 := Lib.hid Y1
  have Z2 := Lib.hid Y2
  have Z3 := Lib.hid Y3
  have Z4 := Lib.hid B5
  clear Y1 Y2 Y3 B5 hwc
  obtain ⟨c10, c11, c12, c13, c14⟩ := Z1.out
  go_wp2_with fail
  refine (E1.out _).mono ?_
  rintro e wd ⟨rfl, hb⟩
  clear c10 c11 c12 c13 c14
  have Z1 := Lib.hid (Z1.out.below hb)
  have Z2 := Lib.hid (Z2.out.below hb)
  have Z3 := Lib.hid (Z3.out.below hb)
  have Z4 := Lib.hid (Z4.out.trans (hb.mono Z4.out.size))
  clear hb
  obtain ⟨c20, c21, c22, c23, c24⟩ := Z2.out
  obtain ⟨c30, c31, c32, c33, c34⟩ := Z3.out
  go_wp2_with fail
  refine (E3.out _).mono ?_
  rintro e we ⟨rfl, hb⟩
  clear c20 c21 c22 c23 c24 c30 c31 c32 c33 c34
  have Z1 := Lib.hid (Z1.out.below hb)
  have Z2 := Lib.hid (Z2.out.below hb)
  have Z3 := Lib.hid (Z3.out.below hb)
  have Z4 := Lib.hid (Z4.out.trans (hb.mono Z4.out.size))
  clear hb
  go_wp2_with fail
  refine (rIntV_any 1 _).mono ?_
  rintro e wf ⟨rfl, hb⟩
  have Z1 := Lib.hid (Z1.out.below hb)
  have Z2 := Lib.hid (Z2.out.below hb)
  have Z3 := Lib.hid (Z3.out.below hb)
  have Z4 := Lib.hid (Z4.out.trans (hb.mono Z4.out.size))
  clear hb
  go_wp2_with fail
  refine (rIntV_any 0 _).mono ?_
  rintro e wg ⟨rfl, hb⟩
  have Z1 := Lib.hid (Z1.out.below hb)
  have Z2 := Lib.hid (Z2.out.below hb)
  have Z3 := Lib.hid (Z3.out.below hb)
  have Z4 := Lib.hid (Z4.out.trans (hb.mono Z4.out.size))
  clear hb
  go_wp2_with fail
  refine (E6.out _).mono ?_
  rintro e wh ⟨rfl, hb⟩
  have Z1 := Lib.hid (Z1.out.below hb)
  have Z2 := Lib.hid (Z2.out.below hb)
  have Z3 := Lib.hid (Z3.out.below hb)
  have Z4 := Lib.hid (Z4.out.trans (hb.mono Z4.out.size))
  clear hb
  go_upto_region 6 with fail
  have Z1 := Lib.hid (Z1.out.alloc (.cells #[.int .i64 0, .int .i64 0, .bool false, .string ⟨#[]⟩, .float .f64 0] 24))
  have Z2 := Lib.hid (Z2.out.alloc (.cells #[.int .i64 0, .int .i64 0, .bool false, .string ⟨#[]⟩, .float .f64 0] 24))
  have Z3 := Lib.hid (Z3.out.alloc (.cells #[.int .i64 0, .int .i64 0, .bool false, .string ⟨#[]⟩, .float .f64 0] 24))
  have Z4 := Lib.hid (Z4.out.alloc Z4.out.size (.cells #[.int .i64 0, .int .i64 0, .bool false, .string ⟨#[]⟩, .float .f64 0] 24))
  generalize wh.alloc (.cells #[.int .i64 0, .int .i64 0, .bool false, .string ⟨#[]⟩, .float .f64 0] 24) = wi at *
  obtain ⟨c10, c11, c12, c13, c14⟩ := Z1.out
  go_wp2_with fail
  refine (E2.out _).mono ?_
  rintro e wj ⟨rfl, hb⟩
  clear c10 c11 c12 c13 c14
  have Z1 := Lib.hid (Z1.out.below hb)
  have Z2 := Lib.hid (Z2.out.below hb)
  have Z3 := Lib.hid (Z3.out.below hb)
  have Z4 := Lib.hid (Z4.out.trans (hb.mono Z4.out.size))
  clear hb
  obtain ⟨c20, c21, c22, c23, c24⟩ := Z2.out
  obtain ⟨c30, c31, c32, c33, c34⟩ := Z3.out
  go_wp2_with fail
  refine (E4.out _).mono ?_
  rintro e wk ⟨rfl, hb⟩
  clear c20 c21 c22 c23 c24 c30 c31 c32 c33 c34
  have Z1 := Lib.hid (Z1.out.below hb)
  have Z2 := Lib.hid (Z2.out.below hb)
  have Z3 := Lib.hid (Z3.out.below hb)
  have Z4 := Lib.hid (Z4.out.trans (hb.mono Z4.out.size))
  clear hb
  obtain ⟨c20, c21, c22, c23, c24⟩ := Z2.out
  obtain ⟨c30, c31, c32, c33, c34⟩ := Z3.out
  go_wp2_with fail
  refine (E5.out _).mono ?_
  rintro e wl ⟨rfl, hb⟩
  clear c20 c21 c22 c23 c24 c30 c31 c32 c33 c34
  have Z1 := Lib.hid (Z1.out.below hb)
  have Z2 := Lib.hid (Z2.out.below hb)
  have Z3 := Lib.hid (Z3.out.below hb)
  have Z4 := Lib.hid (Z4.out.trans (hb.mono Z4.out.size))
  clear hb
  go_wp2
  go_ret
  exact ⟨rfl, Z4.out⟩
end Go.Proofs.Ytlnpolepgdoloaa
