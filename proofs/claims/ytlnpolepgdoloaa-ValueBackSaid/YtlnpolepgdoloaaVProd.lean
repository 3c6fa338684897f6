/- Layer 4: products of ints, by the program and by the document. -/
import Derived.Test.YtlnpolepgdoloaaVArith
namespace Go.Proofs.Ytlnpolepgdoloaa
open Go.RowKit
set_option linter.unusedVariables false
set_option linter.unusedSimpArgs false
set_option maxRecDepth 20000

theorem size_any (x : Int) (w : World) (hx : in64 x) : Calls Try.prog 104 #[.int .i64 x] w (VGv (.int .u64 (x.natAbs : Int)) w) := by
  by_cases h : x < 0
  · have hr : IntKind.u64.wrap (0 - IntKind.u64.wrap x) = (x.natAbs : Int) := by unfold in64 at hx; rw [IntKind.wrap_u64, IntKind.wrap_u64]; omega
    have hr2 : IntKind.u64.wrap (-IntKind.u64.wrap x) = (x.natAbs : Int) := by unfold in64 at hx; rw [IntKind.wrap_u64, IntKind.wrap_u64]; omega
    clear hx
    have hd : decide (x < 0) = true := by simpa using h
    clear h
    have HR := Lib.hid hr
    have HR2 := Lib.hid hr2
    clear hr hr2
    go_enter Try.func104, Try.ntmps104
    go_wp2
    go_ret
    exact ⟨by first | exact ret_int HR.out | exact ret_int HR2.out, rfl⟩
  · have hr : IntKind.u64.wrap x = (x.natAbs : Int) := by unfold in64 at hx; rw [IntKind.wrap_u64]; omega
    clear hx
    have hd : decide (x < 0) = false := by simpa using h
    clear h
    have HR := Lib.hid hr
    clear hr
    go_enter Try.func104, Try.ntmps104
    go_wp2
    go_ret
    exact ⟨ret_int HR.out, rfl⟩

/-- what a product's halves come to -/
theorem halves (x y : Int) (hx : in64 x) (hy : in64 y) (H L : Nat) (hH : x.natAbs * y.natAbs / 18446744073709551616 = H) (hL : x.natAbs * y.natAbs % 18446744073709551616 = L) :
    ((decide (x < 0) != decide (y < 0)) = true → (in64 (x * y) → H = 0 ∧ L ≤ 9223372036854775808 ∧ x * y = -(L : Int)) ∧ (¬ in64 (x * y) → H = 0 → 9223372036854775808 < L)) ∧
    ((decide (x < 0) != decide (y < 0)) = false → (in64 (x * y) → H = 0 ∧ L ≤ 9223372036854775807 ∧ x * y = (L : Int)) ∧ (¬ in64 (x * y) → H = 0 → 9223372036854775807 < L)) := by
  have h1 := mul_in64 x y
  have h2 := mul_sign x y
  generalize x.natAbs * y.natAbs = M at *
  constructor
  · intro hs
    rw [if_pos hs] at h1 h2
    refine ⟨fun h => ?_, fun h h0 => ?_⟩
    · have := h1.1 h; exact ⟨by omega, by omega, by rw [h2]; omega⟩
    · have : ¬ M ≤ 9223372036854775808 := fun g => h (h1.2 g)
      omega
  · intro hs
    rw [if_neg (by rw [hs]; decide)] at h1 h2
    refine ⟨fun h => ?_, fun h h0 => ?_⟩
    · have := h1.1 h; exact ⟨by omega, by omega, by rw [h2]; omega⟩
    · have : ¬ M ≤ 9223372036854775807 := fun g => h (h1.2 g)
      omega

set_option maxHeartbeats 2000000 in
theorem product_any (x y : Int) (w : World) (hx : in64 x) (hy : in64 y) : Calls Try.prog 88 #[.int .i64 x, .int .i64 y] w (VGv (pairII (ovr (x * y))) w) := by
  have sx : ∀ W, Calls Try.prog 104 #[.int .i64 x] W (VGv (.int .u64 (x.natAbs : Int)) W) := fun W => size_any x W hx
  have sy : ∀ W, Calls Try.prog 104 #[.int .i64 y] W (VGv (.int .u64 (y.natAbs : Int)) W) := fun W => size_any y W hy
  have hm : ∀ W, Calls Try.prog 103 #[.int .u64 (x.natAbs : Int), .int .u64 (y.natAbs : Int)] W (VGv (.tuple #[.int .u64 ((x.natAbs * y.natAbs / 18446744073709551616 : Nat) : Int), .int .u64 ((x.natAbs * y.natAbs % 18446744073709551616 : Nat) : Int)]) W) :=
    fun W => Mul64_any _ _ (by unfold in64 at hx; omega) (by unfold in64 at hy; omega) W
  have hh := halves x y hx hy _ _ rfl rfl
  generalize x.natAbs * y.natAbs / 18446744073709551616 = H at hm hh
  generalize x.natAbs * y.natAbs % 18446744073709551616 = L at hm hh
  generalize x.natAbs = p at sx hm
  generalize y.natAbs = q at sy hm
  clear hx hy
  have SX := Lib.hid sx
  have SY := Lib.hid sy
  have HM := Lib.hid hm
  clear sx sy hm
  obtain ⟨hh1, hh2⟩ := hh
  rcases hX : decide (x < 0) with _ | _
  · rcases hY : decide (y < 0) with _ | _
    · have hs : (decide (x < 0) != decide (y < 0)) = false := by rw [hX, hY]; rfl
      obtain ⟨k1, k2⟩ := hh2 hs
      clear hh1 hh2 hs
      by_cases h : in64 (x * y)
      · obtain ⟨h0, hL, hxy⟩ := k1 h
        rw [ovr_in h]
        have hw : wrap64 (L : Int) = x * y := by rw [hxy, wrap64_eq]; omega
        have d0 : ((H : Int) != 0) = false := by simp; omega
        have d1 : decide ((9223372036854775807 : Int) < (L : Int)) = false := by simp; omega
        have HW := Lib.hid hw
        clear k1 k2 h h0 hL hxy hw
        go_enter Try.func88, Try.ntmps88
        go_wp2_with (first
          | (go_at_call 104; first | ((with_reducible refine (SX.out _).mono ?_); rintro e w1 ⟨rfl, rfl⟩) | ((with_reducible refine (SY.out _).mono ?_); rintro e w1 ⟨rfl, rfl⟩))
          | (go_at_call 103; refine (HM.out _).mono ?_; rintro e w1 ⟨rfl, rfl⟩))
        go_ret2
        exact ⟨ret_p HW.out, rfl⟩
      · rw [ovr_out h]
        have k := k2 h
        clear k1 k2 h
        by_cases h0 : H = 0
        · have hL := k h0
          have d0 : ((H : Int) != 0) = false := by simp; omega
          have d1 : decide ((9223372036854775807 : Int) < (L : Int)) = true := by simp; omega
          clear k h0 hL
          go_enter Try.func88, Try.ntmps88
          go_wp2_with (first
            | (go_at_call 104; first | ((with_reducible refine (SX.out _).mono ?_); rintro e w1 ⟨rfl, rfl⟩) | ((with_reducible refine (SY.out _).mono ?_); rintro e w1 ⟨rfl, rfl⟩))
            | (go_at_call 103; refine (HM.out _).mono ?_; rintro e w1 ⟨rfl, rfl⟩))
          go_ret2
          exact ⟨rfl, rfl⟩
        · have d0 : ((H : Int) != 0) = true := by simp; omega
          clear k h0
          go_enter Try.func88, Try.ntmps88
          go_wp2_with (first
            | (go_at_call 104; first | ((with_reducible refine (SX.out _).mono ?_); rintro e w1 ⟨rfl, rfl⟩) | ((with_reducible refine (SY.out _).mono ?_); rintro e w1 ⟨rfl, rfl⟩))
            | (go_at_call 103; refine (HM.out _).mono ?_; rintro e w1 ⟨rfl, rfl⟩))
          go_ret2
          exact ⟨rfl, rfl⟩
    · have hs : (decide (x < 0) != decide (y < 0)) = true := by rw [hX, hY]; rfl
      obtain ⟨k1, k2⟩ := hh1 hs
      clear hh1 hh2 hs
      by_cases h : in64 (x * y)
      · obtain ⟨h0, hL, hxy⟩ := k1 h
        rw [ovr_in h]
        have hw : wrap64 (IntKind.u64.wrap (-(L : Int))) = x * y := by rw [hxy, IntKind.wrap_u64, wrap64_eq]; omega
        have hw0 : wrap64 (IntKind.u64.wrap (0 - (L : Int))) = x * y := by rw [hxy, IntKind.wrap_u64, wrap64_eq]; omega
        have d0 : ((H : Int) != 0) = false := by simp; omega
        have d1 : decide ((9223372036854775808 : Int) < (L : Int)) = false := by simp; omega
        have HW := Lib.hid hw
        have HW0 := Lib.hid hw0
        clear k1 k2 h h0 hL hxy hw hw0
        go_enter Try.func88, Try.ntmps88
        go_wp2_with (first
          | (go_at_call 104; first | ((with_reducible refine (SX.out _).mono ?_); rintro e w1 ⟨rfl, rfl⟩) | ((with_reducible refine (SY.out _).mono ?_); rintro e w1 ⟨rfl, rfl⟩))
          | (go_at_call 103; refine (HM.out _).mono ?_; rintro e w1 ⟨rfl, rfl⟩))
        go_ret2
        exact ⟨by first | exact ret_p HW.out | exact ret_p HW0.out, rfl⟩
      · rw [ovr_out h]
        have k := k2 h
        clear k1 k2 h
        by_cases h0 : H = 0
        · have hL := k h0
          have d0 : ((H : Int) != 0) = false := by simp; omega
          have d1 : decide ((9223372036854775808 : Int) < (L : Int)) = true := by simp; omega
          clear k h0 hL
          go_enter Try.func88, Try.ntmps88
          go_wp2_with (first
            | (go_at_call 104; first | ((with_reducible refine (SX.out _).mono ?_); rintro e w1 ⟨rfl, rfl⟩) | ((with_reducible refine (SY.out _).mono ?_); rintro e w1 ⟨rfl, rfl⟩))
            | (go_at_call 103; refine (HM.out _).mono ?_; rintro e w1 ⟨rfl, rfl⟩))
          go_ret2
          exact ⟨rfl, rfl⟩
        · have d0 : ((H : Int) != 0) = true := by simp; omega
          clear k h0
          go_enter Try.func88, Try.ntmps88
          go_wp2_with (first
            | (go_at_call 104; first | ((with_reducible refine (SX.out _).mono ?_); rintro e w1 ⟨rfl, rfl⟩) | ((with_reducible refine (SY.out _).mono ?_); rintro e w1 ⟨rfl, rfl⟩))
            | (go_at_call 103; refine (HM.out _).mono ?_; rintro e w1 ⟨rfl, rfl⟩))
          go_ret2
          exact ⟨rfl, rfl⟩
  · rcases hY : decide (y < 0) with _ | _
    · have hs : (decide (x < 0) != decide (y < 0)) = true := by rw [hX, hY]; rfl
      obtain ⟨k1, k2⟩ := hh1 hs
      clear hh1 hh2 hs
      by_cases h : in64 (x * y)
      · obtain ⟨h0, hL, hxy⟩ := k1 h
        rw [ovr_in h]
        have hw : wrap64 (IntKind.u64.wrap (-(L : Int))) = x * y := by rw [hxy, IntKind.wrap_u64, wrap64_eq]; omega
        have hw0 : wrap64 (IntKind.u64.wrap (0 - (L : Int))) = x * y := by rw [hxy, IntKind.wrap_u64, wrap64_eq]; omega
        have d0 : ((H : Int) != 0) = false := by simp; omega
        have d1 : decide ((9223372036854775808 : Int) < (L : Int)) = false := by simp; omega
        have HW := Lib.hid hw
        have HW0 := Lib.hid hw0
        clear k1 k2 h h0 hL hxy hw hw0
        go_enter Try.func88, Try.ntmps88
        go_wp2_with (first
          | (go_at_call 104; first | ((with_reducible refine (SX.out _).mono ?_); rintro e w1 ⟨rfl, rfl⟩) | ((with_reducible refine (SY.out _).mono ?_); rintro e w1 ⟨rfl, rfl⟩))
          | (go_at_call 103; refine (HM.out _).mono ?_; rintro e w1 ⟨rfl, rfl⟩))
        go_ret2
        exact ⟨by first | exact ret_p HW.out | exact ret_p HW0.out, rfl⟩
      · rw [ovr_out h]
        have k := k2 h
        clear k1 k2 h
        by_cases h0 : H = 0
        · have hL := k h0
          have d0 : ((H : Int) != 0) = false := by simp; omega
          have d1 : decide ((9223372036854775808 : Int) < (L : Int)) = true := by simp; omega
          clear k h0 hL
          go_enter Try.func88, Try.ntmps88
          go_wp2_with (first
            | (go_at_call 104; first | ((with_reducible refine (SX.out _).mono ?_); rintro e w1 ⟨rfl, rfl⟩) | ((with_reducible refine (SY.out _).mono ?_); rintro e w1 ⟨rfl, rfl⟩))
            | (go_at_call 103; refine (HM.out _).mono ?_; rintro e w1 ⟨rfl, rfl⟩))
          go_ret2
          exact ⟨rfl, rfl⟩
        · have d0 : ((H : Int) != 0) = true := by simp; omega
          clear k h0
          go_enter Try.func88, Try.ntmps88
          go_wp2_with (first
            | (go_at_call 104; first | ((with_reducible refine (SX.out _).mono ?_); rintro e w1 ⟨rfl, rfl⟩) | ((with_reducible refine (SY.out _).mono ?_); rintro e w1 ⟨rfl, rfl⟩))
            | (go_at_call 103; refine (HM.out _).mono ?_; rintro e w1 ⟨rfl, rfl⟩))
          go_ret2
          exact ⟨rfl, rfl⟩
    · have hs : (decide (x < 0) != decide (y < 0)) = false := by rw [hX, hY]; rfl
      obtain ⟨k1, k2⟩ := hh2 hs
      clear hh1 hh2 hs
      by_cases h : in64 (x * y)
      · obtain ⟨h0, hL, hxy⟩ := k1 h
        rw [ovr_in h]
        have hw : wrap64 (L : Int) = x * y := by rw [hxy, wrap64_eq]; omega
        have d0 : ((H : Int) != 0) = false := by simp; omega
        have d1 : decide ((9223372036854775807 : Int) < (L : Int)) = false := by simp; omega
        have HW := Lib.hid hw
        clear k1 k2 h h0 hL hxy hw
        go_enter Try.func88, Try.ntmps88
        go_wp2_with (first
          | (go_at_call 104; first | ((with_reducible refine (SX.out _).mono ?_); rintro e w1 ⟨rfl, rfl⟩) | ((with_reducible refine (SY.out _).mono ?_); rintro e w1 ⟨rfl, rfl⟩))
          | (go_at_call 103; refine (HM.out _).mono ?_; rintro e w1 ⟨rfl, rfl⟩))
        go_ret2
        exact ⟨ret_p HW.out, rfl⟩
      · rw [ovr_out h]
        have k := k2 h
        clear k1 k2 h
        by_cases h0 : H = 0
        · have hL := k h0
          have d0 : ((H : Int) != 0) = false := by simp; omega
          have d1 : decide ((9223372036854775807 : Int) < (L : Int)) = true := by simp; omega
          clear k h0 hL
          go_enter Try.func88, Try.ntmps88
          go_wp2_with (first
            | (go_at_call 104; first | ((with_reducible refine (SX.out _).mono ?_); rintro e w1 ⟨rfl, rfl⟩) | ((with_reducible refine (SY.out _).mono ?_); rintro e w1 ⟨rfl, rfl⟩))
            | (go_at_call 103; refine (HM.out _).mono ?_; rintro e w1 ⟨rfl, rfl⟩))
          go_ret2
          exact ⟨rfl, rfl⟩
        · have d0 : ((H : Int) != 0) = true := by simp; omega
          clear k h0
          go_enter Try.func88, Try.ntmps88
          go_wp2_with (first
            | (go_at_call 104; first | ((with_reducible refine (SX.out _).mono ?_); rintro e w1 ⟨rfl, rfl⟩) | ((with_reducible refine (SY.out _).mono ?_); rintro e w1 ⟨rfl, rfl⟩))
            | (go_at_call 103; refine (HM.out _).mono ?_; rintro e w1 ⟨rfl, rfl⟩))
          go_ret2
          exact ⟨rfl, rfl⟩
end Go.Proofs.Ytlnpolepgdoloaa
