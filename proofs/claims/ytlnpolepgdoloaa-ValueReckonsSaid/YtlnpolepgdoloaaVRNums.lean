/- Layer 4: reckoning with floats by any operation, by the document. (Made by gen/genvrnums.py.) -/
import Derived.Test.YtlnpolepgdoloaaVNums
import Derived.Test.YtlnpolepgdoloaaVNan
namespace Go.Proofs.Ytlnpolepgdoloaa
open Go.RowKit
set_option linter.unusedVariables false
set_option linter.unusedSimpArgs false
set_option maxRecDepth 20000

set_option maxHeartbeats 1000000 in
theorem nums_min (x y : Nat) (w : World) (hx : x < 18446744073709551616) (hy : y < 18446744073709551616) : Calls Try.prog 61 #[.int .i64 14, .float .f64 x, .float .f64 y] w (FlP (minN x y) w) := by
  have hq : ∀ W, Calls Try.prog 44 #[] W (VMk (.float .f64 9221120237041090561) W) := rNaN_any
  have hql : numW 9221120237041090561 = 9221120237041090561 := (numW_eq_nan _).2 nan_bits
  have hqb : 9221120237041090561 < 18446744073709551616 := by decide
  have rx : ∀ W, Calls Try.prog 52 #[.float .f64 x] W (VGv (.int .u64 (flRank x)) W) := fun W => rRank_any x hx W
  have ry : ∀ W, Calls Try.prog 52 #[.float .f64 y] W (VGv (.int .u64 (flRank y)) W) := fun W => rRank_any y hy W
  unfold minN flMin
  generalize (9221120237041090561 : Nat) = q at hq hql hqb ⊢
  have HX := Lib.hid hx
  have HY := Lib.hid hy
  have HN := Lib.hid hq
  have HQ := Lib.hid (And.intro hql hqb)
  clear hx hy hq hql hqb
  rcases h1 : (FloatKind.f64.format.order x x != some .eq) with _ | _
  case true =>
    rw [show nanB x = true from h1, Bool.true_or, if_pos rfl]
    clear rx ry
    go_enter Try.func61, Try.ntmps61
    go_wp2_with (first
      | (go_at_call 44; refine (HN.out _).mono ?_; rintro e w1 ⟨rfl, hb1⟩))
    go_ret
    exact FlP.mk HQ.out.1 HQ.out.2 hb1
  rw [show nanB x = false from h1, Bool.false_or]
  rcases h2 : (FloatKind.f64.format.order y y != some .eq) with _ | _
  case true =>
    rw [show nanB y = true from h2, if_pos rfl]
    clear rx ry
    go_enter Try.func61, Try.ntmps61
    go_wp2_with (first
      | (go_at_call 44; refine (HN.out _).mono ?_; rintro e w1 ⟨rfl, hb1⟩))
    go_ret
    exact FlP.mk HQ.out.1 HQ.out.2 hb1
  rw [show nanB y = false from h2]
  simp only [Bool.false_eq_true, if_false]
  generalize flRank x = p at rx ⊢
  generalize flRank y = r at ry ⊢
  have RX := Lib.hid rx
  have RY := Lib.hid ry
  clear rx ry
  by_cases hlt : p < r
  · rw [if_pos hlt]
    have hd : decide (p < r) = true := by simpa using hlt
    clear hlt
    go_enter Try.func61, Try.ntmps61
    go_wp2_with (first
      | (go_at_call 52; ((with_reducible refine (RX.out _).mono ?_); rintro e w1 ⟨rfl, rfl⟩))
      | (go_at_call 52; ((with_reducible refine (RY.out _).mono ?_); rintro e w1 ⟨rfl, rfl⟩)))
    go_ret
    exact FlP.mk rfl HX.out (Below.refl _ _)
  · rw [if_neg hlt]
    have hd : decide (p < r) = false := by simpa using hlt
    clear hlt
    go_enter Try.func61, Try.ntmps61
    go_wp2_with (first
      | (go_at_call 52; ((with_reducible refine (RX.out _).mono ?_); rintro e w1 ⟨rfl, rfl⟩))
      | (go_at_call 52; ((with_reducible refine (RY.out _).mono ?_); rintro e w1 ⟨rfl, rfl⟩)))
    go_ret
    exact FlP.mk rfl HY.out (Below.refl _ _)
set_option maxHeartbeats 1000000 in
theorem nums_max (op : Int) (x y : Nat) (w : World) (h4' : (op == 4) = false) (h5' : (op == 5) = false) (h6' : (op == 6) = false) (h7' : (op == 7) = false) (h14' : (op == 14) = false) (hx : x < 18446744073709551616) (hy : y < 18446744073709551616) : Calls Try.prog 61 #[.int .i64 op, .float .f64 x, .float .f64 y] w (FlP (maxN x y) w) := by
  have hq : ∀ W, Calls Try.prog 44 #[] W (VMk (.float .f64 9221120237041090561) W) := rNaN_any
  have hql : numW 9221120237041090561 = 9221120237041090561 := (numW_eq_nan _).2 nan_bits
  have hqb : 9221120237041090561 < 18446744073709551616 := by decide
  have rx : ∀ W, Calls Try.prog 52 #[.float .f64 x] W (VGv (.int .u64 (flRank x)) W) := fun W => rRank_any x hx W
  have ry : ∀ W, Calls Try.prog 52 #[.float .f64 y] W (VGv (.int .u64 (flRank y)) W) := fun W => rRank_any y hy W
  unfold maxN flMax
  generalize (9221120237041090561 : Nat) = q at hq hql hqb ⊢
  have HX := Lib.hid hx
  have HY := Lib.hid hy
  have HN := Lib.hid hq
  have HQ := Lib.hid (And.intro hql hqb)
  clear hx hy hq hql hqb
  rcases h1 : (FloatKind.f64.format.order x x != some .eq) with _ | _
  case true =>
    rw [show nanB x = true from h1, Bool.true_or, if_pos rfl]
    clear rx ry
    go_enter Try.func61, Try.ntmps61
    go_wp2_with (first
      | (go_at_call 44; refine (HN.out _).mono ?_; rintro e w1 ⟨rfl, hb1⟩))
    go_ret
    exact FlP.mk HQ.out.1 HQ.out.2 hb1
  rw [show nanB x = false from h1, Bool.false_or]
  rcases h2 : (FloatKind.f64.format.order y y != some .eq) with _ | _
  case true =>
    rw [show nanB y = true from h2, if_pos rfl]
    clear rx ry
    go_enter Try.func61, Try.ntmps61
    go_wp2_with (first
      | (go_at_call 44; refine (HN.out _).mono ?_; rintro e w1 ⟨rfl, hb1⟩))
    go_ret
    exact FlP.mk HQ.out.1 HQ.out.2 hb1
  rw [show nanB y = false from h2]
  simp only [Bool.false_eq_true, if_false]
  generalize flRank x = p at rx ⊢
  generalize flRank y = r at ry ⊢
  have RX := Lib.hid rx
  have RY := Lib.hid ry
  clear rx ry
  by_cases hlt : p < r
  · rw [if_pos hlt]
    have hd : decide (p < r) = true := by simpa using hlt
    clear hlt
    go_enter Try.func61, Try.ntmps61
    go_wp2_with (first
      | (go_at_call 52; ((with_reducible refine (RX.out _).mono ?_); rintro e w1 ⟨rfl, rfl⟩))
      | (go_at_call 52; ((with_reducible refine (RY.out _).mono ?_); rintro e w1 ⟨rfl, rfl⟩)))
    go_ret
    exact FlP.mk rfl HY.out (Below.refl _ _)
  · rw [if_neg hlt]
    have hd : decide (p < r) = false := by simpa using hlt
    clear hlt
    go_enter Try.func61, Try.ntmps61
    go_wp2_with (first
      | (go_at_call 52; ((with_reducible refine (RX.out _).mono ?_); rintro e w1 ⟨rfl, rfl⟩))
      | (go_at_call 52; ((with_reducible refine (RY.out _).mono ?_); rintro e w1 ⟨rfl, rfl⟩)))
    go_ret
    exact FlP.mk rfl HX.out (Below.refl _ _)
set_option maxHeartbeats 1000000 in
theorem nums_any (op : Int) (x y : Nat) (w : World) (hx : x < 18446744073709551616) (hy : y < 18446744073709551616) : Calls Try.prog 61 #[.int .i64 op, .float .f64 x, .float .f64 y] w (FlP (numsV op x y) w) := by
  unfold numsV
  by_cases h4 : op = 4
  · rw [if_pos h4]; subst h4
    obtain ⟨b, W, hop, hr⟩ := run_fl .add (by simp) 22 x y w
    have HR := Lib.hid hr
    clear hr hx hy
    go_enter Try.func61, Try.ntmps61
    go_wp2
    go_ret
    exact FlP.mk HR.out.1 HR.out.2.1 HR.out.2.2
  have h4' : (op == 4) = false := by simpa using h4
  rw [if_neg h4]
  by_cases h5 : op = 5
  · rw [if_pos h5]; subst h5
    clear  h4 h4'
    obtain ⟨b, W, hop, hr⟩ := run_fl .sub (by simp) 22 x y w
    have HR := Lib.hid hr
    clear hr hx hy
    go_enter Try.func61, Try.ntmps61
    go_wp2
    go_ret
    exact FlP.mk HR.out.1 HR.out.2.1 HR.out.2.2
  have h5' : (op == 5) = false := by simpa using h5
  rw [if_neg h5]
  by_cases h6 : op = 6
  · rw [if_pos h6]; subst h6
    clear  h4 h4' h5 h5'
    obtain ⟨b, W, hop, hr⟩ := run_fl .mul (by simp) 22 x y w
    have HR := Lib.hid hr
    clear hr hx hy
    go_enter Try.func61, Try.ntmps61
    go_wp2
    go_ret
    exact FlP.mk HR.out.1 HR.out.2.1 HR.out.2.2
  have h6' : (op == 6) = false := by simpa using h6
  rw [if_neg h6]
  by_cases h7 : op = 7
  · rw [if_pos h7]; subst h7
    clear  h4 h4' h5 h5' h6 h6'
    obtain ⟨b, W, hop, hr⟩ := run_fl .quo (by simp) 22 x y w
    have HR := Lib.hid hr
    clear hr hx hy
    go_enter Try.func61, Try.ntmps61
    go_wp2
    go_ret
    exact FlP.mk HR.out.1 HR.out.2.1 HR.out.2.2
  have h7' : (op == 7) = false := by simpa using h7
  rw [if_neg h7]
  by_cases h14 : op = 14
  · rw [if_pos h14]; subst h14
    exact nums_min x y w hx hy
  · rw [if_neg h14]
    exact nums_max op x y w h4' h5' h6' h7' (by simpa using h14) hx hy
end Go.Proofs.Ytlnpolepgdoloaa
