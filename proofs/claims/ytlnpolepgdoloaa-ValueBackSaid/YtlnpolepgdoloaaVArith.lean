/- Layer 4: reckoning with ints, by the program. -/
import Derived.Test.YtlnpolepgdoloaaVNum
import Derived.Lib.Mul64
namespace Go.Proofs.Ytlnpolepgdoloaa
open Go.RowKit
set_option linter.unusedVariables false
set_option linter.unusedSimpArgs false
set_option maxRecDepth 20000

abbrev pairII (p : Int × Int) : Value := .tuple #[.int .i64 p.1, .int .i64 p.2]
theorem ret_p {a b c : Int} (h : a = b) : Ending.returned (.tuple #[.int .i64 a, .int .i64 c]) = .returned (.tuple #[.int .i64 b, .int .i64 c]) := by rw [h]
/-- a number of 64 bits, or it goes over -/
def ovr (n : Int) : Int × Int := if in64 n then (n, 0) else (0, 41)
theorem ovr_in {n : Int} (h : in64 n) : ovr n = (n, 0) := if_pos h
theorem ovr_out {n : Int} (h : ¬ in64 n) : ovr n = (0, 41) := if_neg h

theorem sum_any (x y : Int) (w : World) (hx : in64 x) (hy : in64 y) : Calls Try.prog 87 #[.int .i64 x, .int .i64 y] w (VGv (pairII (ovr (x + y))) w) := by
  have ho := sum_over x y hx hy
  by_cases h : in64 (x + y)
  · rw [ovr_in h]
    have hd : decide (¬ in64 (x + y)) = false := by simpa using h
    rw [hd] at ho
    have hw := wrap64_of _ h
    have HW := Lib.hid hw
    clear hx hy h hw hd
    go_enter Try.func87, Try.ntmps87
    go_wp2
    go_ret2
    exact ⟨ret_p HW.out, rfl⟩
  · rw [ovr_out h]
    have hd : decide (¬ in64 (x + y)) = true := by simpa using h
    rw [hd] at ho
    clear hx hy h hd
    go_enter Try.func87, Try.ntmps87
    go_wp2
    go_ret2
    exact ⟨rfl, rfl⟩
theorem difference_any (x y : Int) (w : World) (hx : in64 x) (hy : in64 y) : Calls Try.prog 63 #[.int .i64 x, .int .i64 y] w (VGv (pairII (ovr (x - y))) w) := by
  have ho := diff_over x y hx hy
  by_cases h : in64 (x - y)
  · rw [ovr_in h]
    have hd : decide (¬ in64 (x - y)) = false := by simpa using h
    rw [hd] at ho
    have hw := wrap64_of _ h
    have HW := Lib.hid hw
    clear hx hy h hw hd
    go_enter Try.func63, Try.ntmps63
    go_wp2
    go_ret2
    exact ⟨ret_p HW.out, rfl⟩
  · rw [ovr_out h]
    have hd : decide (¬ in64 (x - y)) = true := by simpa using h
    rw [hd] at ho
    clear hx hy h hd
    go_enter Try.func63, Try.ntmps63
    go_wp2
    go_ret2
    exact ⟨rfl, rfl⟩
theorem quot_in64 (x y : Int) (hy : y ≠ 0) (hx : in64 x) (h : ¬ (x = -9223372036854775808 ∧ y = -1)) : in64 (x.tdiv y) := by
  unfold in64 at *
  have hle : (x.tdiv y).natAbs ≤ x.natAbs := by rw [Int.natAbs_tdiv]; exact Nat.div_le_self _ _
  by_cases h1 : (x.tdiv y).natAbs ≤ 9223372036854775807
  · omega
  · have e : x.natAbs = 9223372036854775808 ∧ (x.tdiv y).natAbs = 9223372036854775808 := by omega
    have e1 : x = -9223372036854775808 := by omega
    have e2 := e.2
    rw [Int.natAbs_tdiv, e.1] at e2
    have hy1 : y.natAbs = 1 := by
      rcases Nat.lt_or_ge y.natAbs 2 with h3 | h3
      · omega
      · exfalso; have h4 : Nat.div 9223372036854775808 y.natAbs ≤ 4611686018427387904 := Nat.div_le_div_left (a := 9223372036854775808) h3 (by decide)
        rw [e2] at h4; exact absurd h4 (by decide)
    rcases (show y = 1 ∨ y = -1 by omega) with rfl | rfl
    · rw [Int.tdiv_one]; omega
    · exact absurd ⟨e1, rfl⟩ h
/-- a quotient -/
def quoI (x y : Int) : Int × Int := if y = 0 then (0, 42) else if x = -9223372036854775808 ∧ y = -1 then (0, 41) else (x.tdiv y, 0)
theorem quotient_any (x y : Int) (w : World) (hx : in64 x) : Calls Try.prog 89 #[.int .i64 x, .int .i64 y] w (VGv (pairII (quoI x y)) w) := by
  unfold quoI
  by_cases h0 : y = 0
  · rw [if_pos h0]
    subst h0
    clear hx
    go_enter Try.func89, Try.ntmps89
    go_wp2
    go_ret2
    exact ⟨rfl, rfl⟩
  · rw [if_neg h0]
    have h0' : (y == 0) = false := by simpa using h0
    have hy0 : decide (y = 0) = false := by simpa using h0
    by_cases hm : x = -9223372036854775808 ∧ y = -1
    · rw [if_pos hm]
      obtain ⟨rfl, rfl⟩ := hm
      clear hx h0 h0' hy0
      go_enter Try.func89, Try.ntmps89
      go_wp2
      go_ret2
      exact ⟨rfl, rfl⟩
    · rw [if_neg hm]
      have hw := wrap64_of _ (quot_in64 x y h0 hx hm)
      have HW := Lib.hid hw
      clear hw
      rcases hmx : (x == -9223372036854775808) with _ | _
      · clear hm hx
        go_enter Try.func89, Try.ntmps89
        go_wp2
        go_ret2
        exact ⟨ret_p HW.out, rfl⟩
      · have hy1 : (y == -1) = false := by
          rw [beq_iff_eq] at hmx
          simpa [hmx] using hm
        clear hm hx
        go_enter Try.func89, Try.ntmps89
        go_wp2
        go_ret2
        exact ⟨ret_p HW.out, rfl⟩

theorem low32 (n : Nat) (h : n < 18446744073709551616) : bits .and .u64 (n : Int) 4294967295 = ((n % 4294967296 : Nat) : Int) := by
  rw [show (4294967295 : Int) = ((4294967295 : Nat) : Int) from rfl, u64_and_nat n 4294967295 h (by omega)]
  congr 1
  exact Nat.and_two_pow_sub_one_eq_mod n 32
theorem u64_stays (n : Nat) (h : n < 18446744073709551616) : IntKind.u64.wrap (n : Int) = (n : Int) := by rw [IntKind.wrap_u64]; omega
theorem u64_mod (n : Nat) : IntKind.u64.wrap (n : Int) = ((n % 18446744073709551616 : Nat) : Int) := by rw [IntKind.wrap_u64]; omega
theorem nat_half (n : Nat) : (n : Int) / 4294967296 = ((n / 4294967296 : Nat) : Int) := by omega

set_option maxHeartbeats 1000000 in
theorem Mul64_any (x y : Nat) (hx : x < 18446744073709551616) (hy : y < 18446744073709551616) (w : World) :
    Calls Try.prog 103 #[.int .u64 x, .int .u64 y] w (VGv (.tuple #[.int .u64 ((x * y / 18446744073709551616 : Nat) : Int), .int .u64 ((x * y % 18446744073709551616 : Nat) : Int)]) w) := by
  obtain ⟨b1, b2, b3, hhi⟩ := Lib.mul64_hi x y hx hy
  have c1 := Lib.half_mul_le (a := x / 4294967296) (b := y / 4294967296) (by omega) (by omega)
  have c2 := Lib.half_mul_le (a := x / 4294967296) (b := y % 4294967296) (by omega) (by omega)
  have c3 := Lib.half_mul_le (a := x % 4294967296) (b := y / 4294967296) (by omega) (by omega)
  have d1 : x / 4294967296 * (y / 4294967296) < 18446744073709551616 := by omega
  have d2 : x / 4294967296 * (y % 4294967296) < 18446744073709551616 := by omega
  have d3 : x % 4294967296 * (y / 4294967296) < 18446744073709551616 := by omega
  have e1 : x / 4294967296 * (y / 4294967296) + (x / 4294967296 * (y % 4294967296) + x % 4294967296 * (y % 4294967296) / 4294967296) / 4294967296 < 18446744073709551616 := by omega
  have e2 : x / 4294967296 * (y / 4294967296) + (x / 4294967296 * (y % 4294967296) + x % 4294967296 * (y % 4294967296) / 4294967296) / 4294967296 + ((x / 4294967296 * (y % 4294967296) + x % 4294967296 * (y % 4294967296) / 4294967296) % 4294967296 + x % 4294967296 * (y / 4294967296)) / 4294967296 < 18446744073709551616 := by omega
  go_enter Try.func103, Try.ntmps103
  go_wp2
  simp only [low32 x hx, low32 y hy, nat_half, ← Int.natCast_mul, ← Int.natCast_add, u64_stays _ b1, u64_stays _ d2, u64_stays _ b2, low32 _ b2, u64_stays _ d3, u64_stays _ b3, u64_stays _ d1, u64_stays _ e1, u64_stays _ e2, u64_mod (x * y)]
  rw [hhi]
  go_ret2
  exact ⟨rfl, rfl⟩
end Go.Proofs.Ytlnpolepgdoloaa
