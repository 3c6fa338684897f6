/- Ints: what goes over 64 bits; signs by bits; products by halves. -/
import Derived.Test.YtlnpolepgdoloaaVFl
import Derived.Laws.BitsAll
namespace Go.Proofs.Ytlnpolepgdoloaa
set_option linter.unusedVariables false
set_option linter.unusedSimpArgs false

/-- an int of 64 bits -/
def in64 (n : Int) : Prop := -9223372036854775808 ≤ n ∧ n ≤ 9223372036854775807
instance (n : Int) : Decidable (in64 n) := inferInstanceAs (Decidable (_ ∧ _))

theorem i64_back (v : BitVec 64) : IntKind.i64.wrap (v.toNat : Int) = v.toInt := by
  rw [IntKind.wrap_i64, BitVec.toInt_eq_toNat_cond]
  have := v.isLt
  split <;> omega
theorem i64_and (x y : Int) : bits .and .i64 x y = (BitVec.ofInt 64 x &&& BitVec.ofInt 64 y).toInt := i64_back _
theorem i64_xor (x y : Int) : bits .xor .i64 x y = (BitVec.ofInt 64 x ^^^ BitVec.ofInt 64 y).toInt := i64_back _
theorem msb_neg (n : Int) (h : in64 n) : (BitVec.ofInt 64 n).msb = decide (n < 0) := by
  unfold in64 at h
  have e : (BitVec.ofInt 64 n).toInt = n := by rw [BitVec.toInt_ofInt]; simp only [Int.bmod]; omega
  rw [BitVec.msb_eq_toInt, e]
/-- signs by bits -/
theorem neg_and_xor (x y s : Int) (hx : in64 x) (hy : in64 y) (hs : in64 s) :
    decide (bits .and .i64 (bits .xor .i64 x s) (bits .xor .i64 y s) < 0) = ((decide (x < 0) != decide (s < 0)) && (decide (y < 0) != decide (s < 0))) := by
  rw [i64_and, i64_xor, i64_xor, BitVec.ofInt_toInt, BitVec.ofInt_toInt, ← BitVec.msb_eq_toInt, BitVec.msb_and, BitVec.msb_xor, BitVec.msb_xor, msb_neg x hx, msb_neg y hy, msb_neg s hs]
theorem neg_and_xor2 (x y d : Int) (hx : in64 x) (hy : in64 y) (hd : in64 d) :
    decide (bits .and .i64 (bits .xor .i64 x y) (bits .xor .i64 x d) < 0) = ((decide (x < 0) != decide (y < 0)) && (decide (x < 0) != decide (d < 0))) := by
  rw [i64_and, i64_xor, i64_xor, BitVec.ofInt_toInt, BitVec.ofInt_toInt, ← BitVec.msb_eq_toInt, BitVec.msb_and, BitVec.msb_xor, BitVec.msb_xor, msb_neg x hx, msb_neg y hy, msb_neg d hd]
theorem wrap64_eq (n : Int) : RowKit.wrap64 n = (n + 9223372036854775808) % 18446744073709551616 - 9223372036854775808 := by unfold RowKit.wrap64; rfl
theorem wrap64_in64 (n : Int) : in64 (RowKit.wrap64 n) := by unfold in64; rw [wrap64_eq]; omega
theorem sum_sign (x y : Int) (hx : in64 x) (hy : in64 y) : ((decide (x < 0) != decide (RowKit.wrap64 (x + y) < 0)) && (decide (y < 0) != decide (RowKit.wrap64 (x + y) < 0))) = decide (¬ in64 (x + y)) := by
  unfold in64 at *
  rw [wrap64_eq]
  generalize hw : (x + y + 9223372036854775808) % 18446744073709551616 - 9223372036854775808 = w
  by_cases h1 : x < 0 <;> by_cases h2 : y < 0 <;> by_cases h3 : w < 0 <;> simp only [h1, h2, h3, decide_true, decide_false] <;> symm <;> first | (refine decide_eq_true ?_; omega) | (refine decide_eq_false ?_; omega)
theorem diff_sign (x y : Int) (hx : in64 x) (hy : in64 y) : ((decide (x < 0) != decide (y < 0)) && (decide (x < 0) != decide (RowKit.wrap64 (x - y) < 0))) = decide (¬ in64 (x - y)) := by
  unfold in64 at *
  rw [wrap64_eq]
  generalize hw : (x - y + 9223372036854775808) % 18446744073709551616 - 9223372036854775808 = w
  by_cases h1 : x < 0 <;> by_cases h2 : y < 0 <;> by_cases h3 : w < 0 <;> simp only [h1, h2, h3, decide_true, decide_false] <;> symm <;> first | (refine decide_eq_true ?_; omega) | (refine decide_eq_false ?_; omega)
/-- 'does the sum go over': by bits -/
theorem sum_over (x y : Int) (hx : in64 x) (hy : in64 y) : decide (bits .and .i64 (bits .xor .i64 x (RowKit.wrap64 (x + y))) (bits .xor .i64 y (RowKit.wrap64 (x + y))) < 0) = decide (¬ in64 (x + y)) := by
  rw [neg_and_xor x y _ hx hy (wrap64_in64 _), sum_sign x y hx hy]
theorem diff_over (x y : Int) (hx : in64 x) (hy : in64 y) : decide (bits .and .i64 (bits .xor .i64 x y) (bits .xor .i64 x (RowKit.wrap64 (x - y))) < 0) = decide (¬ in64 (x - y)) := by
  rw [neg_and_xor2 x y _ hx hy (wrap64_in64 _), diff_sign x y hx hy]
theorem wrap64_of (n : Int) (h : in64 n) : RowKit.wrap64 n = n := by unfold in64 at h; rw [wrap64_eq]; omega

/-- how far an int is from nought -/
def sizeI (x : Int) : Nat := x.natAbs
theorem natAbs_mul_over (x y : Int) : (x * y).natAbs = x.natAbs * y.natAbs := Int.natAbs_mul x y
/-- a product by its size: does it go over -/
theorem mul_in64 (x y : Int) : in64 (x * y) ↔ (if (decide (x < 0) != decide (y < 0)) = true then x.natAbs * y.natAbs ≤ 9223372036854775808 else x.natAbs * y.natAbs ≤ 9223372036854775807) := by
  unfold in64
  rw [← Int.natAbs_mul]
  by_cases hx : x < 0 <;> by_cases hy : y < 0
  · have := Int.mul_pos_of_neg_of_neg hx hy
    simp only [hx, hy, decide_true, bne_self_eq_false, Bool.false_eq_true, if_false]; omega
  · have := Int.mul_nonpos_of_nonpos_of_nonneg (Int.le_of_lt hx) (Int.not_lt.1 hy)
    simp only [hx, hy, decide_true, decide_false]; simp only [bne, Bool.not_false, show (true == false) = false from rfl, if_true]; omega
  · have := Int.mul_nonpos_of_nonneg_of_nonpos (Int.not_lt.1 hx) (Int.le_of_lt hy)
    simp only [hx, hy, decide_true, decide_false]; simp only [bne, Bool.not_false, show (false == true) = false from rfl, if_true]; omega
  · have := Int.mul_nonneg (Int.not_lt.1 hx) (Int.not_lt.1 hy)
    simp only [hx, hy, decide_false, bne_self_eq_false, Bool.false_eq_true, if_false]; omega
/-- the sign and the size make the product -/
theorem mul_sign (x y : Int) : x * y = if (decide (x < 0) != decide (y < 0)) = true then -((x.natAbs * y.natAbs : Nat) : Int) else ((x.natAbs * y.natAbs : Nat) : Int) := by
  rw [← Int.natAbs_mul]
  by_cases hx : x < 0 <;> by_cases hy : y < 0
  · have := Int.mul_pos_of_neg_of_neg hx hy
    simp only [hx, hy, decide_true, bne_self_eq_false, Bool.false_eq_true, if_false]; omega
  · have := Int.mul_nonpos_of_nonpos_of_nonneg (Int.le_of_lt hx) (Int.not_lt.1 hy)
    simp only [hx, hy, decide_true, decide_false]; simp only [bne, Bool.not_false, show (true == false) = false from rfl, if_true]; omega
  · have := Int.mul_nonpos_of_nonneg_of_nonpos (Int.not_lt.1 hx) (Int.le_of_lt hy)
    simp only [hx, hy, decide_true, decide_false]; simp only [bne, Bool.not_false, show (false == true) = false from rfl, if_true]; omega
  · have := Int.mul_nonneg (Int.not_lt.1 hx) (Int.not_lt.1 hy)
    simp only [hx, hy, decide_false, bne_self_eq_false, Bool.false_eq_true, if_false]; omega
/-- a product that was cut off is not divided again -/
theorem mul_back (x y : Int) (hy : y ≠ 0) (hm : ¬ (y = -1 ∧ x = -9223372036854775808)) (hx : in64 x) (hy64 : in64 y) : decide (RowKit.wrap64 ((RowKit.wrap64 (x * y)).tdiv y) = x) = decide (in64 (x * y)) := by
  by_cases h : in64 (x * y)
  · rw [wrap64_of _ h, Int.mul_tdiv_cancel _ hy, wrap64_of _ hx, decide_eq_true h, decide_eq_true rfl]
  · rw [decide_eq_false h]
    refine decide_eq_false ?_
    intro he
    have hc := wrap64_in64 (x * y)
    have hw := wrap64_eq (x * y)
    generalize RowKit.wrap64 (x * y) = c at *
    -- c is x * y up to a number of 2 ^ 64
    have h1 : ∃ k : Int, c = x * y + k * 18446744073709551616 := ⟨-((x * y + 9223372036854775808) / 18446744073709551616), by omega⟩
    obtain ⟨k, hk⟩ := h1
    have hk0 : k ≠ 0 := by rintro rfl; apply h; rw [Int.zero_mul, Int.add_zero] at hk; rw [← hk]; exact hc
    -- the quotient
    have hdm := Int.mul_tdiv_add_tmod c y
    have hmod : (c.tmod y).natAbs < y.natAbs := by
      have := Int.natAbs_tmod c y
      rw [this]; exact Nat.mod_lt _ (by omega)
    by_cases hs : in64 (c.tdiv y)
    · rw [wrap64_of _ hs] at he
      rw [he, Int.mul_comm y x] at hdm
      unfold in64 at hy64
      omega
    · -- only -2^63 / -1 goes over
      exfalso
      have hle : (c.tdiv y).natAbs ≤ c.natAbs := by rw [Int.natAbs_tdiv]; exact Nat.div_le_self _ _
      have hcd : c.natAbs = 9223372036854775808 ∧ (c.tdiv y).natAbs = 9223372036854775808 := by
        unfold in64 at hs hc; omega
      have hy1 : y.natAbs = 1 := by
        have h2 := hcd.2
        rw [Int.natAbs_tdiv, hcd.1] at h2
        rcases Nat.lt_or_ge y.natAbs 2 with h3 | h3
        · omega
        · exfalso; have h4 : Nat.div 9223372036854775808 y.natAbs ≤ 4611686018427387904 := Nat.div_le_div_left (a := 9223372036854775808) h3 (by decide)
          rw [h2] at h4; exact absurd h4 (by decide)
      rcases (show y = 1 ∨ y = -1 by omega) with rfl | rfl
      · apply h; rw [Int.mul_one]; exact hx
      · have hce : c = -9223372036854775808 := by unfold in64 at hc; omega
        unfold in64 at hx h
        rw [hce] at he
        have : (-9223372036854775808 : Int).tdiv (-1) = 9223372036854775808 := by decide
        rw [this, wrap64_eq] at he
        exact hm ⟨rfl, by omega⟩
end Go.Proofs.Ytlnpolepgdoloaa
