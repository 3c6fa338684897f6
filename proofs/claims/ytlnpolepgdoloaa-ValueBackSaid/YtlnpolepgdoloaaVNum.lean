/- Layer 4: a float's bits and place, by the program and by the document; cmp.Compare. -/
import Derived.Test.YtlnpolepgdoloaaVInt
import Derived.Deep.QuietTactic
import Derived.BigQuiet
namespace Go.Proofs.Ytlnpolepgdoloaa
open Go.RowKit
set_option linter.unusedVariables false
set_option linter.unusedSimpArgs false

/-- a call that only computes -/
def VGv (x : Value) (w : World) (e : Ending) (w' : World) : Prop := e = .returned x ∧ w = w'

theorem numBits_any (b : Nat) (w : World) : Calls Try.prog 53 #[.float .f64 b] w (VGv (.int .u64 (numW b)) w) := by
  have hfb := bits_of b
  rcases hn : nanB b with _ | _
  · have e : numW b = b := by unfold numW; rw [hn]; rfl
    rw [e]; clear e
    go_enter Try.func53, Try.ntmps53
    go_wp2_with (go_at_call 86; refine (IsNaN_any b _).mono ?_; rintro e w' ⟨rfl, rfl⟩)
    go_ret
    exact ⟨rfl, rfl⟩
  · have e : numW b = 9221120237041090561 := by unfold numW; rw [hn]; rfl
    rw [e]; clear e
    go_enter Try.func53, Try.ntmps53
    go_wp2_with (go_at_call 86; refine (IsNaN_any b _).mono ?_; rintro e w' ⟨rfl, rfl⟩)
    go_ret
    exact ⟨rfl, rfl⟩

theorem rfBits_any (b : Nat) (w : World) : Calls Try.prog 42 #[.float .f64 b] w (VGv (.int .u64 (numW b)) w) := by
  have hfb := bits_of b
  rcases hn : (FloatKind.f64.format.order b b != some .eq) with _ | _
  · have e : numW b = b := by unfold numW nanB; rw [hn]; rfl
    rw [e]; clear e
    go_enter Try.func42, Try.ntmps42
    go_wp2
    go_ret
    exact ⟨rfl, rfl⟩
  · have e : numW b = 9221120237041090561 := by unfold numW nanB; rw [hn]; rfl
    rw [e]; clear e
    go_enter Try.func42, Try.ntmps42
    go_wp2
    go_ret
    exact ⟨rfl, rfl⟩

theorem vNumW_lt (b : Nat) (h : b < 18446744073709551616) : numW b < 18446744073709551616 := by unfold numW; split <;> omega
theorem numW_nan (b : Nat) : numW b = 9221120237041090561 ↔ nanB b = true ∨ b = 9221120237041090561 := by
  unfold numW
  split <;> simp_all
theorem nan_bits : nanB 9221120237041090561 = true := by rw [nanB_iff]; decide
theorem numW_eq_nan (b : Nat) : numW b = 9221120237041090561 ↔ nanB b = true := by
  rw [numW_nan]
  constructor
  · rintro (h | rfl)
    · exact h
    · exact nan_bits
  · exact .inl
theorem not_u64 (n : Nat) (h : n < 18446744073709551616) : bits .xor .u64 IntKind.u64.max (n : Int) = ((18446744073709551615 - n : Nat) : Int) := by
  rw [show IntKind.u64.max = ((18446744073709551615 : Nat) : Int) from rfl, u64_xor_nat _ _ (by omega) h]
  congr 1
  have : (18446744073709551615 : Nat) ^^^ n = (~~~ (BitVec.ofNat 64 n)).toNat := by
    rw [← BitVec.allOnes_xor, BitVec.toNat_xor, BitVec.toNat_allOnes, BitVec.toNat_ofNat, Nat.mod_eq_of_lt (by omega)]
  rw [this, BitVec.toNat_not, BitVec.toNat_ofNat, Nat.mod_eq_of_lt (by omega)]
theorem or_u64 (n : Nat) (h : n < 9223372036854775808) : bits .or .u64 (n : Int) 9223372036854775808 = ((n + 9223372036854775808 : Nat) : Int) := by
  rw [show (9223372036854775808 : Int) = ((9223372036854775808 : Nat) : Int) from rfl, u64_or_nat _ _ (by omega) (by omega)]
  congr 1
  have := Nat.two_pow_add_eq_or_of_lt (i := 63) (b := n) (by omega) 1
  rw [Nat.or_comm]
  simp at this
  omega

theorem flRank_num (b : Nat) (hb : b < 18446744073709551616) : flRank b = if numW b = 9221120237041090561 then 0 else if 9223372036854775808 ≤ numW b then 18446744073709551615 - numW b else numW b + 9223372036854775808 := by
  unfold flRank
  rcases hn : nanB b with _ | _
  · have e : numW b = b := by unfold numW; rw [hn]; rfl
    have h2 : ¬ b = 9221120237041090561 := fun h => by rw [h, nan_bits] at hn; cases hn
    rw [e, if_neg (by simp), if_neg h2]
  · rw [if_pos rfl, if_pos ((numW_eq_nan b).2 hn)]
theorem flRank_lt (b : Nat) (hb : b < 18446744073709551616) : flRank b < 18446744073709551616 := by
  unfold flRank; split
  · omega
  · split <;> omega
theorem numRank_any (b : Nat) (hb : b < 18446744073709551616) (w : World) : Calls Try.prog 51 #[.float .f64 b] w (VGv (.int .u64 (flRank b)) w) := by
  have hr := flRank_num b hb
  have hl := vNumW_lt b hb
  have hN := numBits_any b
  generalize numW b = x at hr hl hN
  by_cases h1 : x = 9221120237041090561
  · rw [if_pos h1] at hr
    rw [hr]; clear hr
    have ht : ((x : Int) == 9221120237041090561) = true := by simp; omega
    have HN := Lib.hid hN
    clear hN h1
    go_enter Try.func51, Try.ntmps51
    go_wp2_with (go_at_call 53; refine (HN.out _).mono ?_; rintro e w' ⟨rfl, rfl⟩)
    go_ret
    exact ⟨rfl, rfl⟩
  · rw [if_neg h1] at hr
    have ht : ((x : Int) == 9221120237041090561) = false := by simp; omega
    have HN := Lib.hid hN
    clear hN h1
    by_cases h2 : 9223372036854775808 ≤ x
    · rw [if_pos h2] at hr
      have hx := not_u64 x hl
      rw [← hr] at hx
      have hge : decide ((9223372036854775808 : Int) ≤ (x : Int)) = true := by simp; omega
      clear hr hl h2
      generalize flRank b = rk at hx ⊢
      go_enter Try.func51, Try.ntmps51
      go_wp2_with (go_at_call 53; refine (HN.out _).mono ?_; rintro e w' ⟨rfl, rfl⟩)
      go_ret
      exact ⟨rfl, rfl⟩
    · rw [if_neg h2] at hr
      have hx := or_u64 x (by omega)
      rw [← hr] at hx
      have hge : decide ((9223372036854775808 : Int) ≤ (x : Int)) = false := by simp; omega
      clear hr hl h2
      generalize flRank b = rk at hx ⊢
      go_enter Try.func51, Try.ntmps51
      go_wp2_with (go_at_call 53; refine (HN.out _).mono ?_; rintro e w' ⟨rfl, rfl⟩)
      go_ret
      exact ⟨rfl, rfl⟩
theorem rRank_any (b : Nat) (hb : b < 18446744073709551616) (w : World) : Calls Try.prog 52 #[.float .f64 b] w (VGv (.int .u64 (flRank b)) w) := by
  have hl := vNumW_lt b hb
  have hN := rfBits_any b
  rcases hn : (FloatKind.f64.format.order b b != some .eq) with _ | _
  · have hr : flRank b = if 9223372036854775808 ≤ numW b then 18446744073709551615 - numW b else numW b + 9223372036854775808 := by
      unfold flRank; rw [show nanB b = false from hn, if_neg (by simp)]
      have e : numW b = b := by unfold numW nanB; rw [hn]; rfl
      rw [e]
    generalize numW b = x at hr hl hN
    have HN := Lib.hid hN
    clear hN
    by_cases h2 : 9223372036854775808 ≤ x
    · rw [if_pos h2] at hr
      have hx := not_u64 x hl
      rw [← hr] at hx
      have hge : decide ((9223372036854775808 : Int) ≤ (x : Int)) = true := by simp; omega
      have hs : (((x : Int) / 9223372036854775808) == 1) = true := by simp; omega
      clear hr hl h2
      generalize flRank b = rk at hx ⊢
      go_enter Try.func52, Try.ntmps52
      go_wp2_with (go_at_call 42; refine (HN.out _).mono ?_; rintro e w' ⟨rfl, rfl⟩)
      go_ret
      exact ⟨rfl, rfl⟩
    · rw [if_neg h2] at hr
      have hx := or_u64 x (by omega)
      rw [← hr] at hx
      have hge : decide ((9223372036854775808 : Int) ≤ (x : Int)) = false := by simp; omega
      have hs : (((x : Int) / 9223372036854775808) == 1) = false := by simp; omega
      clear hr hl h2
      generalize flRank b = rk at hx ⊢
      go_enter Try.func52, Try.ntmps52
      go_wp2_with (go_at_call 42; refine (HN.out _).mono ?_; rintro e w' ⟨rfl, rfl⟩)
      go_ret
      exact ⟨rfl, rfl⟩
  · have hr : flRank b = 0 := by unfold flRank; rw [show nanB b = true from hn, if_pos rfl]
    rw [hr]; clear hr
    go_enter Try.func52, Try.ntmps52
    go_wp2
    go_ret
    exact ⟨rfl, rfl⟩

/-- cmp.Compare of numbers -/
def cmpI (x y : Int) : Int := if x < y then -1 else if y < x then 1 else 0
theorem cmpInt_any (x y : Int) (w : World) : Calls Try.prog 46 #[.int .i64 x, .int .i64 y] w (VGv (.int .i64 (cmpI x y)) w) := by
  go_enter Try.func46, Try.ntmps46
  go_wp2_with (go_in; go_wp2)
  all_goals (go_ret; exact ⟨ret_int (by unfold cmpI; (first | rw [if_pos (by omega)] | (rw [if_neg (by omega)]; first | rw [if_pos (by omega)] | rw [if_neg (by omega)]))), rfl⟩)
theorem cmpI64_any (x y : Int) (w : World) : Calls Try.prog 47 #[.int .i64 x, .int .i64 y] w (VGv (.int .i64 (cmpI x y)) w) := by
  go_enter Try.func47, Try.ntmps47
  go_wp2_with (go_in; go_wp2)
  all_goals (go_ret; exact ⟨ret_int (by unfold cmpI; (first | rw [if_pos (by omega)] | (rw [if_neg (by omega)]; first | rw [if_pos (by omega)] | rw [if_neg (by omega)]))), rfl⟩)
theorem cmpU64_any (x y : Int) (w : World) : Calls Try.prog 50 #[.int .u64 x, .int .u64 y] w (VGv (.int .i64 (cmpI x y)) w) := by
  go_enter Try.func50, Try.ntmps50
  go_wp2_with (go_in; go_wp2)
  all_goals (go_ret; exact ⟨ret_int (by unfold cmpI; (first | rw [if_pos (by omega)] | (rw [if_neg (by omega)]; first | rw [if_pos (by omega)] | rw [if_neg (by omega)]))), rfl⟩)
end Go.Proofs.Ytlnpolepgdoloaa
