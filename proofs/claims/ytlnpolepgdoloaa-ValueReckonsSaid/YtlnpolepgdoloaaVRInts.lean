/- Layer 4: reckoning with ints by any operation, by the document. -/
import Derived.Test.YtlnpolepgdoloaaVInts
namespace Go.Proofs.Ytlnpolepgdoloaa
open Go.RowKit
set_option linter.unusedVariables false
set_option linter.unusedSimpArgs false
set_option maxRecDepth 20000

set_option maxHeartbeats 1000000 in
theorem ints_add (x y : Int) (w : World) (hx : in64 x) (hy : in64 y) : Calls Try.prog 62 #[.int .i64 4, .int .i64 x, .int .i64 y] w (VGv (pairII (ovr (x + y))) w) := by
  have hp : 0 < y → wrap64 (9223372036854775807 - y) = 9223372036854775807 - y := fun h => wrap64_of _ (by unfold in64 at *; omega)
  have hn : y < 0 → wrap64 (-9223372036854775808 - y) = -9223372036854775808 - y := fun h => wrap64_of _ (by unfold in64 at *; omega)
  rcases Int.lt_trichotomy y 0 with h | h | h
  · have e1 : decide (0 < y) = false := by simp; omega
    have e2 : decide (y < 0) = true := by simpa using h
    have hn := hn h
    by_cases hi : in64 (x + y)
    · rw [ovr_in hi]
      have hw := wrap64_of _ hi
      have HW := Lib.hid hw
      have e3 : decide (x < wrap64 (-9223372036854775808 - y)) = false := by rw [hn]; unfold in64 at *; simp; omega
      clear hp hn h hi hx hy hw
      go_enter Try.func62, Try.ntmps62
      go_wp2
      go_ret2
      exact ⟨ret_p HW.out, rfl⟩
    · rw [ovr_out hi]
      have e3 : decide (x < wrap64 (-9223372036854775808 - y)) = true := by rw [hn]; unfold in64 at *; simp; omega
      clear hp hn h hi hx hy
      go_enter Try.func62, Try.ntmps62
      go_wp2
      go_ret2
      exact ⟨rfl, rfl⟩
  · subst h
    have hi : in64 (x + 0) := by rw [Int.add_zero]; exact hx
    rw [ovr_in hi]
    have hw := wrap64_of _ hi
    have HW := Lib.hid hw
    have hw2 := wrap64_of _ hx
    have HW2 := Lib.hid hw2
    clear hp hn hi hx hy hw hw2
    go_enter Try.func62, Try.ntmps62
    go_wp2
    go_ret2
    exact ⟨by first | exact ret_p HW.out | exact ret_p (HW2.out.trans (Int.add_zero x).symm) | (rw [Int.add_zero]; rfl), rfl⟩
  · have e1 : decide (0 < y) = true := by simpa using h
    have e2 : decide (y < 0) = false := by simp; omega
    have hp := hp h
    by_cases hi : in64 (x + y)
    · rw [ovr_in hi]
      have hw := wrap64_of _ hi
      have HW := Lib.hid hw
      have e3 : decide (wrap64 (9223372036854775807 - y) < x) = false := by rw [hp]; unfold in64 at *; simp; omega
      clear hp hn h hi hx hy hw
      go_enter Try.func62, Try.ntmps62
      go_wp2
      go_ret2
      exact ⟨ret_p HW.out, rfl⟩
    · rw [ovr_out hi]
      have e3 : decide (wrap64 (9223372036854775807 - y) < x) = true := by rw [hp]; unfold in64 at *; simp; omega
      clear hp hn h hi hx hy
      go_enter Try.func62, Try.ntmps62
      go_wp2
      go_ret2
      exact ⟨rfl, rfl⟩
set_option maxHeartbeats 1000000 in
theorem ints_sub (x y : Int) (w : World) (hx : in64 x) (hy : in64 y) : Calls Try.prog 62 #[.int .i64 5, .int .i64 x, .int .i64 y] w (VGv (pairII (ovr (x - y))) w) := by
  have hp : 0 < y → wrap64 (-9223372036854775808 + y) = -9223372036854775808 + y := fun h => wrap64_of _ (by unfold in64 at *; omega)
  have hn : y < 0 → wrap64 (9223372036854775807 + y) = 9223372036854775807 + y := fun h => wrap64_of _ (by unfold in64 at *; omega)
  rcases Int.lt_trichotomy y 0 with h | h | h
  · have e1 : decide (0 < y) = false := by simp; omega
    have e2 : decide (y < 0) = true := by simpa using h
    have hn := hn h
    by_cases hi : in64 (x - y)
    · rw [ovr_in hi]
      have hw := wrap64_of _ hi
      have HW := Lib.hid hw
      have e3 : decide (wrap64 (9223372036854775807 + y) < x) = false := by rw [hn]; unfold in64 at *; simp; omega
      clear hp hn h hi hx hy hw
      go_enter Try.func62, Try.ntmps62
      go_wp2
      go_ret2
      exact ⟨ret_p HW.out, rfl⟩
    · rw [ovr_out hi]
      have e3 : decide (wrap64 (9223372036854775807 + y) < x) = true := by rw [hn]; unfold in64 at *; simp; omega
      clear hp hn h hi hx hy
      go_enter Try.func62, Try.ntmps62
      go_wp2
      go_ret2
      exact ⟨rfl, rfl⟩
  · subst h
    have hi : in64 (x - 0) := by rw [Int.sub_zero]; exact hx
    rw [ovr_in hi]
    have hw := wrap64_of _ hi
    have HW := Lib.hid hw
    have hw2 := wrap64_of _ hx
    have HW2 := Lib.hid hw2
    clear hp hn hi hx hy hw hw2
    go_enter Try.func62, Try.ntmps62
    go_wp2
    go_ret2
    exact ⟨by first | exact ret_p HW.out | exact ret_p (HW2.out.trans (Int.sub_zero x).symm) | (rw [Int.sub_zero]; rfl), rfl⟩
  · have e1 : decide (0 < y) = true := by simpa using h
    have e2 : decide (y < 0) = false := by simp; omega
    have hp := hp h
    by_cases hi : in64 (x - y)
    · rw [ovr_in hi]
      have hw := wrap64_of _ hi
      have HW := Lib.hid hw
      have e3 : decide (x < wrap64 (-9223372036854775808 + y)) = false := by rw [hp]; unfold in64 at *; simp; omega
      clear hp hn h hi hx hy hw
      go_enter Try.func62, Try.ntmps62
      go_wp2
      go_ret2
      exact ⟨ret_p HW.out, rfl⟩
    · rw [ovr_out hi]
      have e3 : decide (x < wrap64 (-9223372036854775808 + y)) = true := by rw [hp]; unfold in64 at *; simp; omega
      clear hp hn h hi hx hy
      go_enter Try.func62, Try.ntmps62
      go_wp2
      go_ret2
      exact ⟨rfl, rfl⟩
/-- what is told up to draws -/
def VDr (x : Value) (w : World) (e : Ending) (w' : World) : Prop := e = .returned x ∧ ∃ n, w' = w.drewN n
theorem VDr.of {x : Value} {w : World} {e : Ending} {w' : World} (h : VGv x w e w') : VDr x w e w' := ⟨h.1, 0, h.2.symm⟩
set_option maxHeartbeats 1000000 in
theorem ints_mul (x y : Int) (w : World) (hx : in64 x) (hy : in64 y) : Calls Try.prog 62 #[.int .i64 6, .int .i64 x, .int .i64 y] w (VDr (pairII (ovr (x * y))) w) := by
  have q := times_any x y w hx hy
  unfold TimesP at q
  by_cases hi : in64 (x * y)
  · rw [ovr_in hi]
    rw [decide_eq_true hi] at q
    have HQ := Lib.hid q
    have HI := Lib.hid hi
    clear q hi hx hy
    go_enter Try.func62, Try.ntmps62
    go_wp2_with (go_at_call 91; refine HQ.out.mono ?_; rintro e w1 ⟨c, rfl, hc, n, rfl⟩; have HC := Lib.hid (hc HI.out); clear hc)
    go_ret2
    exact ⟨ret_p HC.out, _, rfl⟩
  · rw [ovr_out hi]
    rw [decide_eq_false hi] at q
    have HQ := Lib.hid q
    clear q hi hx hy
    go_enter Try.func62, Try.ntmps62
    go_wp2_with (go_at_call 91; refine HQ.out.mono ?_; rintro e w1 ⟨c, rfl, hc, n, rfl⟩; clear hc)
    go_ret2
    exact ⟨rfl, _, rfl⟩
set_option maxHeartbeats 1000000 in
theorem ints_div (x y : Int) (w : World) (hx : in64 x) (hy : in64 y) : Calls Try.prog 62 #[.int .i64 7, .int .i64 x, .int .i64 y] w (VGv (pairII (quoI x y)) w) := by
  unfold quoI
  by_cases h0 : y = 0
  · rw [if_pos h0]
    subst h0
    clear hx hy
    go_enter Try.func62, Try.ntmps62
    go_wp2
    go_ret2
    exact ⟨rfl, rfl⟩
  · rw [if_neg h0]
    have h0' : (y == 0) = false := by simpa using h0
    have hy0 : decide (y = 0) = false := by simpa using h0
    by_cases hm : x = -9223372036854775808 ∧ y = -1
    · rw [if_pos hm]
      obtain ⟨rfl, rfl⟩ := hm
      clear hx hy h0 h0' hy0
      go_enter Try.func62, Try.ntmps62
      go_wp2
      go_ret2
      exact ⟨rfl, rfl⟩
    · rw [if_neg hm]
      have hw := wrap64_of _ (quot_in64 x y h0 hx hm)
      have HW := Lib.hid hw
      clear hw
      rcases hmx : (x == -9223372036854775808) with _ | _
      · clear hm hx hy
        go_enter Try.func62, Try.ntmps62
        go_wp2
        go_ret2
        exact ⟨ret_p HW.out, rfl⟩
      · have hy1 : (y == -1) = false := by
          rw [beq_iff_eq] at hmx
          simpa [hmx] using hm
        clear hm hx hy
        go_enter Try.func62, Try.ntmps62
        go_wp2
        go_ret2
        exact ⟨ret_p HW.out, rfl⟩
set_option maxHeartbeats 1000000 in
theorem ints_any (op x y : Int) (w : World) (hx : in64 x) (hy : in64 y) : Calls Try.prog 62 #[.int .i64 op, .int .i64 x, .int .i64 y] w (VDr (pairII (intsV op x y)) w) := by
  unfold intsV
  by_cases h4 : op = 4
  · rw [if_pos h4]; subst h4; exact (ints_add x y w hx hy).mono fun _ _ h => VDr.of h
  rw [if_neg h4]
  by_cases h5 : op = 5
  · rw [if_pos h5]; subst h5; exact (ints_sub x y w hx hy).mono fun _ _ h => VDr.of h
  rw [if_neg h5]
  by_cases h6 : op = 6
  · rw [if_pos h6]; subst h6; exact ints_mul x y w hx hy
  rw [if_neg h6]
  by_cases h7 : op = 7
  · rw [if_pos h7]; subst h7; exact (ints_div x y w hx hy).mono fun _ _ h => VDr.of h
  rw [if_neg h7]
  clear hx hy
  have h4' : (op == 4) = false := by simpa using h4
  have h5' : (op == 5) = false := by simpa using h5
  have h6' : (op == 6) = false := by simpa using h6
  have h7' : (op == 7) = false := by simpa using h7
  by_cases h14 : op = 14
  · rw [if_pos h14]; subst h14
    clear h4 h4' h5 h5' h6 h6' h7 h7'
    by_cases hlt : y < x
    all_goals
      go_enter Try.func62, Try.ntmps62
      go_wp2
      go_ret2
      exact ⟨by simp [hlt, pairII], 0, rfl⟩
  have h14' : (op == 14) = false := by simpa using h14
  rw [if_neg h14]
  clear h4 h5 h6 h7 h14
  by_cases hlt : x < y
  all_goals
    go_enter Try.func62, Try.ntmps62
    go_wp2
    go_ret2
    exact ⟨by simp [hlt, pairII], 0, rfl⟩
end Go.Proofs.Ytlnpolepgdoloaa
