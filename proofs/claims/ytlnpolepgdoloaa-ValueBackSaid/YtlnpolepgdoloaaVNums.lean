/- Layer 4: reckoning with floats by any operation. (Made by gen/genvnums.py.) -/
import Derived.Test.YtlnpolepgdoloaaVFlOp
namespace Go.Proofs.Ytlnpolepgdoloaa
open Go.RowKit
set_option linter.unusedVariables false
set_option linter.unusedSimpArgs false
set_option maxRecDepth 20000

/-- a float of these bits, or the NaN by whatever bits -/
def FlP (c : Nat) (w : World) (e : Ending) (w' : World) : Prop := ∃ b, e = .returned (.float .f64 b) ∧ numW b = c ∧ b < 18446744073709551616 ∧ Below w.heap.size w w'
theorem FlP.mk {b c : Nat} {w w' : World} (h1 : numW b = c) (h2 : b < 18446744073709551616) (h3 : Below w.heap.size w w') : FlP c w (.returned (.float .f64 b)) w' := ⟨b, rfl, h1, h2, h3⟩
def minN (x y : Nat) : Nat := if nanB x || nanB y then 9221120237041090561 else numW (flMin x y)
def maxN (x y : Nat) : Nat := if nanB x || nanB y then 9221120237041090561 else numW (flMax x y)
/-- 4.4: floats -/
def numsV (op : Int) (x y : Nat) : Nat :=
  if op = 4 then flRes .add x y else if op = 5 then flRes .sub x y else if op = 6 then flRes .mul x y else if op = 7 then flRes .quo x y else if op = 14 then minN x y else maxN x y
set_option maxHeartbeats 1000000 in
theorem reckonNums_any (op : Int) (x y : Nat) (w : World) (hx : x < 18446744073709551616) (hy : y < 18446744073709551616) : Calls Try.prog 59 #[.int .i64 op, .float .f64 x, .float .f64 y] w (FlP (numsV op x y) w) := by
  unfold numsV
  by_cases h4 : op = 4
  · rw [if_pos h4]; subst h4
    obtain ⟨b, W, hop, hr⟩ := run_fl .add (by simp) 22 x y w
    have HR := Lib.hid hr
    clear hr hx hy
    go_enter Try.func59, Try.ntmps59
    go_wp2
    go_ret
    exact FlP.mk HR.out.1 HR.out.2.1 HR.out.2.2
  have h4' : (op == 4) = false := by simpa using h4
  rw [if_neg h4]
  by_cases h5 : op = 5
  · rw [if_pos h5]; subst h5
    clear  h4 h4'
    obtain ⟨b, W, hop, hr⟩ := run_fl .sub (by simp) 22 x y w
    have HR := Lib.hid hr
    clear hr hx hy
    go_enter Try.func59, Try.ntmps59
    go_wp2
    go_ret
    exact FlP.mk HR.out.1 HR.out.2.1 HR.out.2.2
  have h5' : (op == 5) = false := by simpa using h5
  rw [if_neg h5]
  by_cases h6 : op = 6
  · rw [if_pos h6]; subst h6
    clear  h4 h4' h5 h5'
    obtain ⟨b, W, hop, hr⟩ := run_fl .mul (by simp) 22 x y w
    have HR := Lib.hid hr
    clear hr hx hy
    go_enter Try.func59, Try.ntmps59
    go_wp2
    go_ret
    exact FlP.mk HR.out.1 HR.out.2.1 HR.out.2.2
  have h6' : (op == 6) = false := by simpa using h6
  rw [if_neg h6]
  by_cases h7 : op = 7
  · rw [if_pos h7]; subst h7
    clear  h4 h4' h5 h5' h6 h6'
    obtain ⟨b, W, hop, hr⟩ := run_fl .quo (by simp) 22 x y w
    have HR := Lib.hid hr
    clear hr hx hy
    go_enter Try.func59, Try.ntmps59
    go_wp2
    go_ret
    exact FlP.mk HR.out.1 HR.out.2.1 HR.out.2.2
  have h7' : (op == 7) = false := by simpa using h7
  rw [if_neg h7]
  by_cases h14 : op = 14
  · rw [if_pos h14]; subst h14
    clear  h4 h4' h5 h5' h6 h6' h7 h7'
    obtain ⟨b, W, hop, hr⟩ := run_fl_min #[22, 22] 22 x y w hx hy
    have HR := Lib.hid (show numW b = minN x y ∧ b < 18446744073709551616 ∧ Below w.heap.size w W from hr)
    clear hr hx hy
    go_enter Try.func59, Try.ntmps59
    go_wp2
    go_ret
    exact FlP.mk HR.out.1 HR.out.2.1 HR.out.2.2
  have h14' : (op == 14) = false := by simpa using h14
  rw [if_neg h14]
  obtain ⟨b, W, hop, hr⟩ := run_fl_max #[22, 22] 22 x y w hx hy
  have HR := Lib.hid (show numW b = maxN x y ∧ b < 18446744073709551616 ∧ Below w.heap.size w W from hr)
  clear hr hx hy h4 h5 h6 h7 h14
  go_enter Try.func59, Try.ntmps59
  go_wp2
  go_ret
  exact FlP.mk HR.out.1 HR.out.2.1 HR.out.2.2
end Go.Proofs.Ytlnpolepgdoloaa
