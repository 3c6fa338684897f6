/- Layer 4: reckoning with floats, by the program and by the document. -/
import Derived.Test.YtlnpolepgdoloaaVNum
namespace Go.Proofs.Ytlnpolepgdoloaa
open Go.RowKit
set_option linter.unusedVariables false
set_option linter.unusedSimpArgs false
set_option maxRecDepth 20000

theorem nan_made (t : Nat) : nanB ((t % 2) * 2 ^ 63 + 0x7ff0000000000000 + 1 + (t / 2) % (2 ^ 52 - 1)) = true ∧ (t % 2) * 2 ^ 63 + 0x7ff0000000000000 + 1 + (t / 2) % (2 ^ 52 - 1) < 18446744073709551616 := by
  rw [nanB_iff]
  unfold flRng flInf
  have h1 : (t / 2) % (2 ^ 52 - 1) < 2 ^ 52 - 1 := Nat.mod_lt _ (by decide)
  have h2 : t % 2 < 2 := Nat.mod_lt _ (by decide)
  generalize (t / 2) % (2 ^ 52 - 1) = m at *
  generalize t % 2 = s at *
  refine ⟨decide_eq_true ?_, by omega⟩
  rcases (show s = 0 ∨ s = 1 by omega) with rfl | rfl
  · rw [Nat.zero_mul, Nat.zero_add, Nat.mod_eq_of_lt (by omega)]; omega
  · have e : 1 * 2 ^ 63 + 9218868437227405312 + 1 + m = (9218868437227405312 + 1 + m) + 2 ^ 63 := by omega
    rw [e, Nat.add_mod_right, Nat.mod_eq_of_lt (by omega)]; omega

/-- what an operation on floats comes to: the bits, or the NaN -/
def flRes (op : BinOp) (x y : Nat) : Nat := match floatBits op .f64 x y with | some r => numW r | none => 9221120237041090561
/-- it gives a float of those bits, or a NaN of whatever bits -/
theorem run_fl (op : BinOp) (hop : op = .add ∨ op = .sub ∨ op = .mul ∨ op = .quo) (t : TypeId) (x y : Nat) (w : World) :
    ∃ b W, (binOp op t (.float .f64 x) (.float .f64 y)).run Try.prog w = .ok (.float .f64 b) W ∧ numW b = flRes op x y ∧ b < 18446744073709551616 ∧ Below w.heap.size w W := by
  rcases hb : floatBits op .f64 x y with _ | r
  · have hr : flRes op x y = 9221120237041090561 := by unfold flRes; rw [hb]
    obtain ⟨h1, h2⟩ := nan_made (w.tape w.drawn (.nanBits .f64 x y))
    refine ⟨_, w.drew, ?_, by rw [hr, numW_eq_nan]; exact h1, h2, ⟨rfl, rfl, rfl, Nat.le_refl _, fun _ _ => rfl⟩⟩
    unfold floatBits at hb
    rcases hop with rfl | rfl | rfl | rfl <;> simp only at hb <;> simp [binOp, Op.floatArith, hb, Question.forced, Question.cut]
  · have hr : flRes op x y = numW r := by unfold flRes; rw [hb]
    have hw := floatBits_wf hb
    have hl : r < 18446744073709551616 := by
      have : decide (r < 2 ^ 64) = true := hw
      simpa using this
    exact ⟨r, w, run_float_arith w op t .f64 x y r hb, hr.symm, hl, Below.refl _ _⟩

theorem run_fl_min (ts : Array TypeId) (t : TypeId) (x y : Nat) (w : World) (hx : x < 18446744073709551616) (hy : y < 18446744073709551616) :
    ∃ b W, (Builtin.min_ ts t #[.float .f64 x, .float .f64 y]).run Try.prog w = .ok (.float .f64 b) W ∧ numW b = (if nanB x || nanB y then 9221120237041090561 else numW (flMin x y)) ∧ b < 18446744073709551616 ∧ Below w.heap.size w W := by
  have ho := flOrder_nan x y
  rcases hn : (nanB x || nanB y) with _ | _
  · rw [hn] at ho
    have hn2 := hn
    rw [Bool.or_eq_false_iff] at hn2
    have hm := flMin_rank x y hx hy hn2.1 hn2.2
    rw [← flDecode_neg x hn2.1] at hm
    refine ⟨flMin x y, w, ?_, by simp, by unfold flMin; split <;> assumption, Below.refl _ _⟩
    simp only [Bool.false_eq_true, if_false] at ho
    rw [← hm]
    rcases hc : compare (flKey x) (flKey y) with _ | _ | _ <;> rw [hc] at ho <;> simp [Builtin.min_, Builtin.min2, ho, FloatKind.decode]
  · rw [hn] at ho
    simp only [if_true] at ho
    obtain ⟨h1, h2⟩ := nan_made (w.tape w.drawn (.nanMinMax .f64 false x y))
    refine ⟨_, w.drew, ?_, by rw [if_pos rfl, numW_eq_nan]; exact h1, h2, ⟨rfl, rfl, rfl, Nat.le_refl _, fun _ _ => rfl⟩⟩
    simp [Builtin.min_, Builtin.min2, ho, Question.forced, Question.cut]
theorem run_fl_max (ts : Array TypeId) (t : TypeId) (x y : Nat) (w : World) (hx : x < 18446744073709551616) (hy : y < 18446744073709551616) :
    ∃ b W, (Builtin.max_ ts t #[.float .f64 x, .float .f64 y]).run Try.prog w = .ok (.float .f64 b) W ∧ numW b = (if nanB x || nanB y then 9221120237041090561 else numW (flMax x y)) ∧ b < 18446744073709551616 ∧ Below w.heap.size w W := by
  have ho := flOrder_nan x y
  rcases hn : (nanB x || nanB y) with _ | _
  · rw [hn] at ho
    have hn2 := hn
    rw [Bool.or_eq_false_iff] at hn2
    have hm := flMax_rank x y hx hy hn2.1 hn2.2
    rw [← flDecode_neg x hn2.1] at hm
    refine ⟨flMax x y, w, ?_, by simp, by unfold flMax; split <;> assumption, Below.refl _ _⟩
    simp only [Bool.false_eq_true, if_false] at ho
    rw [← hm]
    rcases hc : compare (flKey x) (flKey y) with _ | _ | _ <;> rw [hc] at ho <;> simp [Builtin.max_, Builtin.max2, ho, FloatKind.decode]
  · rw [hn] at ho
    simp only [if_true] at ho
    obtain ⟨h1, h2⟩ := nan_made (w.tape w.drawn (.nanMinMax .f64 true x y))
    refine ⟨_, w.drew, ?_, by rw [if_pos rfl, numW_eq_nan]; exact h1, h2, ⟨rfl, rfl, rfl, Nat.le_refl _, fun _ _ => rfl⟩⟩
    simp [Builtin.max_, Builtin.max2, ho, Question.forced, Question.cut]
end Go.Proofs.Ytlnpolepgdoloaa
