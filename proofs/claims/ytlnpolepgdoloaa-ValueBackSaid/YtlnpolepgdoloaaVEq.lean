/- Layer 4: Equal, Less by the program. -/
import Derived.Test.YtlnpolepgdoloaaVOrd
namespace Go.Proofs.Ytlnpolepgdoloaa
open Go.RowKit
set_option linter.unusedVariables false
set_option linter.unusedSimpArgs false
set_option maxRecDepth 20000

/-- how two floats stand -/
abbrev flO (a b : Nat) : Option Ordering := FloatKind.f64.format.order a b
/-- 4.3: equal, below; the error -/
def eqB (a c : Vl) : Bool := if a.k = 4 then flO a.n c.n == some .eq else sameV a c
def ltB (a c : Vl) : Bool := if a.k = 4 then flO a.n c.n == some .lt else decide (ordV a c < 0)
abbrev pairBE (x : Bool) (e : Int) : Value := .tuple #[.bool x, .int .i64 e]
def eqV (a c : Vl) : Bool × Int := if alikeV a c then (eqB a c, 0) else (false, 40)
def ltV (a c : Vl) : Bool × Int := if alikeV a c && !(a.k == 2) then (ltB a c, 0) else (false, 40)

set_option maxHeartbeats 1000000 in
theorem Equal_val (a c : Vl) (w : World) : Calls Try.prog 22 #[agV a, agV c] w (VMk (pairBE (eqV a c).1 (eqV a c).2) w) := by
  have hl : ∀ W, Calls Try.prog 54 #[agV a, agV c] W (VMk (.bool (alikeV a c)) W) := fun W => alike_val a c W
  have hs : ∀ W, Calls Try.prog 20 #[agV a, agV c] W (VMk (.bool (sameV a c)) W) := fun W => Same_val a c W
  unfold eqV eqB
  generalize alikeV a c = la at hl ⊢
  have HL := Lib.hid hl
  have HS := Lib.hid hs
  clear hl hs
  rcases la with _ | _
  · simp only [Bool.false_eq_true, if_false]
    go_enter Try.func22, Try.ntmps22
    go_wp2_with (go_at_call 54; refine (HL.out _).mono ?_; rintro e w1 ⟨rfl, hb1⟩; obtain ⟨hc1, hf1⟩ := bcell hb1)
    go_ret2
    exact ⟨rfl, (vbox2 w _ _).trans (hb1.mono (by simp; omega))⟩
  · simp only [if_true]
    by_cases h4 : a.k = 4
    · rw [if_pos h4]
      have h4' : (a.k == 4) = true := by simpa using h4
      clear h4
      go_enter Try.func22, Try.ntmps22
      go_wp2_with (go_at_call 54; refine (HL.out _).mono ?_; rintro e w1 ⟨rfl, hb1⟩; obtain ⟨hc1, hf1⟩ := bcell hb1)
      go_ret2
      exact ⟨rfl, (vbox2 w _ _).trans (hb1.mono (by simp; omega))⟩
    · rw [if_neg h4]
      have h4' : (a.k == 4) = false := by simpa using h4
      clear h4
      go_enter Try.func22, Try.ntmps22
      go_wp2_with (first
        | (go_at_call 54; refine (HL.out _).mono ?_; rintro e w1 ⟨rfl, hb1⟩; obtain ⟨hc1, hf1⟩ := bcell hb1; have hz1 : w.heap.size + 1 < w1.heap.size := by { have := hb1.size; simp at this; omega })
        | (go_at_call 20; refine (HS.out _).mono ?_; rintro e w2 ⟨rfl, hb2⟩))
      go_ret2
      exact ⟨rfl, ((vbox2 w _ _).trans (hb1.mono (by simp; omega))).trans (hb2.mono (by omega))⟩

set_option maxHeartbeats 1000000 in
theorem Less_val (a c : Vl) (w : World) (ha : a.n < 18446744073709551616) (hc : c.n < 18446744073709551616) : Calls Try.prog 24 #[agV a, agV c] w (VMk (pairBE (ltV a c).1 (ltV a c).2) w) := by
  have hl : ∀ W, Calls Try.prog 54 #[agV a, agV c] W (VMk (.bool (alikeV a c)) W) := fun W => alike_val a c W
  have hs : ∀ W, Calls Try.prog 18 #[agV a, agV c] W (VMk (.int .i64 (ordV a c)) W) := fun W => Order_val a c W ha hc
  unfold ltV ltB
  clear ha hc
  generalize alikeV a c = la at hl ⊢
  have HL := Lib.hid hl
  have HS := Lib.hid hs
  clear hl hs
  rcases la with _ | _
  · simp only [Bool.false_and, Bool.false_eq_true, if_false]
    go_enter Try.func24, Try.ntmps24
    go_wp2_with (go_at_call 54; refine (HL.out _).mono ?_; rintro e w1 ⟨rfl, hb1⟩; obtain ⟨hc1, hf1⟩ := bcell hb1)
    go_ret2
    exact ⟨rfl, (vbox2 w _ _).trans (hb1.mono (by simp; omega))⟩
  · simp only [Bool.true_and]
    rcases h2 : (a.k == 2) with _ | _
    · simp only [Bool.not_false, if_true]
      by_cases h4 : a.k = 4
      · rw [if_pos h4]
        have h4' : (a.k == 4) = true := by simpa using h4
        clear h4
        go_enter Try.func24, Try.ntmps24
        go_wp2_with (go_at_call 54; refine (HL.out _).mono ?_; rintro e w1 ⟨rfl, hb1⟩; obtain ⟨hc1, hf1⟩ := bcell hb1)
        go_ret2
        exact ⟨rfl, (vbox2 w _ _).trans (hb1.mono (by simp; omega))⟩
      · rw [if_neg h4]
        have h4' : (a.k == 4) = false := by simpa using h4
        clear h4
        go_enter Try.func24, Try.ntmps24
        go_wp2_with (first
          | (go_at_call 54; refine (HL.out _).mono ?_; rintro e w1 ⟨rfl, hb1⟩; obtain ⟨hc1, hf1⟩ := bcell hb1; have hz1 : w.heap.size + 1 < w1.heap.size := by { have := hb1.size; simp at this; omega })
          | (go_at_call 18; refine (HS.out _).mono ?_; rintro e w2 ⟨rfl, hb2⟩))
        go_ret2
        exact ⟨rfl, ((vbox2 w _ _).trans (hb1.mono (by simp; omega))).trans (hb2.mono (by omega))⟩
    · simp only [Bool.not_true, Bool.false_eq_true, if_false]
      go_enter Try.func24, Try.ntmps24
      go_wp2_with (go_at_call 54; refine (HL.out _).mono ?_; rintro e w1 ⟨rfl, hb1⟩; obtain ⟨hc1, hf1⟩ := bcell hb1)
      go_ret2
      exact ⟨rfl, (vbox2 w _ _).trans (hb1.mono (by simp; omega))⟩
end Go.Proofs.Ytlnpolepgdoloaa
