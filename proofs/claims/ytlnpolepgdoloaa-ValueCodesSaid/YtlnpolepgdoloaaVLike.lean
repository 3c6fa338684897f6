/- Layer 4: two good values of one kind; Order, Equal, Less by the program. -/
import Derived.Test.YtlnpolepgdoloaaVGood
namespace Go.Proofs.Ytlnpolepgdoloaa
open Go.RowKit
set_option linter.unusedVariables false
set_option linter.unusedSimpArgs false
set_option maxRecDepth 20000

def alikeV (a c : Vl) : Bool := goodV a && goodV c && (a.k == c.k)

set_option maxHeartbeats 1000000 in
theorem alike_val (a c : Vl) (w : World) : Calls Try.prog 54 #[agV a, agV c] w (VMk (.bool (alikeV a c)) w) := by
  have ha : ∀ W, Calls Try.prog 13 #[agV a] W (VMk (.bool (goodV a)) W) := fun W => Good_val a W
  have hc : ∀ W, Calls Try.prog 13 #[agV c] W (VMk (.bool (goodV c)) W) := fun W => Good_val c W
  unfold alikeV
  generalize goodV a = ga at ha ⊢
  generalize goodV c = gc at hc ⊢
  rcases ga with _ | _
  · simp only [Bool.false_and]
    have HA := Lib.hid ha
    clear ha hc
    go_enter Try.func54, Try.ntmps54
    go_wp2_with (go_at_call 13; refine (HA.out _).mono ?_; rintro e w1 ⟨rfl, hb1⟩; obtain ⟨hc1, hf1⟩ := bcell hb1)
    go_ret
    exact ⟨rfl, (vbox2 w _ _).trans (hb1.mono (by simp; omega))⟩
  rcases gc with _ | _
  · simp only [Bool.and_false, Bool.false_and]
    have HA := Lib.hid ha
    have HC := Lib.hid hc
    clear ha hc
    go_enter Try.func54, Try.ntmps54
    go_wp2_with (first
      | (go_at_call 13; ((with_reducible refine (HA.out _).mono ?_); rintro e w1 ⟨rfl, hb1⟩; obtain ⟨hc1, hf1⟩ := bcell hb1; have hz1 : w.heap.size + 1 < w1.heap.size := by { have := hb1.size; simp at this; omega }; have hz0 : w.heap.size < w1.heap.size := by { have := hb1.size; simp at this; omega }))
      | (go_at_call 13; ((with_reducible refine (HC.out _).mono ?_); rintro e w2 ⟨rfl, hb2⟩; obtain ⟨hc2, hf2⟩ := bcell hb2)))
    go_ret
    exact ⟨rfl, ((vbox2 w _ _).trans (hb1.mono (by simp; omega))).trans (hb2.mono (by omega))⟩
  · simp only [Bool.true_and]
    have HA := Lib.hid ha
    have HC := Lib.hid hc
    clear ha hc
    rcases hk : (a.k == c.k) with _ | _
    all_goals
      go_enter Try.func54, Try.ntmps54
      go_wp2_with (first
        | (go_at_call 13; ((with_reducible refine (HA.out _).mono ?_); rintro e w1 ⟨rfl, hb1⟩; obtain ⟨hc1, hf1⟩ := bcell hb1; have hz1 : w.heap.size + 1 < w1.heap.size := by { have := hb1.size; simp at this; omega }; have hz0 : w.heap.size < w1.heap.size := by { have := hb1.size; simp at this; omega }))
        | (go_at_call 13; ((with_reducible refine (HC.out _).mono ?_); rintro e w2 ⟨rfl, hb2⟩; obtain ⟨hc2, hf2⟩ := bcell hb2)))
      go_ret
      exact ⟨rfl, ((vbox2 w _ _).trans (hb1.mono (by simp; omega))).trans (hb2.mono (by omega))⟩
end Go.Proofs.Ytlnpolepgdoloaa
