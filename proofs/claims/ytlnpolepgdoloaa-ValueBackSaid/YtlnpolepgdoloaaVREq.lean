/- Layer 4: Equal, Less by the document. -/
import Derived.Test.YtlnpolepgdoloaaVROrd
import Derived.Test.YtlnpolepgdoloaaVEq
import Derived.Test.YtlnpolepgdoloaaVRGood
namespace Go.Proofs.Ytlnpolepgdoloaa
open Go.RowKit
set_option linter.unusedVariables false
set_option linter.unusedSimpArgs false
set_option maxRecDepth 20000

def reqB (a c : Vl) : Bool := a.i == c.i && a.b == c.b && (a.s.toList == c.s.toList) && (flO a.n c.n == some .eq)
def rltB (a c : Vl) : Bool := decide (a.i < c.i) || Op.bytesLess a.s.toList c.s.toList || (flO a.n c.n == some .lt)

theorem good_parts {v : Vl} (h : goodV v = true) : (v.k = 1 ∨ v.k = 2 ∨ v.k = 3 ∨ v.k = 4) ∧ v.s.size ≤ 32 ∧ (v.k ≠ 1 → v.i = 0) ∧ (v.k ≠ 2 → v.b = false) ∧ (v.k ≠ 3 → v.s.toList = []) ∧ (v.k ≠ 4 → v.n = 0) := by
  unfold goodV at h
  simp only [Bool.and_eq_true, decide_eq_true_eq, Bool.or_eq_true, beq_iff_eq, Bool.not_eq_true', List.isEmpty_iff] at h
  obtain ⟨⟨⟨⟨⟨⟨h1, h2⟩, h3⟩, h4⟩, h5⟩, h6⟩, h7⟩ := h
  refine ⟨by omega, h3, fun n => h4.resolve_left n, fun n => h5.resolve_left n, fun n => h6.resolve_left n, fun n => h7.resolve_left n⟩
theorem order_00 : flO 0 0 = some .eq := by show FloatKind.f64.format.order 0 0 = _; decide
theorem bytesLess_nil (l : List UInt8) : Op.bytesLess l [] = false := by cases l <;> rfl
theorem reqB_eq (a c : Vl) (h : alikeV a c = true) : reqB a c = eqB a c := by
  unfold alikeV at h
  simp only [Bool.and_eq_true, beq_iff_eq] at h
  obtain ⟨⟨h1, h2⟩, hk⟩ := h
  obtain ⟨a1, -, a2, a3, a4, a5⟩ := good_parts h1
  obtain ⟨c1, -, c2, c3, c4, c5⟩ := good_parts h2
  unfold reqB eqB sameV
  by_cases h4 : a.k = 4
  · rw [if_pos h4, a2 (by omega), c2 (by omega), a3 (by omega), c3 (by omega), a4 (by omega), c4 (by omega)]; simp
  · rw [if_neg h4, a5 h4, c5 (by omega), order_00, hk]; simp
theorem rltB_eq (a c : Vl) (h : alikeV a c = true) (h2 : a.k ≠ 2) : rltB a c = ltB a c := by
  unfold alikeV at h
  simp only [Bool.and_eq_true, beq_iff_eq] at h
  obtain ⟨⟨h1, h2'⟩, hk⟩ := h
  obtain ⟨a1, -, a2, a3, a4, a5⟩ := good_parts h1
  obtain ⟨c1, -, c2, c3, c4, c5⟩ := good_parts h2'
  unfold rltB ltB
  rcases a1 with e | e | e | e
  · rw [if_neg (by omega), a4 (by omega), c4 (by omega), a5 (by omega), c5 (by omega), order_00, bytesLess_nil]
    unfold ordV ordK cmpI
    rw [if_pos hk, if_pos e]
    by_cases hlt : a.i < c.i
    · rw [if_pos hlt]; simp [hlt]
    · rw [if_neg hlt]; by_cases hgt : c.i < a.i
      · rw [if_pos hgt]; simp; omega
      · rw [if_neg hgt]; simp; omega
  · exact absurd e h2
  · rw [if_neg (by omega), a2 (by omega), c2 (by omega), a5 (by omega), c5 (by omega), order_00]
    unfold ordV ordK cmpS
    rw [if_pos hk, if_neg (by omega), if_neg (by omega), if_pos e]
    rcases Op.bytesLess a.s.toList c.s.toList with _ | _
    · simp only [Bool.false_eq_true, if_false]
      split <;> simp
    · simp
  · rw [if_pos e, a2 (by omega), c2 (by omega), a4 (by omega), c4 (by omega), bytesLess_nil]; simp

set_option maxHeartbeats 2000000 in
theorem rEqual_val (a c : Vl) (w : World) : Calls Try.prog 23 #[agV a, agV c] w (VMk (pairBE (eqV a c).1 (eqV a c).2) w) := by
  have ha : ∀ W, Calls Try.prog 14 #[agV a] W (VMk (.bool (goodV a)) W) := fun W => rGood_val a W
  have hc : ∀ W, Calls Try.prog 14 #[agV c] W (VMk (.bool (goodV c)) W) := fun W => rGood_val c W
  rcases hga : goodV a with _ | _
  · have hr : eqV a c = (false, 40) := by unfold eqV alikeV; rw [hga]; rfl
    rw [hr]; clear hr
    rw [hga] at ha
    have HA := Lib.hid ha
    have HC := Lib.hid hc
    clear ha hc hga
    go_enter Try.func23, Try.ntmps23
    go_wp2_with (first
      | (go_at_call 14; ((with_reducible refine (HA.out _).mono ?_); rintro e w1 ⟨rfl, hb1⟩; obtain ⟨hc1, hf1⟩ := bcell hb1; have hz1 : w.heap.size + 1 < w1.heap.size := by { have := hb1.size; simp at this; omega }; have hz0 : w.heap.size < w1.heap.size := by { have := hb1.size; simp at this; omega }))
      | (go_at_call 14; ((with_reducible refine (HC.out _).mono ?_); rintro e w2 ⟨rfl, hb2⟩; obtain ⟨hc2, hf2⟩ := bcell hb2)))
    go_ret2
    exact ⟨rfl, (vbox2 w _ _).trans (hb1.mono (by simp; omega))⟩
  rcases hgc : goodV c with _ | _
  · have hr : eqV a c = (false, 40) := by unfold eqV alikeV; rw [hgc, Bool.and_false]; rfl
    rw [hr]; clear hr
    rw [hga] at ha
    rw [hgc] at hc
    have HA := Lib.hid ha
    have HC := Lib.hid hc
    clear ha hc hga hgc
    go_enter Try.func23, Try.ntmps23
    go_wp2_with (first
      | (go_at_call 14; ((with_reducible refine (HA.out _).mono ?_); rintro e w1 ⟨rfl, hb1⟩; obtain ⟨hc1, hf1⟩ := bcell hb1; have hz1 : w.heap.size + 1 < w1.heap.size := by { have := hb1.size; simp at this; omega }; have hz0 : w.heap.size < w1.heap.size := by { have := hb1.size; simp at this; omega }))
      | (go_at_call 14; ((with_reducible refine (HC.out _).mono ?_); rintro e w2 ⟨rfl, hb2⟩; obtain ⟨hc2, hf2⟩ := bcell hb2)))
    go_ret2
    exact ⟨rfl, ((vbox2 w _ _).trans (hb1.mono (by simp; omega))).trans (hb2.mono (by omega))⟩
  rcases hk : (a.k == c.k) with _ | _
  · have hr : eqV a c = (false, 40) := by unfold eqV alikeV; rw [hk, Bool.and_false]; rfl
    rw [hr]; clear hr
    rw [hga] at ha
    rw [hgc] at hc
    have hk2 : (a.k != c.k) = true := by rw [bne, hk]; rfl
    have HA := Lib.hid ha
    have HC := Lib.hid hc
    clear ha hc hga hgc
    go_enter Try.func23, Try.ntmps23
    go_wp2_with (first
      | (go_at_call 14; ((with_reducible refine (HA.out _).mono ?_); rintro e w1 ⟨rfl, hb1⟩; obtain ⟨hc1, hf1⟩ := bcell hb1; have hz1 : w.heap.size + 1 < w1.heap.size := by { have := hb1.size; simp at this; omega }; have hz0 : w.heap.size < w1.heap.size := by { have := hb1.size; simp at this; omega }))
      | (go_at_call 14; ((with_reducible refine (HC.out _).mono ?_); rintro e w2 ⟨rfl, hb2⟩; obtain ⟨hc2, hf2⟩ := bcell hb2)))
    go_ret2
    exact ⟨rfl, ((vbox2 w _ _).trans (hb1.mono (by simp; omega))).trans (hb2.mono (by omega))⟩
  have hal : alikeV a c = true := by unfold alikeV; rw [hga, hgc, hk]; rfl
  have hr : eqV a c = (reqB a c, 0) := by unfold eqV; rw [hal, if_pos rfl, reqB_eq a c hal]
  rw [hr]; clear hr hal
  rw [hga] at ha
  rw [hgc] at hc
  have hk2 : (a.k != c.k) = false := by rw [bne, hk]; rfl
  have HA := Lib.hid ha
  have HC := Lib.hid hc
  clear ha hc hga hgc
  rcases e1 : (a.i == c.i) with _ | _
  · have hq : reqB a c = false := by simp only [reqB, e1]; rfl
    rw [hq]; clear hq
    go_enter Try.func23, Try.ntmps23
    go_wp2_with (first
      | (go_at_call 14; ((with_reducible refine (HA.out _).mono ?_); rintro e w1 ⟨rfl, hb1⟩; obtain ⟨hc1, hf1⟩ := bcell hb1; have hz1 : w.heap.size + 1 < w1.heap.size := by { have := hb1.size; simp at this; omega }; have hz0 : w.heap.size < w1.heap.size := by { have := hb1.size; simp at this; omega }))
      | (go_at_call 14; ((with_reducible refine (HC.out _).mono ?_); rintro e w2 ⟨rfl, hb2⟩; obtain ⟨hc2, hf2⟩ := bcell hb2)))
    go_ret2
    exact ⟨rfl, ((vbox2 w _ _).trans (hb1.mono (by simp; omega))).trans (hb2.mono (by omega))⟩
  rcases e2 : (a.b == c.b) with _ | _
  · have hq : reqB a c = false := by simp only [reqB, e1, e2]; rfl
    rw [hq]; clear hq
    go_enter Try.func23, Try.ntmps23
    go_wp2_with (first
      | (go_at_call 14; ((with_reducible refine (HA.out _).mono ?_); rintro e w1 ⟨rfl, hb1⟩; obtain ⟨hc1, hf1⟩ := bcell hb1; have hz1 : w.heap.size + 1 < w1.heap.size := by { have := hb1.size; simp at this; omega }; have hz0 : w.heap.size < w1.heap.size := by { have := hb1.size; simp at this; omega }))
      | (go_at_call 14; ((with_reducible refine (HC.out _).mono ?_); rintro e w2 ⟨rfl, hb2⟩; obtain ⟨hc2, hf2⟩ := bcell hb2)))
    go_ret2
    exact ⟨rfl, ((vbox2 w _ _).trans (hb1.mono (by simp; omega))).trans (hb2.mono (by omega))⟩
  rcases e3 : (a.s.toList == c.s.toList) with _ | _
  · have hq : reqB a c = false := by simp only [reqB, e1, e2, e3]; rfl
    rw [hq]; clear hq
    go_enter Try.func23, Try.ntmps23
    go_wp2_with (first
      | (go_at_call 14; ((with_reducible refine (HA.out _).mono ?_); rintro e w1 ⟨rfl, hb1⟩; obtain ⟨hc1, hf1⟩ := bcell hb1; have hz1 : w.heap.size + 1 < w1.heap.size := by { have := hb1.size; simp at this; omega }; have hz0 : w.heap.size < w1.heap.size := by { have := hb1.size; simp at this; omega }))
      | (go_at_call 14; ((with_reducible refine (HC.out _).mono ?_); rintro e w2 ⟨rfl, hb2⟩; obtain ⟨hc2, hf2⟩ := bcell hb2)))
    go_ret2
    exact ⟨rfl, ((vbox2 w _ _).trans (hb1.mono (by simp; omega))).trans (hb2.mono (by omega))⟩
  have hq : reqB a c = (flO a.n c.n == some .eq) := by simp only [reqB, e1, e2, e3]; rfl
  rw [hq]; clear hq
  go_enter Try.func23, Try.ntmps23
  go_wp2_with (first
    | (go_at_call 14; ((with_reducible refine (HA.out _).mono ?_); rintro e w1 ⟨rfl, hb1⟩; obtain ⟨hc1, hf1⟩ := bcell hb1; have hz1 : w.heap.size + 1 < w1.heap.size := by { have := hb1.size; simp at this; omega }; have hz0 : w.heap.size < w1.heap.size := by { have := hb1.size; simp at this; omega }))
    | (go_at_call 14; ((with_reducible refine (HC.out _).mono ?_); rintro e w2 ⟨rfl, hb2⟩; obtain ⟨hc2, hf2⟩ := bcell hb2)))
  go_ret2
  exact ⟨rfl, ((vbox2 w _ _).trans (hb1.mono (by simp; omega))).trans (hb2.mono (by omega))⟩
set_option maxHeartbeats 2000000 in
theorem rLess_val (a c : Vl) (w : World) : Calls Try.prog 25 #[agV a, agV c] w (VMk (pairBE (ltV a c).1 (ltV a c).2) w) := by
  have ha : ∀ W, Calls Try.prog 14 #[agV a] W (VMk (.bool (goodV a)) W) := fun W => rGood_val a W
  have hc : ∀ W, Calls Try.prog 14 #[agV c] W (VMk (.bool (goodV c)) W) := fun W => rGood_val c W
  rcases hga : goodV a with _ | _
  · have hr : ltV a c = (false, 40) := by unfold ltV alikeV; rw [hga]; rfl
    rw [hr]; clear hr
    rw [hga] at ha
    have HA := Lib.hid ha
    have HC := Lib.hid hc
    clear ha hc hga
    go_enter Try.func25, Try.ntmps25
    go_wp2_with (first
      | (go_at_call 14; ((with_reducible refine (HA.out _).mono ?_); rintro e w1 ⟨rfl, hb1⟩; obtain ⟨hc1, hf1⟩ := bcell hb1; have hz1 : w.heap.size + 1 < w1.heap.size := by { have := hb1.size; simp at this; omega }; have hz0 : w.heap.size < w1.heap.size := by { have := hb1.size; simp at this; omega }))
      | (go_at_call 14; ((with_reducible refine (HC.out _).mono ?_); rintro e w2 ⟨rfl, hb2⟩; obtain ⟨hc2, hf2⟩ := bcell hb2)))
    go_ret2
    exact ⟨rfl, (vbox2 w _ _).trans (hb1.mono (by simp; omega))⟩
  rcases hgc : goodV c with _ | _
  · have hr : ltV a c = (false, 40) := by unfold ltV alikeV; rw [hgc, Bool.and_false]; rfl
    rw [hr]; clear hr
    rw [hga] at ha
    rw [hgc] at hc
    have HA := Lib.hid ha
    have HC := Lib.hid hc
    clear ha hc hga hgc
    go_enter Try.func25, Try.ntmps25
    go_wp2_with (first
      | (go_at_call 14; ((with_reducible refine (HA.out _).mono ?_); rintro e w1 ⟨rfl, hb1⟩; obtain ⟨hc1, hf1⟩ := bcell hb1; have hz1 : w.heap.size + 1 < w1.heap.size := by { have := hb1.size; simp at this; omega }; have hz0 : w.heap.size < w1.heap.size := by { have := hb1.size; simp at this; omega }))
      | (go_at_call 14; ((with_reducible refine (HC.out _).mono ?_); rintro e w2 ⟨rfl, hb2⟩; obtain ⟨hc2, hf2⟩ := bcell hb2)))
    go_ret2
    exact ⟨rfl, ((vbox2 w _ _).trans (hb1.mono (by simp; omega))).trans (hb2.mono (by omega))⟩
  rcases hk : (a.k == c.k) with _ | _
  · have hr : ltV a c = (false, 40) := by unfold ltV alikeV; rw [hk, Bool.and_false]; rfl
    rw [hr]; clear hr
    rw [hga] at ha
    rw [hgc] at hc
    have hk2 : (a.k != c.k) = true := by rw [bne, hk]; rfl
    have HA := Lib.hid ha
    have HC := Lib.hid hc
    clear ha hc hga hgc
    go_enter Try.func25, Try.ntmps25
    go_wp2_with (first
      | (go_at_call 14; ((with_reducible refine (HA.out _).mono ?_); rintro e w1 ⟨rfl, hb1⟩; obtain ⟨hc1, hf1⟩ := bcell hb1; have hz1 : w.heap.size + 1 < w1.heap.size := by { have := hb1.size; simp at this; omega }; have hz0 : w.heap.size < w1.heap.size := by { have := hb1.size; simp at this; omega }))
      | (go_at_call 14; ((with_reducible refine (HC.out _).mono ?_); rintro e w2 ⟨rfl, hb2⟩; obtain ⟨hc2, hf2⟩ := bcell hb2)))
    go_ret2
    exact ⟨rfl, ((vbox2 w _ _).trans (hb1.mono (by simp; omega))).trans (hb2.mono (by omega))⟩
  have hal : alikeV a c = true := by unfold alikeV; rw [hga, hgc, hk]; rfl
  rcases h2 : (a.k == 2) with _ | _
  case true =>
    have hr : ltV a c = (false, 40) := by unfold ltV; rw [h2, Bool.not_true, Bool.and_false]; rfl
    rw [hr]; clear hr hal
    rw [hga] at ha
    rw [hgc] at hc
    have hk2 : (a.k != c.k) = false := by rw [bne, hk]; rfl
    have HA := Lib.hid ha
    have HC := Lib.hid hc
    clear ha hc hga hgc
    go_enter Try.func25, Try.ntmps25
    go_wp2_with (first
      | (go_at_call 14; ((with_reducible refine (HA.out _).mono ?_); rintro e w1 ⟨rfl, hb1⟩; obtain ⟨hc1, hf1⟩ := bcell hb1; have hz1 : w.heap.size + 1 < w1.heap.size := by { have := hb1.size; simp at this; omega }; have hz0 : w.heap.size < w1.heap.size := by { have := hb1.size; simp at this; omega }))
      | (go_at_call 14; ((with_reducible refine (HC.out _).mono ?_); rintro e w2 ⟨rfl, hb2⟩; obtain ⟨hc2, hf2⟩ := bcell hb2)))
    go_ret2
    exact ⟨rfl, ((vbox2 w _ _).trans (hb1.mono (by simp; omega))).trans (hb2.mono (by omega))⟩
  have hr : ltV a c = (rltB a c, 0) := by unfold ltV; rw [hal, h2, rltB_eq a c hal (by simpa using h2)]; rfl
  rw [hr]; clear hr hal
  rw [hga] at ha
  rw [hgc] at hc
  have hk2 : (a.k != c.k) = false := by rw [bne, hk]; rfl
  have HA := Lib.hid ha
  have HC := Lib.hid hc
  clear ha hc hga hgc
  rcases e1 : decide (a.i < c.i) with _ | _
  case true =>
    have hq : rltB a c = true := by simp only [rltB, e1]; rfl
    rw [hq]; clear hq
    go_enter Try.func25, Try.ntmps25
    go_wp2_with (first
      | (go_at_call 14; ((with_reducible refine (HA.out _).mono ?_); rintro e w1 ⟨rfl, hb1⟩; obtain ⟨hc1, hf1⟩ := bcell hb1; have hz1 : w.heap.size + 1 < w1.heap.size := by { have := hb1.size; simp at this; omega }; have hz0 : w.heap.size < w1.heap.size := by { have := hb1.size; simp at this; omega }))
      | (go_at_call 14; ((with_reducible refine (HC.out _).mono ?_); rintro e w2 ⟨rfl, hb2⟩; obtain ⟨hc2, hf2⟩ := bcell hb2)))
    go_ret2
    exact ⟨rfl, ((vbox2 w _ _).trans (hb1.mono (by simp; omega))).trans (hb2.mono (by omega))⟩
  rcases e2 : Op.bytesLess a.s.toList c.s.toList with _ | _
  case true =>
    have hq : rltB a c = true := by simp only [rltB, e1, e2]; rfl
    rw [hq]; clear hq
    go_enter Try.func25, Try.ntmps25
    go_wp2_with (first
      | (go_at_call 14; ((with_reducible refine (HA.out _).mono ?_); rintro e w1 ⟨rfl, hb1⟩; obtain ⟨hc1, hf1⟩ := bcell hb1; have hz1 : w.heap.size + 1 < w1.heap.size := by { have := hb1.size; simp at this; omega }; have hz0 : w.heap.size < w1.heap.size := by { have := hb1.size; simp at this; omega }))
      | (go_at_call 14; ((with_reducible refine (HC.out _).mono ?_); rintro e w2 ⟨rfl, hb2⟩; obtain ⟨hc2, hf2⟩ := bcell hb2)))
    go_ret2
    exact ⟨rfl, ((vbox2 w _ _).trans (hb1.mono (by simp; omega))).trans (hb2.mono (by omega))⟩
  have hq : rltB a c = (flO a.n c.n == some .lt) := by simp only [rltB, e1, e2]; rfl
  rw [hq]; clear hq
  go_enter Try.func25, Try.ntmps25
  go_wp2_with (first
    | (go_at_call 14; ((with_reducible refine (HA.out _).mono ?_); rintro e w1 ⟨rfl, hb1⟩; obtain ⟨hc1, hf1⟩ := bcell hb1; have hz1 : w.heap.size + 1 < w1.heap.size := by { have := hb1.size; simp at this; omega }; have hz0 : w.heap.size < w1.heap.size := by { have := hb1.size; simp at this; omega }))
    | (go_at_call 14; ((with_reducible refine (HC.out _).mono ?_); rintro e w2 ⟨rfl, hb2⟩; obtain ⟨hc2, hf2⟩ := bcell hb2)))
  go_ret2
  exact ⟨rfl, ((vbox2 w _ _).trans (hb1.mono (by simp; omega))).trans (hb2.mono (by omega))⟩
end Go.Proofs.Ytlnpolepgdoloaa
