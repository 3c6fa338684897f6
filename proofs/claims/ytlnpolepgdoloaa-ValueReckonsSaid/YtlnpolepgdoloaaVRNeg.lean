/- Layer 4: Neg by the document. -/
import Derived.Test.YtlnpolepgdoloaaVNeg
namespace Go.Proofs.Ytlnpolepgdoloaa
open Go.RowKit
set_option linter.unusedVariables false
set_option linter.unusedSimpArgs false
set_option maxRecDepth 20000

set_option maxHeartbeats 2000000 in
theorem rNeg_bad (a : Vl) (w : World) (hga : goodV a = false)  : Calls Try.prog 29 #[agV a] w (VMk (pairVE vZero 40) w) := by
  have ha9 : ∀ W, Calls Try.prog 14 #[agV a] W (VMk (.bool (goodV a)) W) := fun W => rGood_val a W
  rw [hga] at ha9
  have HA := Lib.hid ha9
  clear ha9 hga
  have tok1 : True := trivial
  have hsf := fun (w : World) (a : Addr) (m : Mode) (b : Nat) => run_store Try.prog w a (.float .f64 b) m rfl
  go_enter Try.func29, Try.ntmps29
  go_wp2_with (first
    | (go_at_call 14; have _t := tok1; ((with_reducible refine (HA.out _).mono ?_); rintro e w1 ⟨rfl, hb1⟩; obtain ⟨hc1, hf1⟩ := bcell hb1; have hz0 : w.heap.size < w1.heap.size := by { have := hb1.size; simp at this; omega }; have hz1 : w.heap.size + 1 < w1.heap.size := by { have := hb1.size; simp at this; omega }; clear tok1 _t))
    | (go_at_call 14; ((with_reducible refine (HA.out _).mono ?_); rintro e w2 ⟨rfl, hb2⟩; obtain ⟨hc2, hf2⟩ := bcell hb2; have hy0 : w.heap.size < w2.heap.size := by { have := hb2.size; omega }; have hy1 : w.heap.size + 1 < w2.heap.size := by { have := hb2.size; omega })))
  exact bodyPost_ret (v := pairVE vZero 40) (by simp [results, Try.results29, go_sem, hc1, hz0, hz1, hc2, hy0, hy1]) rfl ⟨rfl, vbox2_set w _ _ hb1 hb2 _ _ _ _ _⟩

set_option maxHeartbeats 2000000 in
theorem rNeg_none (a : Vl) (w : World) (hga : goodV a = true) (hk4 : (a.k == 4) = false) (hk1 : (a.k != 1) = true) : Calls Try.prog 29 #[agV a] w (VMk (pairVE vZero 40) w) := by
  have ha9 : ∀ W, Calls Try.prog 14 #[agV a] W (VMk (.bool (goodV a)) W) := fun W => rGood_val a W
  rw [hga] at ha9
  have HA := Lib.hid ha9
  clear ha9 hga
  have tok1 : True := trivial
  have hsf := fun (w : World) (a : Addr) (m : Mode) (b : Nat) => run_store Try.prog w a (.float .f64 b) m rfl
  go_enter Try.func29, Try.ntmps29
  go_wp2_with (first
    | (go_at_call 14; have _t := tok1; ((with_reducible refine (HA.out _).mono ?_); rintro e w1 ⟨rfl, hb1⟩; obtain ⟨hc1, hf1⟩ := bcell hb1; have hz0 : w.heap.size < w1.heap.size := by { have := hb1.size; simp at this; omega }; have hz1 : w.heap.size + 1 < w1.heap.size := by { have := hb1.size; simp at this; omega }; clear tok1 _t))
    | (go_at_call 14; ((with_reducible refine (HA.out _).mono ?_); rintro e w2 ⟨rfl, hb2⟩; obtain ⟨hc2, hf2⟩ := bcell hb2; have hy0 : w.heap.size < w2.heap.size := by { have := hb2.size; omega }; have hy1 : w.heap.size + 1 < w2.heap.size := by { have := hb2.size; omega })))
  exact bodyPost_ret (v := pairVE vZero 40) (by simp [results, Try.results29, go_sem, hc1, hz0, hz1, hc2, hy0, hy1]) rfl ⟨rfl, vbox2_set w _ _ hb1 hb2 _ _ _ _ _⟩

set_option maxHeartbeats 2000000 in
theorem rNeg_num (a : Vl) (w : World) (hga : goodV a = true) (hk4 : (a.k == 4) = true) : Calls Try.prog 29 #[agV a] w (VMk (pairVE (vNum (numW (negF a.n))) 0) w) := by
  have ha9 : ∀ W, Calls Try.prog 14 #[agV a] W (VMk (.bool (goodV a)) W) := fun W => rGood_val a W
  rw [hga] at ha9
  have hng := fun (n : Nat) => unary_neg_float n
  have q3 : ∀ W, Calls Try.prog 40 #[.float .f64 (Op.negFloat .f64 a.n)] W (VMk (agV (vNum (numW (negF a.n)))) W) := fun W => rNumV_any (negF a.n) W
  generalize numW (negF a.n) = m at q3 ⊢
  have Q3 := Lib.hid q3
  clear q3
  have HA := Lib.hid ha9
  clear ha9 hga
  have tok1 : True := trivial
  have hsf := fun (w : World) (a : Addr) (m : Mode) (b : Nat) => run_store Try.prog w a (.float .f64 b) m rfl
  go_enter Try.func29, Try.ntmps29
  go_wp2_with (first
    | (go_at_call 14; have _t := tok1; ((with_reducible refine (HA.out _).mono ?_); rintro e w1 ⟨rfl, hb1⟩; obtain ⟨hc1, hf1⟩ := bcell hb1; have hz0 : w.heap.size < w1.heap.size := by { have := hb1.size; simp at this; omega }; have hz1 : w.heap.size + 1 < w1.heap.size := by { have := hb1.size; simp at this; omega }; clear tok1 _t))
    | (go_at_call 40; refine (Q3.out _).mono ?_; rintro e w2 ⟨rfl, hb2⟩; obtain ⟨hc2, hf2⟩ := bcell hb2))
  exact bodyPost_ret (v := pairVE (vNum m) 0) (by simp [results, Try.results29, go_sem, hc1, hz0, hz1, hc2]) rfl ⟨rfl, vbox2_set w _ _ hb1 hb2 _ _ _ _ _⟩

set_option maxHeartbeats 2000000 in
theorem rNeg_least (a : Vl) (w : World) (hga : goodV a = true) (hk4 : (a.k == 4) = false) (hk1 : (a.k != 1) = false) (hl : (a.i == -9223372036854775808) = true) : Calls Try.prog 29 #[agV a] w (VMk (pairVE vZero 41) w) := by
  have ha9 : ∀ W, Calls Try.prog 14 #[agV a] W (VMk (.bool (goodV a)) W) := fun W => rGood_val a W
  rw [hga] at ha9
  have HA := Lib.hid ha9
  clear ha9 hga
  have tok1 : True := trivial
  have hsf := fun (w : World) (a : Addr) (m : Mode) (b : Nat) => run_store Try.prog w a (.float .f64 b) m rfl
  go_enter Try.func29, Try.ntmps29
  go_wp2_with (first
    | (go_at_call 14; have _t := tok1; ((with_reducible refine (HA.out _).mono ?_); rintro e w1 ⟨rfl, hb1⟩; obtain ⟨hc1, hf1⟩ := bcell hb1; have hz0 : w.heap.size < w1.heap.size := by { have := hb1.size; simp at this; omega }; have hz1 : w.heap.size + 1 < w1.heap.size := by { have := hb1.size; simp at this; omega }; clear tok1 _t))
    | (go_at_call 14; ((with_reducible refine (HA.out _).mono ?_); rintro e w2 ⟨rfl, hb2⟩; obtain ⟨hc2, hf2⟩ := bcell hb2; have hy0 : w.heap.size < w2.heap.size := by { have := hb2.size; omega }; have hy1 : w.heap.size + 1 < w2.heap.size := by { have := hb2.size; omega })))
  exact bodyPost_ret (v := pairVE vZero 41) (by simp [results, Try.results29, go_sem, hc1, hz0, hz1, hc2, hy0, hy1]) rfl ⟨rfl, vbox2_set w _ _ hb1 hb2 _ _ _ _ _⟩

set_option maxHeartbeats 2000000 in
theorem rNeg_int (a : Vl) (w : World) (hga : goodV a = true) (hk4 : (a.k == 4) = false) (hk1 : (a.k != 1) = false) (hl : (a.i == -9223372036854775808) = false) (hw : wrap64 (-a.i) = 0 - a.i) : Calls Try.prog 29 #[agV a] w (VMk (pairVE (vInt (0 - a.i)) 0) w) := by
  have ha9 : ∀ W, Calls Try.prog 14 #[agV a] W (VMk (.bool (goodV a)) W) := fun W => rGood_val a W
  rw [hga] at ha9
  have q3 : ∀ W, Calls Try.prog 41 #[.int .i64 (wrap64 (-a.i))] W (VMk (agV (vInt (0 - a.i))) W) := fun W => by rw [hw]; exact rIntV_any _ W
  clear hw
  generalize (0 - a.i) = m at q3 ⊢
  have Q3 := Lib.hid q3
  clear q3
  have HA := Lib.hid ha9
  clear ha9 hga
  have tok1 : True := trivial
  have hsf := fun (w : World) (a : Addr) (m : Mode) (b : Nat) => run_store Try.prog w a (.float .f64 b) m rfl
  go_enter Try.func29, Try.ntmps29
  go_wp2_with (first
    | (go_at_call 14; have _t := tok1; ((with_reducible refine (HA.out _).mono ?_); rintro e w1 ⟨rfl, hb1⟩; obtain ⟨hc1, hf1⟩ := bcell hb1; have hz0 : w.heap.size < w1.heap.size := by { have := hb1.size; simp at this; omega }; have hz1 : w.heap.size + 1 < w1.heap.size := by { have := hb1.size; simp at this; omega }; clear tok1 _t))
    | (go_at_call 14; ((with_reducible refine (HA.out _).mono ?_); rintro e w2 ⟨rfl, hb2⟩; obtain ⟨hc2, hf2⟩ := bcell hb2; have hy0 : w.heap.size < w2.heap.size := by { have := hb2.size; omega }; have hy1 : w.heap.size + 1 < w2.heap.size := by { have := hb2.size; omega }))
    | (go_at_call 41; refine (Q3.out _).mono ?_; rintro e w3 ⟨rfl, hb3⟩; obtain ⟨hc3, hf3⟩ := bcell hb3))
  exact bodyPost_ret (v := pairVE (vInt m) 0) (by simp [results, Try.results29, go_sem, hc1, hz0, hz1, hc2, hc3, hy0, hy1]) rfl ⟨rfl, vbox2_set w _ _ hb1 (hb2.trans (hb3.mono hb2.size)) _ _ _ _ _⟩

theorem rNeg_any (a : Vl) (w : World) (ha : in64 a.i) : Calls Try.prog 29 #[agV a] w (VMk (pairVE (negV a).1 (negV a).2) w) := by
  unfold negV
  rcases hga : goodV a with _ | _
  · exact rNeg_bad a w hga
  rw [if_pos rfl]
  by_cases h1 : a.k = 1
  · rw [if_pos h1]
    have e4 : (a.k == 4) = false := by simp [h1]
    have e1 : (a.k != 1) = false := by simp [h1]
    unfold in64 at ha
    by_cases hl : a.i = -9223372036854775808
    · have ho : ovr (0 - a.i) = (0, 41) := ovr_out (by unfold in64; omega)
      rw [ho]
      exact rNeg_least a w hga e4 e1 (by simpa using hl)
    · have hi : in64 (0 - a.i) := by unfold in64; omega
      rw [ovr_in hi]
      have hw : wrap64 (-a.i) = 0 - a.i := by rw [show -a.i = 0 - a.i by omega]; exact wrap64_of _ hi
      exact rNeg_int a w hga e4 e1 (by simpa using hl) hw
  rw [if_neg h1]
  by_cases h4 : a.k = 4
  · rw [if_pos h4]; exact rNeg_num a w hga (by simpa using h4)
  rw [if_neg h4]
  exact rNeg_none a w hga (by simpa using h4) (by simpa using h1)
end Go.Proofs.Ytlnpolepgdoloaa
