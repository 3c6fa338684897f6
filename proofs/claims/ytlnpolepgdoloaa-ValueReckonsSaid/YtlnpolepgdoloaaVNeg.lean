/- Layer 4: Neg, Float, by the program and by the document. (Made by gen/genvneg.py.) -/
import Derived.Test.YtlnpolepgdoloaaVOf
import Derived.Test.YtlnpolepgdoloaaVArith
import Derived.Test.YtlnpolepgdoloaaVRGood
namespace Go.Proofs.Ytlnpolepgdoloaa
open Go.RowKit
set_option linter.unusedVariables false
set_option linter.unusedSimpArgs false
set_option maxRecDepth 20000

theorem vbox2_set (w : World) (o p : Obj) {w1 w2 : World} (h1 : Below ((w.alloc o).alloc p).heap.size ((w.alloc o).alloc p) w1) (h2 : Below w1.heap.size w1 w2) (u0 u1 u2 u3 u4 : Value) :
    Below w.heap.size w (((((w2.setCell ⟨w.heap.size + 1, 0, none⟩ u0).setCell ⟨w.heap.size + 1, 1, none⟩ u1).setCell ⟨w.heap.size + 1, 2, none⟩ u2).setCell ⟨w.heap.size + 1, 3, none⟩ u3).setCell ⟨w.heap.size + 1, 4, none⟩ u4) := by
  have hs := h1.size
  simp at hs
  exact below_set5 ((vbox2 w o p).trans ((h1.mono (by simp; omega)).trans (h2.mono (by omega)))) (by omega) _ _ _ _ _
/-- 4.4: Neg, Float -/
def negF (n : Nat) : Nat := Op.negFloat .f64 n
def negV (a : Vl) : Vl × Int := if goodV a then (if a.k = 1 then (ofP (ovr (0 - a.i)), (ovr (0 - a.i)).2) else if a.k = 4 then (vNum (numW (negF a.n)), 0) else (vZero, 40)) else (vZero, 40)
def floatV (a : Vl) : Vl × Int := if goodV a && (a.k == 1) then (vNum (numW (floatOfInt .f64 a.i)), 0) else (vZero, 40)

set_option maxHeartbeats 2000000 in
theorem Neg_bad (a : Vl) (w : World) (hga : goodV a = false)  : Calls Try.prog 28 #[agV a] w (VMk (pairVE vZero 40) w) := by
  have ha9 : ∀ W, Calls Try.prog 13 #[agV a] W (VMk (.bool (goodV a)) W) := fun W => Good_val a W
  rw [hga] at ha9
  have HA := Lib.hid ha9
  clear ha9 hga
  have hsf := fun (w : World) (a : Addr) (m : Mode) (b : Nat) => run_store Try.prog w a (.float .f64 b) m rfl
  go_enter Try.func28, Try.ntmps28
  go_wp2_with (first
    | (go_at_call 13; ((with_reducible refine (HA.out _).mono ?_); rintro e w1 ⟨rfl, hb1⟩; obtain ⟨hc1, hf1⟩ := bcell hb1; have hz0 : w.heap.size < w1.heap.size := by { have := hb1.size; simp at this; omega }; have hz1 : w.heap.size + 1 < w1.heap.size := by { have := hb1.size; simp at this; omega })))
  exact bodyPost_ret (v := pairVE vZero 40) (by simp [results, Try.results28, go_sem, hc1, hz0, hz1]) rfl ⟨rfl, vbox2_set w _ _ hb1 (Below.refl _ _) _ _ _ _ _⟩

set_option maxHeartbeats 2000000 in
theorem Neg_none (a : Vl) (w : World) (hga : goodV a = true) (hk1 : (a.k == 1) = false) (hk4 : (a.k == 4) = false) : Calls Try.prog 28 #[agV a] w (VMk (pairVE vZero 40) w) := by
  have ha9 : ∀ W, Calls Try.prog 13 #[agV a] W (VMk (.bool (goodV a)) W) := fun W => Good_val a W
  rw [hga] at ha9
  have HA := Lib.hid ha9
  clear ha9 hga
  have hsf := fun (w : World) (a : Addr) (m : Mode) (b : Nat) => run_store Try.prog w a (.float .f64 b) m rfl
  go_enter Try.func28, Try.ntmps28
  go_wp2_with (first
    | (go_at_call 13; ((with_reducible refine (HA.out _).mono ?_); rintro e w1 ⟨rfl, hb1⟩; obtain ⟨hc1, hf1⟩ := bcell hb1; have hz0 : w.heap.size < w1.heap.size := by { have := hb1.size; simp at this; omega }; have hz1 : w.heap.size + 1 < w1.heap.size := by { have := hb1.size; simp at this; omega })))
  exact bodyPost_ret (v := pairVE vZero 40) (by simp [results, Try.results28, go_sem, hc1, hz0, hz1]) rfl ⟨rfl, vbox2_set w _ _ hb1 (Below.refl _ _) _ _ _ _ _⟩

set_option maxHeartbeats 2000000 in
theorem Neg_int (a : Vl) (w : World) (hga : goodV a = true) (hk1 : (a.k == 1) = true) (ha : in64 a.i) : Calls Try.prog 28 #[agV a] w (VMk (pairVE (ofP (ovr (0 - a.i))) (ovr (0 - a.i)).2) w) := by
  have ha9 : ∀ W, Calls Try.prog 13 #[agV a] W (VMk (.bool (goodV a)) W) := fun W => Good_val a W
  rw [hga] at ha9
  have q2 : ∀ W, Calls Try.prog 63 #[.int .i64 0, .int .i64 a.i] W (VGv (pairII (ovr (0 - a.i))) W) := fun W => difference_any 0 a.i W (by decide) ha
  clear ha
  generalize ovr (0 - a.i) = p at q2 ⊢
  have q3 := ofInt_any p
  generalize ofP p = u at q3 ⊢
  have Q2 := Lib.hid q2
  have Q3 := Lib.hid q3
  clear q2 q3
  have HA := Lib.hid ha9
  clear ha9 hga
  have hsf := fun (w : World) (a : Addr) (m : Mode) (b : Nat) => run_store Try.prog w a (.float .f64 b) m rfl
  go_enter Try.func28, Try.ntmps28
  go_wp2_with (first
    | (go_at_call 13; ((with_reducible refine (HA.out _).mono ?_); rintro e w1 ⟨rfl, hb1⟩; obtain ⟨hc1, hf1⟩ := bcell hb1; have hz0 : w.heap.size < w1.heap.size := by { have := hb1.size; simp at this; omega }; have hz1 : w.heap.size + 1 < w1.heap.size := by { have := hb1.size; simp at this; omega }))
    | (go_at_call 63; refine (Q2.out _).mono ?_; rintro e w2 ⟨rfl, rfl⟩)
    | (go_at_call 56; refine (Q3.out _).mono ?_; rintro e w2 ⟨rfl, hb2⟩; obtain ⟨hc2, hf2⟩ := bcell hb2))
  exact bodyPost_ret (v := pairVE u p.2) (by simp [results, Try.results28, go_sem, hc1, hz0, hz1, hc2]) rfl ⟨rfl, vbox2_set w _ _ hb1 hb2 _ _ _ _ _⟩

set_option maxHeartbeats 2000000 in
theorem Neg_num (a : Vl) (w : World) (hga : goodV a = true) (hk1 : (a.k == 1) = false) (hk4 : (a.k == 4) = true) : Calls Try.prog 28 #[agV a] w (VMk (pairVE (vNum (numW (negF a.n))) 0) w) := by
  have ha9 : ∀ W, Calls Try.prog 13 #[agV a] W (VMk (.bool (goodV a)) W) := fun W => Good_val a W
  rw [hga] at ha9
  have hng := fun (n : Nat) => unary_neg_float n
  have q3 : ∀ W, Calls Try.prog 58 #[.float .f64 (Op.negFloat .f64 a.n)] W (VMk (agV (vNum (numW (negF a.n)))) W) := fun W => ofNum_any (negF a.n) W
  generalize numW (negF a.n) = m at q3 ⊢
  have Q3 := Lib.hid q3
  clear q3
  have HA := Lib.hid ha9
  clear ha9 hga
  have hsf := fun (w : World) (a : Addr) (m : Mode) (b : Nat) => run_store Try.prog w a (.float .f64 b) m rfl
  go_enter Try.func28, Try.ntmps28
  go_wp2_with (first
    | (go_at_call 13; ((with_reducible refine (HA.out _).mono ?_); rintro e w1 ⟨rfl, hb1⟩; obtain ⟨hc1, hf1⟩ := bcell hb1; have hz0 : w.heap.size < w1.heap.size := by { have := hb1.size; simp at this; omega }; have hz1 : w.heap.size + 1 < w1.heap.size := by { have := hb1.size; simp at this; omega }))
    | (go_at_call 58; refine (Q3.out _).mono ?_; rintro e w2 ⟨rfl, hb2⟩; obtain ⟨hc2, hf2⟩ := bcell hb2))
  exact bodyPost_ret (v := pairVE (vNum m) 0) (by simp [results, Try.results28, go_sem, hc1, hz0, hz1, hc2]) rfl ⟨rfl, vbox2_set w _ _ hb1 hb2 _ _ _ _ _⟩

theorem Neg_any (a : Vl) (w : World) (ha : in64 a.i) : Calls Try.prog 28 #[agV a] w (VMk (pairVE (negV a).1 (negV a).2) w) := by
  unfold negV
  rcases hga : goodV a with _ | _
  · exact Neg_bad a w hga
  rw [if_pos rfl]
  by_cases h1 : a.k = 1
  · rw [if_pos h1]; exact Neg_int a w hga (by simpa using h1) ha
  rw [if_neg h1]
  by_cases h4 : a.k = 4
  · rw [if_pos h4]; exact Neg_num a w hga (by simpa using h1) (by simpa using h4)
  rw [if_neg h4]
  exact Neg_none a w hga (by simpa using h1) (by simpa using h4)

set_option maxHeartbeats 2000000 in
theorem Float_bad (a : Vl) (w : World) (hga : goodV a = false)  : Calls Try.prog 30 #[agV a] w (VMk (pairVE vZero 40) w) := by
  have ha9 : ∀ W, Calls Try.prog 13 #[agV a] W (VMk (.bool (goodV a)) W) := fun W => Good_val a W
  rw [hga] at ha9
  have HA := Lib.hid ha9
  clear ha9 hga
  have hsf := fun (w : World) (a : Addr) (m : Mode) (b : Nat) => run_store Try.prog w a (.float .f64 b) m rfl
  go_enter Try.func30, Try.ntmps30
  go_wp2_with (first
    | (go_at_call 13; ((with_reducible refine (HA.out _).mono ?_); rintro e w1 ⟨rfl, hb1⟩; obtain ⟨hc1, hf1⟩ := bcell hb1; have hz0 : w.heap.size < w1.heap.size := by { have := hb1.size; simp at this; omega }; have hz1 : w.heap.size + 1 < w1.heap.size := by { have := hb1.size; simp at this; omega })))
  exact bodyPost_ret (v := pairVE vZero 40) (by simp [results, Try.results30, go_sem, hc1, hz0, hz1]) rfl ⟨rfl, vbox2_set w _ _ hb1 (Below.refl _ _) _ _ _ _ _⟩

set_option maxHeartbeats 2000000 in
theorem Float_no (a : Vl) (w : World) (hga : goodV a = true) (hk : (a.k != 1) = true) : Calls Try.prog 30 #[agV a] w (VMk (pairVE vZero 40) w) := by
  have ha9 : ∀ W, Calls Try.prog 13 #[agV a] W (VMk (.bool (goodV a)) W) := fun W => Good_val a W
  rw [hga] at ha9
  have HA := Lib.hid ha9
  clear ha9 hga
  have hsf := fun (w : World) (a : Addr) (m : Mode) (b : Nat) => run_store Try.prog w a (.float .f64 b) m rfl
  go_enter Try.func30, Try.ntmps30
  go_wp2_with (first
    | (go_at_call 13; ((with_reducible refine (HA.out _).mono ?_); rintro e w1 ⟨rfl, hb1⟩; obtain ⟨hc1, hf1⟩ := bcell hb1; have hz0 : w.heap.size < w1.heap.size := by { have := hb1.size; simp at this; omega }; have hz1 : w.heap.size + 1 < w1.heap.size := by { have := hb1.size; simp at this; omega })))
  exact bodyPost_ret (v := pairVE vZero 40) (by simp [results, Try.results30, go_sem, hc1, hz0, hz1]) rfl ⟨rfl, vbox2_set w _ _ hb1 (Below.refl _ _) _ _ _ _ _⟩

set_option maxHeartbeats 2000000 in
theorem Float_int (a : Vl) (w : World) (hga : goodV a = true) (hk : (a.k != 1) = false) : Calls Try.prog 30 #[agV a] w (VMk (pairVE (vNum (numW (floatOfInt .f64 a.i))) 0) w) := by
  have ha9 : ∀ W, Calls Try.prog 13 #[agV a] W (VMk (.bool (goodV a)) W) := fun W => Good_val a W
  rw [hga] at ha9
  have q3 : ∀ W, Calls Try.prog 58 #[.float .f64 (floatOfInt .f64 a.i)] W (VMk (agV (vNum (numW (floatOfInt .f64 a.i)))) W) := fun W => ofNum_any (floatOfInt .f64 a.i) W
  generalize numW (floatOfInt .f64 a.i) = m at q3 ⊢
  have Q3 := Lib.hid q3
  clear q3
  have HA := Lib.hid ha9
  clear ha9 hga
  have hsf := fun (w : World) (a : Addr) (m : Mode) (b : Nat) => run_store Try.prog w a (.float .f64 b) m rfl
  go_enter Try.func30, Try.ntmps30
  go_wp2_with (first
    | (go_at_call 13; ((with_reducible refine (HA.out _).mono ?_); rintro e w1 ⟨rfl, hb1⟩; obtain ⟨hc1, hf1⟩ := bcell hb1; have hz0 : w.heap.size < w1.heap.size := by { have := hb1.size; simp at this; omega }; have hz1 : w.heap.size + 1 < w1.heap.size := by { have := hb1.size; simp at this; omega }))
    | (go_at_call 58; refine (Q3.out _).mono ?_; rintro e w2 ⟨rfl, hb2⟩; obtain ⟨hc2, hf2⟩ := bcell hb2))
  exact bodyPost_ret (v := pairVE (vNum m) 0) (by simp [results, Try.results30, go_sem, hc1, hz0, hz1, hc2]) rfl ⟨rfl, vbox2_set w _ _ hb1 hb2 _ _ _ _ _⟩

theorem Float_any (a : Vl) (w : World) : Calls Try.prog 30 #[agV a] w (VMk (pairVE (floatV a).1 (floatV a).2) w) := by
  unfold floatV
  rcases hga : goodV a with _ | _
  · exact Float_bad a w hga
  rcases hk : (a.k == 1) with _ | _
  · exact Float_no a w hga (by rw [bne, hk]; rfl)
  · exact Float_int a w hga (by rw [bne, hk]; rfl)

set_option maxHeartbeats 2000000 in
theorem rFloat_bad (a : Vl) (w : World) (hga : goodV a = false)  : Calls Try.prog 31 #[agV a] w (VMk (pairVE vZero 40) w) := by
  have ha9 : ∀ W, Calls Try.prog 14 #[agV a] W (VMk (.bool (goodV a)) W) := fun W => rGood_val a W
  rw [hga] at ha9
  have HA := Lib.hid ha9
  clear ha9 hga
  have hsf := fun (w : World) (a : Addr) (m : Mode) (b : Nat) => run_store Try.prog w a (.float .f64 b) m rfl
  go_enter Try.func31, Try.ntmps31
  go_wp2_with (first
    | (go_at_call 14; ((with_reducible refine (HA.out _).mono ?_); rintro e w1 ⟨rfl, hb1⟩; obtain ⟨hc1, hf1⟩ := bcell hb1; have hz0 : w.heap.size < w1.heap.size := by { have := hb1.size; simp at this; omega }; have hz1 : w.heap.size + 1 < w1.heap.size := by { have := hb1.size; simp at this; omega })))
  exact bodyPost_ret (v := pairVE vZero 40) (by simp [results, Try.results31, go_sem, hc1, hz0, hz1]) rfl ⟨rfl, vbox2_set w _ _ hb1 (Below.refl _ _) _ _ _ _ _⟩

set_option maxHeartbeats 2000000 in
theorem rFloat_no (a : Vl) (w : World) (hga : goodV a = true) (hk : (a.k != 1) = true) : Calls Try.prog 31 #[agV a] w (VMk (pairVE vZero 40) w) := by
  have ha9 : ∀ W, Calls Try.prog 14 #[agV a] W (VMk (.bool (goodV a)) W) := fun W => rGood_val a W
  rw [hga] at ha9
  have HA := Lib.hid ha9
  clear ha9 hga
  have hsf := fun (w : World) (a : Addr) (m : Mode) (b : Nat) => run_store Try.prog w a (.float .f64 b) m rfl
  go_enter Try.func31, Try.ntmps31
  go_wp2_with (first
    | (go_at_call 14; ((with_reducible refine (HA.out _).mono ?_); rintro e w1 ⟨rfl, hb1⟩; obtain ⟨hc1, hf1⟩ := bcell hb1; have hz0 : w.heap.size < w1.heap.size := by { have := hb1.size; simp at this; omega }; have hz1 : w.heap.size + 1 < w1.heap.size := by { have := hb1.size; simp at this; omega })))
  exact bodyPost_ret (v := pairVE vZero 40) (by simp [results, Try.results31, go_sem, hc1, hz0, hz1]) rfl ⟨rfl, vbox2_set w _ _ hb1 (Below.refl _ _) _ _ _ _ _⟩

set_option maxHeartbeats 2000000 in
theorem rFloat_int (a : Vl) (w : World) (hga : goodV a = true) (hk : (a.k != 1) = false) : Calls Try.prog 31 #[agV a] w (VMk (pairVE (vNum (numW (floatOfInt .f64 a.i))) 0) w) := by
  have ha9 : ∀ W, Calls Try.prog 14 #[agV a] W (VMk (.bool (goodV a)) W) := fun W => rGood_val a W
  rw [hga] at ha9
  have q3 : ∀ W, Calls Try.prog 40 #[.float .f64 (floatOfInt .f64 a.i)] W (VMk (agV (vNum (numW (floatOfInt .f64 a.i)))) W) := fun W => rNumV_any (floatOfInt .f64 a.i) W
  generalize numW (floatOfInt .f64 a.i) = m at q3 ⊢
  have Q3 := Lib.hid q3
  clear q3
  have HA := Lib.hid ha9
  clear ha9 hga
  have hsf := fun (w : World) (a : Addr) (m : Mode) (b : Nat) => run_store Try.prog w a (.float .f64 b) m rfl
  go_enter Try.func31, Try.ntmps31
  go_wp2_with (first
    | (go_at_call 14; ((with_reducible refine (HA.out _).mono ?_); rintro e w1 ⟨rfl, hb1⟩; obtain ⟨hc1, hf1⟩ := bcell hb1; have hz0 : w.heap.size < w1.heap.size := by { have := hb1.size; simp at this; omega }; have hz1 : w.heap.size + 1 < w1.heap.size := by { have := hb1.size; simp at this; omega }))
    | (go_at_call 40; refine (Q3.out _).mono ?_; rintro e w2 ⟨rfl, hb2⟩; obtain ⟨hc2, hf2⟩ := bcell hb2))
  exact bodyPost_ret (v := pairVE (vNum m) 0) (by simp [results, Try.results31, go_sem, hc1, hz0, hz1, hc2]) rfl ⟨rfl, vbox2_set w _ _ hb1 hb2 _ _ _ _ _⟩

theorem rFloat_any (a : Vl) (w : World) : Calls Try.prog 31 #[agV a] w (VMk (pairVE (floatV a).1 (floatV a).2) w) := by
  unfold floatV
  rcases hga : goodV a with _ | _
  · exact rFloat_bad a w hga
  rcases hk : (a.k == 1) with _ | _
  · exact rFloat_no a w hga (by rw [bne, hk]; rfl)
  · exact rFloat_int a w hga (by rw [bne, hk]; rfl)

end Go.Proofs.Ytlnpolepgdoloaa
