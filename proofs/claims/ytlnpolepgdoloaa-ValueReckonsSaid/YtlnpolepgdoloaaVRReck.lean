/- Layer 4: Reckon by the document. (Made by gen/genvrreck.py.) -/
import Derived.Test.YtlnpolepgdoloaaVReck
import Derived.Test.YtlnpolepgdoloaaVRInts
import Derived.Test.YtlnpolepgdoloaaVRNums
import Derived.Test.YtlnpolepgdoloaaVRGood
namespace Go.Proofs.Ytlnpolepgdoloaa
open Go.RowKit
set_option linter.unusedVariables false
set_option linter.unusedSimpArgs false
set_option maxRecDepth 20000

set_option maxHeartbeats 2000000 in
theorem rReckon_op (op : Int) (a c : Vl) (w : World) (h : opsB op = false)  : Calls Try.prog 27 #[.int .i64 op, agV a, agV c] w (VMk (pairVE vZero 1) w) := by
  have q0 := rReckons_any op
  rw [h] at q0
  have ha9 : ∀ W, Calls Try.prog 14 #[agV a] W (VMk (.bool (goodV a)) W) := fun W => rGood_val a W
  have hc9 : ∀ W, Calls Try.prog 14 #[agV c] W (VMk (.bool (goodV c)) W) := fun W => rGood_val c W
  have Q0 := Lib.hid q0
  have HA := Lib.hid ha9
  have HC := Lib.hid hc9
  clear q0 ha9 hc9 h
  have hsf := fun (w : World) (a : Addr) (m : Mode) (b : Nat) => run_store Try.prog w a (.float .f64 b) m rfl
  go_enter Try.func27, Try.ntmps27
  go_wp2_with (first
    | (go_at_call 60; refine (Q0.out _).mono ?_; rintro e w0 ⟨rfl, rfl⟩))
  exact bodyPost_ret (v := pairVE vZero 1) (by simp [results, Try.results27, go_sem]) rfl ⟨rfl, vbox3 w _ _ _⟩

set_option maxHeartbeats 2000000 in
theorem rReckon_a (op : Int) (a c : Vl) (w : World) (h : opsB op = true) (hga : goodV a = false)  : Calls Try.prog 27 #[.int .i64 op, agV a, agV c] w (VMk (pairVE vZero 40) w) := by
  have q0 := rReckons_any op
  rw [h] at q0
  have ha9 : ∀ W, Calls Try.prog 14 #[agV a] W (VMk (.bool (goodV a)) W) := fun W => rGood_val a W
  have hc9 : ∀ W, Calls Try.prog 14 #[agV c] W (VMk (.bool (goodV c)) W) := fun W => rGood_val c W
  rw [hga] at ha9
  have Q0 := Lib.hid q0
  have HA := Lib.hid ha9
  have HC := Lib.hid hc9
  clear q0 ha9 hc9 h hga
  have hsf := fun (w : World) (a : Addr) (m : Mode) (b : Nat) => run_store Try.prog w a (.float .f64 b) m rfl
  go_enter Try.func27, Try.ntmps27
  go_wp2_with (first
    | (go_at_call 60; refine (Q0.out _).mono ?_; rintro e w0 ⟨rfl, rfl⟩)
    | (go_at_call 14; ((with_reducible refine (HA.out _).mono ?_); rintro e w1 ⟨rfl, hb1⟩; obtain ⟨hc1, hf1⟩ := bcell hb1; have hz1 : w.heap.size + 1 < w1.heap.size := by { have := hb1.size; simp at this; omega }; have hz2 : w.heap.size + 2 < w1.heap.size := by { have := hb1.size; simp at this; omega }; have hz0 : w.heap.size < w1.heap.size := by { have := hb1.size; simp at this; omega })))
  exact bodyPost_ret (v := pairVE vZero 40) (by simp [results, Try.results27, go_sem, hc1, hz0, hz1, hz2]) rfl ⟨rfl, vbox3_set w _ _ _ hb1 (Below.refl _ _) _ _ _ _ _⟩

set_option maxHeartbeats 2000000 in
theorem rReckon_c (op : Int) (a c : Vl) (w : World) (h : opsB op = true) (hga : goodV a = true) (hgc : goodV c = false)  : Calls Try.prog 27 #[.int .i64 op, agV a, agV c] w (VMk (pairVE vZero 40) w) := by
  have q0 := rReckons_any op
  rw [h] at q0
  have ha9 : ∀ W, Calls Try.prog 14 #[agV a] W (VMk (.bool (goodV a)) W) := fun W => rGood_val a W
  have hc9 : ∀ W, Calls Try.prog 14 #[agV c] W (VMk (.bool (goodV c)) W) := fun W => rGood_val c W
  rw [hga] at ha9
  rw [hgc] at hc9
  have Q0 := Lib.hid q0
  have HA := Lib.hid ha9
  have HC := Lib.hid hc9
  clear q0 ha9 hc9 h hga hgc
  have hsf := fun (w : World) (a : Addr) (m : Mode) (b : Nat) => run_store Try.prog w a (.float .f64 b) m rfl
  go_enter Try.func27, Try.ntmps27
  go_wp2_with (first
    | (go_at_call 60; refine (Q0.out _).mono ?_; rintro e w0 ⟨rfl, rfl⟩)
    | (go_at_call 14; ((with_reducible refine (HA.out _).mono ?_); rintro e w1 ⟨rfl, hb1⟩; obtain ⟨hc1, hf1⟩ := bcell hb1; have hz1 : w.heap.size + 1 < w1.heap.size := by { have := hb1.size; simp at this; omega }; have hz2 : w.heap.size + 2 < w1.heap.size := by { have := hb1.size; simp at this; omega }; have hz0 : w.heap.size < w1.heap.size := by { have := hb1.size; simp at this; omega }))
    | (go_at_call 14; ((with_reducible refine (HC.out _).mono ?_); rintro e w2 ⟨rfl, hb2⟩; obtain ⟨hc2, hf2⟩ := bcell hb2; have hy1 : w.heap.size + 1 < w2.heap.size := by { have := hb2.size; omega }; have hy2 : w.heap.size + 2 < w2.heap.size := by { have := hb2.size; omega }; have hy0 : w.heap.size < w2.heap.size := by { have := hb2.size; omega })))
  exact bodyPost_ret (v := pairVE vZero 40) (by simp [results, Try.results27, go_sem, hc1, hz0, hz1, hz2, hc2]) rfl ⟨rfl, vbox3_set w _ _ _ hb1 hb2 _ _ _ _ _⟩

set_option maxHeartbeats 2000000 in
theorem rReckon_apart (op : Int) (a c : Vl) (w : World) (h : opsB op = true) (hga : goodV a = true) (hgc : goodV c = true) (hk : (a.k != c.k) = true) : Calls Try.prog 27 #[.int .i64 op, agV a, agV c] w (VMk (pairVE vZero 40) w) := by
  have q0 := rReckons_any op
  rw [h] at q0
  have ha9 : ∀ W, Calls Try.prog 14 #[agV a] W (VMk (.bool (goodV a)) W) := fun W => rGood_val a W
  have hc9 : ∀ W, Calls Try.prog 14 #[agV c] W (VMk (.bool (goodV c)) W) := fun W => rGood_val c W
  rw [hga] at ha9
  rw [hgc] at hc9
  have Q0 := Lib.hid q0
  have HA := Lib.hid ha9
  have HC := Lib.hid hc9
  clear q0 ha9 hc9 h hga hgc
  have hsf := fun (w : World) (a : Addr) (m : Mode) (b : Nat) => run_store Try.prog w a (.float .f64 b) m rfl
  go_enter Try.func27, Try.ntmps27
  go_wp2_with (first
    | (go_at_call 60; refine (Q0.out _).mono ?_; rintro e w0 ⟨rfl, rfl⟩)
    | (go_at_call 14; ((with_reducible refine (HA.out _).mono ?_); rintro e w1 ⟨rfl, hb1⟩; obtain ⟨hc1, hf1⟩ := bcell hb1; have hz1 : w.heap.size + 1 < w1.heap.size := by { have := hb1.size; simp at this; omega }; have hz2 : w.heap.size + 2 < w1.heap.size := by { have := hb1.size; simp at this; omega }; have hz0 : w.heap.size < w1.heap.size := by { have := hb1.size; simp at this; omega }))
    | (go_at_call 14; ((with_reducible refine (HC.out _).mono ?_); rintro e w2 ⟨rfl, hb2⟩; obtain ⟨hc2, hf2⟩ := bcell hb2; have hy1 : w.heap.size + 1 < w2.heap.size := by { have := hb2.size; omega }; have hy2 : w.heap.size + 2 < w2.heap.size := by { have := hb2.size; omega }; have hy0 : w.heap.size < w2.heap.size := by { have := hb2.size; omega })))
  exact bodyPost_ret (v := pairVE vZero 40) (by simp [results, Try.results27, go_sem, hc1, hz0, hz1, hz2, hc2]) rfl ⟨rfl, vbox3_set w _ _ _ hb1 hb2 _ _ _ _ _⟩

set_option maxHeartbeats 2000000 in
theorem rReckon_none (op : Int) (a c : Vl) (w : World) (h : opsB op = true) (hga : goodV a = true) (hgc : goodV c = true) (hk : (a.k != c.k) = false) (hk1 : (a.k != 1) = true) (hk4 : (a.k != 4) = true) : Calls Try.prog 27 #[.int .i64 op, agV a, agV c] w (VMk (pairVE vZero 40) w) := by
  have q0 := rReckons_any op
  rw [h] at q0
  have ha9 : ∀ W, Calls Try.prog 14 #[agV a] W (VMk (.bool (goodV a)) W) := fun W => rGood_val a W
  have hc9 : ∀ W, Calls Try.prog 14 #[agV c] W (VMk (.bool (goodV c)) W) := fun W => rGood_val c W
  rw [hga] at ha9
  rw [hgc] at hc9
  have Q0 := Lib.hid q0
  have HA := Lib.hid ha9
  have HC := Lib.hid hc9
  clear q0 ha9 hc9 h hga hgc
  have hsf := fun (w : World) (a : Addr) (m : Mode) (b : Nat) => run_store Try.prog w a (.float .f64 b) m rfl
  go_enter Try.func27, Try.ntmps27
  go_wp2_with (first
    | (go_at_call 60; refine (Q0.out _).mono ?_; rintro e w0 ⟨rfl, rfl⟩)
    | (go_at_call 14; ((with_reducible refine (HA.out _).mono ?_); rintro e w1 ⟨rfl, hb1⟩; obtain ⟨hc1, hf1⟩ := bcell hb1; have hz1 : w.heap.size + 1 < w1.heap.size := by { have := hb1.size; simp at this; omega }; have hz2 : w.heap.size + 2 < w1.heap.size := by { have := hb1.size; simp at this; omega }; have hz0 : w.heap.size < w1.heap.size := by { have := hb1.size; simp at this; omega }))
    | (go_at_call 14; ((with_reducible refine (HC.out _).mono ?_); rintro e w2 ⟨rfl, hb2⟩; obtain ⟨hc2, hf2⟩ := bcell hb2; have hy1 : w.heap.size + 1 < w2.heap.size := by { have := hb2.size; omega }; have hy2 : w.heap.size + 2 < w2.heap.size := by { have := hb2.size; omega }; have hy0 : w.heap.size < w2.heap.size := by { have := hb2.size; omega })))
  exact bodyPost_ret (v := pairVE vZero 40) (by simp [results, Try.results27, go_sem, hc1, hz0, hz1, hz2, hc2]) rfl ⟨rfl, vbox3_set w _ _ _ hb1 hb2 _ _ _ _ _⟩

set_option maxHeartbeats 2000000 in
theorem rReckon_nums (op : Int) (a c : Vl) (w : World) (h : opsB op = true) (hga : goodV a = true) (hgc : goodV c = true) (hk : (a.k != c.k) = false) (hk1 : (a.k != 1) = true) (hk4 : (a.k != 4) = false) (hk4e : (a.k == 4) = true) (ha : a.n < 18446744073709551616) (hc : c.n < 18446744073709551616) : Calls Try.prog 27 #[.int .i64 op, agV a, agV c] w (VMk (pairVE (vNum (numsV op a.n c.n)) 0) w) := by
  have q0 := rReckons_any op
  rw [h] at q0
  have ha9 : ∀ W, Calls Try.prog 14 #[agV a] W (VMk (.bool (goodV a)) W) := fun W => rGood_val a W
  have hc9 : ∀ W, Calls Try.prog 14 #[agV c] W (VMk (.bool (goodV c)) W) := fun W => rGood_val c W
  rw [hga] at ha9
  rw [hgc] at hc9
  have q2 : ∀ W, Calls Try.prog 61 #[.int .i64 op, .float .f64 a.n, .float .f64 c.n] W (FlP (numsV op a.n c.n) W) := fun W => nums_any op a.n c.n W ha hc
  clear ha hc
  generalize numsV op a.n c.n = m at q2 ⊢
  have q3 : ∀ b, numW b = m → ∀ W, Calls Try.prog 40 #[.float .f64 b] W (VMk (agV (vNum m)) W) := fun b hb W => by rw [← hb]; exact rNumV_any b W
  have Q2 := Lib.hid q2
  have Q3 := Lib.hid q3
  clear q2 q3
  have Q0 := Lib.hid q0
  have HA := Lib.hid ha9
  have HC := Lib.hid hc9
  clear q0 ha9 hc9 h hga hgc
  have hsf := fun (w : World) (a : Addr) (m : Mode) (b : Nat) => run_store Try.prog w a (.float .f64 b) m rfl
  go_enter Try.func27, Try.ntmps27
  go_wp2_with (first
    | (go_at_call 60; refine (Q0.out _).mono ?_; rintro e w0 ⟨rfl, rfl⟩)
    | (go_at_call 14; ((with_reducible refine (HA.out _).mono ?_); rintro e w1 ⟨rfl, hb1⟩; obtain ⟨hc1, hf1⟩ := bcell hb1; have hz1 : w.heap.size + 1 < w1.heap.size := by { have := hb1.size; simp at this; omega }; have hz2 : w.heap.size + 2 < w1.heap.size := by { have := hb1.size; simp at this; omega }; have hz0 : w.heap.size < w1.heap.size := by { have := hb1.size; simp at this; omega }))
    | (go_at_call 14; ((with_reducible refine (HC.out _).mono ?_); rintro e w2 ⟨rfl, hb2⟩; obtain ⟨hc2, hf2⟩ := bcell hb2; have hy1 : w.heap.size + 1 < w2.heap.size := by { have := hb2.size; omega }; have hy2 : w.heap.size + 2 < w2.heap.size := by { have := hb2.size; omega }; have hy0 : w.heap.size < w2.heap.size := by { have := hb2.size; omega }))
    | (go_at_call 61; refine (Q2.out _).mono ?_; rintro e w3 ⟨b, rfl, hbm, -, hb3⟩; obtain ⟨hc3, hf3⟩ := bcell hb3; have HBM := Lib.hid hbm; clear hbm; have hx2 : w.heap.size + 2 < w3.heap.size := by { have := hb3.size; omega })
    | (go_at_call 40; refine (Q3.out _ HBM.out _).mono ?_; rintro e w4 ⟨rfl, hb4⟩; obtain ⟨hc4, hf4⟩ := bcell hb4))
  exact bodyPost_ret (v := pairVE (vNum m) 0) (by simp [results, Try.results27, go_sem, hc1, hz0, hz1, hz2, hc2, hc3, hc4, hy0, hy1, hy2, hx2]) rfl ⟨rfl, vbox3_set w _ _ _ hb1 (hb2.trans ((hb3.mono hb2.size).trans (hb4.mono (Nat.le_trans hb2.size hb3.size)))) _ _ _ _ _⟩

set_option maxHeartbeats 2000000 in
theorem rReckon_over (op : Int) (a c : Vl) (w : World) (h : opsB op = true) (hga : goodV a = true) (hgc : goodV c = true) (hk : (a.k != c.k) = false) (hk1 : (a.k != 1) = false) (hk4 : (a.k == 4) = false) (ha : in64 a.i) (hc : in64 c.i) (he : ((intsV op a.i c.i).2 != 0) = true) : Calls Try.prog 27 #[.int .i64 op, agV a, agV c] w (VMk (pairVE vZero (intsV op a.i c.i).2) w) := by
  have q0 := rReckons_any op
  rw [h] at q0
  have ha9 : ∀ W, Calls Try.prog 14 #[agV a] W (VMk (.bool (goodV a)) W) := fun W => rGood_val a W
  have hc9 : ∀ W, Calls Try.prog 14 #[agV c] W (VMk (.bool (goodV c)) W) := fun W => rGood_val c W
  rw [hga] at ha9
  rw [hgc] at hc9
  have q2 : ∀ W, Calls Try.prog 62 #[.int .i64 op, .int .i64 a.i, .int .i64 c.i] W (VDr (pairII (intsV op a.i c.i)) W) := fun W => ints_any op a.i c.i W ha hc
  clear ha hc
  generalize intsV op a.i c.i = p at q2 ⊢ he
  have Q2 := Lib.hid q2
  clear q2
  have Q0 := Lib.hid q0
  have HA := Lib.hid ha9
  have HC := Lib.hid hc9
  clear q0 ha9 hc9 h hga hgc
  have hsf := fun (w : World) (a : Addr) (m : Mode) (b : Nat) => run_store Try.prog w a (.float .f64 b) m rfl
  go_enter Try.func27, Try.ntmps27
  go_wp2_with (first
    | (go_at_call 60; refine (Q0.out _).mono ?_; rintro e w0 ⟨rfl, rfl⟩)
    | (go_at_call 14; ((with_reducible refine (HA.out _).mono ?_); rintro e w1 ⟨rfl, hb1⟩; obtain ⟨hc1, hf1⟩ := bcell hb1; have hz1 : w.heap.size + 1 < w1.heap.size := by { have := hb1.size; simp at this; omega }; have hz2 : w.heap.size + 2 < w1.heap.size := by { have := hb1.size; simp at this; omega }; have hz0 : w.heap.size < w1.heap.size := by { have := hb1.size; simp at this; omega }))
    | (go_at_call 14; ((with_reducible refine (HC.out _).mono ?_); rintro e w2 ⟨rfl, hb2⟩; obtain ⟨hc2, hf2⟩ := bcell hb2; have hy1 : w.heap.size + 1 < w2.heap.size := by { have := hb2.size; omega }; have hy2 : w.heap.size + 2 < w2.heap.size := by { have := hb2.size; omega }; have hy0 : w.heap.size < w2.heap.size := by { have := hb2.size; omega }))
    | (go_at_call 62; refine (Q2.out _).mono ?_; rintro e w3 ⟨rfl, n3, rfl⟩))
  exact bodyPost_ret (v := pairVE vZero p.2) (by simp [results, Try.results27, go_sem, hc1, hz0, hz1, hz2, hc2, hy0, hy1, hy2]) rfl ⟨rfl, vbox3_set w _ _ _ hb1 (below_drewN hb2 _) _ _ _ _ _⟩

set_option maxHeartbeats 2000000 in
theorem rReckon_ints (op : Int) (a c : Vl) (w : World) (h : opsB op = true) (hga : goodV a = true) (hgc : goodV c = true) (hk : (a.k != c.k) = false) (hk1 : (a.k != 1) = false) (hk4 : (a.k == 4) = false) (ha : in64 a.i) (hc : in64 c.i) (he : ((intsV op a.i c.i).2 != 0) = false) : Calls Try.prog 27 #[.int .i64 op, agV a, agV c] w (VMk (pairVE (vInt (intsV op a.i c.i).1) 0) w) := by
  have q0 := rReckons_any op
  rw [h] at q0
  have ha9 : ∀ W, Calls Try.prog 14 #[agV a] W (VMk (.bool (goodV a)) W) := fun W => rGood_val a W
  have hc9 : ∀ W, Calls Try.prog 14 #[agV c] W (VMk (.bool (goodV c)) W) := fun W => rGood_val c W
  rw [hga] at ha9
  rw [hgc] at hc9
  have q2 : ∀ W, Calls Try.prog 62 #[.int .i64 op, .int .i64 a.i, .int .i64 c.i] W (VDr (pairII (intsV op a.i c.i)) W) := fun W => ints_any op a.i c.i W ha hc
  clear ha hc
  generalize intsV op a.i c.i = p at q2 ⊢ he
  have Q2 := Lib.hid q2
  clear q2
  have Q0 := Lib.hid q0
  have HA := Lib.hid ha9
  have HC := Lib.hid hc9
  clear q0 ha9 hc9 h hga hgc
  have hsf := fun (w : World) (a : Addr) (m : Mode) (b : Nat) => run_store Try.prog w a (.float .f64 b) m rfl
  go_enter Try.func27, Try.ntmps27
  go_wp2_with (first
    | (go_at_call 60; refine (Q0.out _).mono ?_; rintro e w0 ⟨rfl, rfl⟩)
    | (go_at_call 14; ((with_reducible refine (HA.out _).mono ?_); rintro e w1 ⟨rfl, hb1⟩; obtain ⟨hc1, hf1⟩ := bcell hb1; have hz1 : w.heap.size + 1 < w1.heap.size := by { have := hb1.size; simp at this; omega }; have hz2 : w.heap.size + 2 < w1.heap.size := by { have := hb1.size; simp at this; omega }; have hz0 : w.heap.size < w1.heap.size := by { have := hb1.size; simp at this; omega }))
    | (go_at_call 14; ((with_reducible refine (HC.out _).mono ?_); rintro e w2 ⟨rfl, hb2⟩; obtain ⟨hc2, hf2⟩ := bcell hb2; have hy1 : w.heap.size + 1 < w2.heap.size := by { have := hb2.size; omega }; have hy2 : w.heap.size + 2 < w2.heap.size := by { have := hb2.size; omega }; have hy0 : w.heap.size < w2.heap.size := by { have := hb2.size; omega }))
    | (go_at_call 62; refine (Q2.out _).mono ?_; rintro e w3 ⟨rfl, n3, rfl⟩)
    | (go_at_call 41; refine (rIntV_any p.1 _).mono ?_; rintro e w4 ⟨rfl, hb4⟩; have hb5 : Below w2.heap.size w2 w4 := (below_drewN (Below.refl _ _) n3).trans hb4; obtain ⟨hc4, hf4⟩ := bcell hb5))
  exact bodyPost_ret (v := pairVE (vInt p.1) 0) (by simp [results, Try.results27, go_sem, hc1, hz0, hz1, hz2, hc2, hc4, hy0, hy1, hy2]) rfl ⟨rfl, vbox3_set w _ _ _ hb1 (hb2.trans (hb5.mono hb2.size)) _ _ _ _ _⟩

theorem rReckon_any (op : Int) (a c : Vl) (w : World) (ha : in64 a.i) (hc : in64 c.i) (hna : a.n < 18446744073709551616) (hnc : c.n < 18446744073709551616) : Calls Try.prog 27 #[.int .i64 op, agV a, agV c] w (VMk (pairVE (reckV op a c).1 (reckV op a c).2) w) := by
  unfold reckV alikeV
  rcases h : opsB op with _ | _
  · exact rReckon_op op a c w h
  rw [if_pos rfl]
  rcases hga : goodV a with _ | _
  · simp only [Bool.false_and, Bool.false_eq_true, if_false]; exact rReckon_a op a c w h hga
  rcases hgc : goodV c with _ | _
  · simp only [Bool.and_false, Bool.false_and, Bool.false_eq_true, if_false]; exact rReckon_c op a c w h hga hgc
  rcases hk : (a.k == c.k) with _ | _
  · simp only [Bool.and_false, Bool.false_eq_true, if_false]; exact rReckon_apart op a c w h hga hgc (by rw [bne, hk]; rfl)
  have hk2 : (a.k != c.k) = false := by rw [bne, hk]; rfl
  simp only [Bool.and_self, if_true]
  by_cases h1 : a.k = 1
  · rw [if_pos h1]
    have e1 : (a.k != 1) = false := by simp [h1]
    have e4 : (a.k == 4) = false := by simp [h1]
    unfold ofP
    by_cases he : (intsV op a.i c.i).2 = 0
    · rw [if_pos he]
      have hr := rReckon_ints op a c w h hga hgc hk2 e1 e4 ha hc (by simp [he])
      simp only [he]
      exact hr
    · rw [if_neg he]; exact rReckon_over op a c w h hga hgc hk2 e1 e4 ha hc (by simpa using he)
  rw [if_neg h1]
  by_cases h4 : a.k = 4
  · rw [if_pos h4]; exact rReckon_nums op a c w h hga hgc hk2 (by simpa using h1) (by simp [h4]) (by simp [h4]) hna hnc
  rw [if_neg h4]
  exact rReckon_none op a c w h hga hgc hk2 (by simpa using h1) (by simpa using h4)
end Go.Proofs.Ytlnpolepgdoloaa
