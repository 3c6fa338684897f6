/- Layer 4: Reckon by the program. -/
import Derived.Test.YtlnpolepgdoloaaVOf
import Derived.Test.YtlnpolepgdoloaaVLike
import Derived.Test.YtlnpolepgdoloaaVInts
import Derived.Test.YtlnpolepgdoloaaVNums
namespace Go.Proofs.Ytlnpolepgdoloaa
open Go.RowKit
set_option linter.unusedVariables false
set_option linter.unusedSimpArgs false
set_option maxRecDepth 20000

/-- 4.4: Reckon -/
def reckV (op : Int) (a c : Vl) : Vl × Int :=
  if opsB op then (if alikeV a c then (if a.k = 1 then (ofP (intsV op a.i c.i), (intsV op a.i c.i).2) else if a.k = 4 then (vNum (numsV op a.n c.n), 0) else (vZero, 40)) else (vZero, 40)) else (vZero, 1)

theorem vbox3 (w : World) (o p q : Obj) : Below w.heap.size w (((w.alloc o).alloc p).alloc q) := (((Below.refl _ _).alloc (Nat.le_refl _) _).alloc (by simp) _).alloc (by simp; omega) _
theorem vbox3_set (w : World) (o p q : Obj) {w1 w2 : World} (h1 : Below ((w.alloc o).alloc p |>.alloc q).heap.size ((w.alloc o).alloc p |>.alloc q) w1) (h2 : Below w1.heap.size w1 w2) (u0 u1 u2 u3 u4 : Value) :
    Below w.heap.size w (((((w2.setCell ⟨w.heap.size + 2, 0, none⟩ u0).setCell ⟨w.heap.size + 2, 1, none⟩ u1).setCell ⟨w.heap.size + 2, 2, none⟩ u2).setCell ⟨w.heap.size + 2, 3, none⟩ u3).setCell ⟨w.heap.size + 2, 4, none⟩ u4) := by
  have hs := h1.size
  simp at hs
  exact below_set5 ((vbox3 w o p q).trans ((h1.mono (by simp; omega)).trans (h2.mono (by omega)))) (by omega) _ _ _ _ _

set_option maxHeartbeats 2000000 in
theorem Reckon_op (op : Int) (a c : Vl) (w : World) (h : opsB op = false) : Calls Try.prog 26 #[.int .i64 op, agV a, agV c] w (VMk (pairVE vZero 1) w) := by
  have q0 := reckons_any op
  rw [h] at q0
  have Q0 := Lib.hid q0
  clear q0 h
  have hsf := fun (w : World) (a : Addr) (m : Mode) (b : Nat) => run_store Try.prog w a (.float .f64 b) m rfl
  go_enter Try.func26, Try.ntmps26
  go_wp2_with (go_at_call 55; refine (Q0.out _).mono ?_; rintro e w1 ⟨rfl, rfl⟩)
  exact bodyPost_ret (v := pairVE vZero 1) (by simp [results, Try.results26, go_sem]) rfl ⟨rfl, vbox3 w _ _ _⟩

set_option maxHeartbeats 2000000 in
theorem Reckon_unlike (op : Int) (a c : Vl) (w : World) (h : opsB op = true) (hl : alikeV a c = false) : Calls Try.prog 26 #[.int .i64 op, agV a, agV c] w (VMk (pairVE vZero 40) w) := by
  have q0 := reckons_any op
  rw [h] at q0
  have q1 : ∀ W, Calls Try.prog 54 #[agV a, agV c] W (VMk (.bool (alikeV a c)) W) := fun W => alike_val a c W
  rw [hl] at q1
  have Q0 := Lib.hid q0
  have Q1 := Lib.hid q1
  clear q0 q1 h hl
  have hsf := fun (w : World) (a : Addr) (m : Mode) (b : Nat) => run_store Try.prog w a (.float .f64 b) m rfl
  go_enter Try.func26, Try.ntmps26
  go_wp2_with (first
    | (go_at_call 55; refine (Q0.out _).mono ?_; rintro e w1 ⟨rfl, rfl⟩)
    | (go_at_call 54; refine (Q1.out _).mono ?_; rintro e w1 ⟨rfl, hb1⟩; obtain ⟨hc1, hf1⟩ := bcell hb1))
  exact bodyPost_ret (v := pairVE vZero 40) (by simp [results, Try.results26, go_sem, hc1]) rfl ⟨rfl, vbox3_set w _ _ _ hb1 (Below.refl _ _) _ _ _ _ _⟩
set_option maxHeartbeats 2000000 in
theorem Reckon_ints (op : Int) (a c : Vl) (w : World) (h : opsB op = true) (hl : alikeV a c = true) (hk1 : (a.k == 1) = true) (ha : in64 a.i) (hc : in64 c.i) : Calls Try.prog 26 #[.int .i64 op, agV a, agV c] w (VMk (pairVE (ofP (intsV op a.i c.i)) (intsV op a.i c.i).2) w) := by
  have q0 := reckons_any op
  rw [h] at q0
  have q1 : ∀ W, Calls Try.prog 54 #[agV a, agV c] W (VMk (.bool (alikeV a c)) W) := fun W => alike_val a c W
  rw [hl] at q1
  have q2 := reckonInts_any op a.i c.i
  have q2 : ∀ W, Calls Try.prog 57 #[.int .i64 op, .int .i64 a.i, .int .i64 c.i] W (VGv (pairII (intsV op a.i c.i)) W) := fun W => q2 W ha hc
  clear ha hc
  generalize intsV op a.i c.i = p at q2 ⊢
  have q3 := ofInt_any p
  generalize ofP p = u at q3 ⊢
  have Q2 := Lib.hid q2
  have Q3 := Lib.hid q3
  clear q2 q3
  have Q0 := Lib.hid q0
  have Q1 := Lib.hid q1
  clear q0 q1 h hl
  have hsf := fun (w : World) (a : Addr) (m : Mode) (b : Nat) => run_store Try.prog w a (.float .f64 b) m rfl
  go_enter Try.func26, Try.ntmps26
  go_wp2_with (first
    | (go_at_call 55; refine (Q0.out _).mono ?_; rintro e w1 ⟨rfl, rfl⟩)
    | (go_at_call 54; refine (Q1.out _).mono ?_; rintro e w1 ⟨rfl, hb1⟩; obtain ⟨hc1, hf1⟩ := bcell hb1; have hz0 : w.heap.size < w1.heap.size := by { have := hb1.size; simp at this; omega }; have hz1 : w.heap.size + 1 < w1.heap.size := by { have := hb1.size; simp at this; omega }; have hz2 : w.heap.size + 2 < w1.heap.size := by { have := hb1.size; simp at this; omega })
    | (go_at_call 57; refine (Q2.out _).mono ?_; rintro e w2 ⟨rfl, rfl⟩)
    | (go_at_call 56; refine (Q3.out _).mono ?_; rintro e w2 ⟨rfl, hb2⟩; obtain ⟨hc2, hf2⟩ := bcell hb2))
  exact bodyPost_ret (v := pairVE u p.2) (by simp [results, Try.results26, go_sem, hc1, hc2, hz0, hz1, hz2]) rfl ⟨rfl, vbox3_set w _ _ _ hb1 hb2 _ _ _ _ _⟩

set_option maxHeartbeats 2000000 in
theorem Reckon_nums (op : Int) (a c : Vl) (w : World) (h : opsB op = true) (hl : alikeV a c = true) (hk : a.k = 4) (ha : a.n < 18446744073709551616) (hc : c.n < 18446744073709551616) : Calls Try.prog 26 #[.int .i64 op, agV a, agV c] w (VMk (pairVE (vNum (numsV op a.n c.n)) 0) w) := by
  have q0 := reckons_any op
  rw [h] at q0
  have q1 : ∀ W, Calls Try.prog 54 #[agV a, agV c] W (VMk (.bool (alikeV a c)) W) := fun W => alike_val a c W
  rw [hl] at q1
  have q2 : ∀ W, Calls Try.prog 59 #[.int .i64 op, .float .f64 a.n, .float .f64 c.n] W (FlP (numsV op a.n c.n) W) := fun W => reckonNums_any op a.n c.n W ha hc
  clear ha hc
  generalize numsV op a.n c.n = m at q2 ⊢
  have q3 : ∀ b, numW b = m → ∀ W, Calls Try.prog 58 #[.float .f64 b] W (VMk (agV (vNum m)) W) := fun b hb W => by rw [← hb]; exact ofNum_any b W
  have Q0 := Lib.hid q0
  have Q1 := Lib.hid q1
  have Q2 := Lib.hid q2
  have Q3 := Lib.hid q3
  clear q0 q1 q2 q3 h hl
  have hk1 : (a.k == 1) = false := by rw [hk]; rfl
  have hk4 : (a.k == 4) = true := by rw [hk]; rfl
  clear hk
  have hsf := fun (w : World) (a : Addr) (m : Mode) (b : Nat) => run_store Try.prog w a (.float .f64 b) m rfl
  go_enter Try.func26, Try.ntmps26
  go_wp2_with (first
    | (go_at_call 55; refine (Q0.out _).mono ?_; rintro e w1 ⟨rfl, rfl⟩)
    | (go_at_call 54; refine (Q1.out _).mono ?_; rintro e w1 ⟨rfl, hb1⟩; obtain ⟨hc1, hf1⟩ := bcell hb1; have hz0 : w.heap.size < w1.heap.size := by { have := hb1.size; simp at this; omega }; have hz1 : w.heap.size + 1 < w1.heap.size := by { have := hb1.size; simp at this; omega }; have hz2 : w.heap.size + 2 < w1.heap.size := by { have := hb1.size; simp at this; omega })
    | (go_at_call 59; refine (Q2.out _).mono ?_; rintro e w2 ⟨b, rfl, hbm, -, hb2⟩; obtain ⟨hc2, hf2⟩ := bcell hb2; have HBM := Lib.hid hbm; clear hbm; have hy2 : w.heap.size + 2 < w2.heap.size := by { have := hb2.size; omega })
    | (go_at_call 58; refine (Q3.out _ HBM.out _).mono ?_; rintro e w3 ⟨rfl, hb3⟩; obtain ⟨hc3, hf3⟩ := bcell hb3))
  exact bodyPost_ret (v := pairVE (vNum m) 0) (by simp [results, Try.results26, go_sem, hc1, hc2, hc3, hz0, hz1, hz2, hy2]) rfl ⟨rfl, vbox3_set w _ _ _ hb1 (hb2.trans (hb3.mono hb2.size)) _ _ _ _ _⟩

set_option maxHeartbeats 2000000 in
theorem Reckon_none (op : Int) (a c : Vl) (w : World) (h : opsB op = true) (hl : alikeV a c = true) (hk1 : (a.k == 1) = false) (hk4 : (a.k == 4) = false) : Calls Try.prog 26 #[.int .i64 op, agV a, agV c] w (VMk (pairVE vZero 40) w) := by
  have q0 := reckons_any op
  rw [h] at q0
  have q1 : ∀ W, Calls Try.prog 54 #[agV a, agV c] W (VMk (.bool (alikeV a c)) W) := fun W => alike_val a c W
  rw [hl] at q1
  have Q0 := Lib.hid q0
  have Q1 := Lib.hid q1
  clear q0 q1 h hl
  have hsf := fun (w : World) (a : Addr) (m : Mode) (b : Nat) => run_store Try.prog w a (.float .f64 b) m rfl
  go_enter Try.func26, Try.ntmps26
  go_wp2_with (first
    | (go_at_call 55; refine (Q0.out _).mono ?_; rintro e w1 ⟨rfl, rfl⟩)
    | (go_at_call 54; refine (Q1.out _).mono ?_; rintro e w1 ⟨rfl, hb1⟩; obtain ⟨hc1, hf1⟩ := bcell hb1; have hz0 : w.heap.size < w1.heap.size := by { have := hb1.size; simp at this; omega }; have hz1 : w.heap.size + 1 < w1.heap.size := by { have := hb1.size; simp at this; omega }; have hz2 : w.heap.size + 2 < w1.heap.size := by { have := hb1.size; simp at this; omega }))
  exact bodyPost_ret (v := pairVE vZero 40) (by simp [results, Try.results26, go_sem, hc1]) rfl ⟨rfl, vbox3_set w _ _ _ hb1 (Below.refl _ _) _ _ _ _ _⟩

theorem Reckon_any (op : Int) (a c : Vl) (w : World) (ha : in64 a.i) (hc : in64 c.i) (hna : a.n < 18446744073709551616) (hnc : c.n < 18446744073709551616) : Calls Try.prog 26 #[.int .i64 op, agV a, agV c] w (VMk (pairVE (reckV op a c).1 (reckV op a c).2) w) := by
  unfold reckV
  rcases h : opsB op with _ | _
  · exact Reckon_op op a c w h
  rw [if_pos rfl]
  rcases hl : alikeV a c with _ | _
  · exact Reckon_unlike op a c w h hl
  rw [if_pos rfl]
  by_cases h1 : a.k = 1
  · rw [if_pos h1]; exact Reckon_ints op a c w h hl (by simpa using h1) ha hc
  rw [if_neg h1]
  by_cases h4 : a.k = 4
  · rw [if_pos h4]; exact Reckon_nums op a c w h hl h4 hna hnc
  rw [if_neg h4]
  exact Reckon_none op a c w h hl (by simpa using h1) (by simpa using h4)
end Go.Proofs.Ytlnpolepgdoloaa
