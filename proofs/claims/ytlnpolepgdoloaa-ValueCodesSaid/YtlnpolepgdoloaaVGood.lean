/- Layer 4: is a value good. (Made by gen/genvgood.py.) -/
import Derived.Test.YtlnpolepgdoloaaVSame
namespace Go.Proofs.Ytlnpolepgdoloaa
open Go.RowKit
set_option linter.unusedVariables false
set_option linter.unusedSimpArgs false
set_option maxRecDepth 20000

/-- 4.1: good -/
def goodV (v : Vl) : Bool := decide (1 ≤ v.k) && decide (v.k ≤ 4) && decide (v.s.size ≤ 32) && (v.k == 1 || v.i == 0) && (v.k == 2 || !v.b) && (v.k == 3 || v.s.toList.isEmpty) && (v.k == 4 || v.n == 0)
theorem numW_zero (n : Nat) : (numW n == 0) = (n == 0) := by
  rcases hn : nanB n with _ | _
  · unfold numW; rw [hn]; rfl
  · have h0 : n ≠ 0 := fun h => by rw [h, nanB_iff] at hn; revert hn; decide
    have e : numW n = 9221120237041090561 := (numW_eq_nan n).2 hn
    rw [e]; symm; simpa using h0
theorem numW_0 : numW 0 = 0 := by have := numW_zero 0; simpa using this
theorem empty_list : (ByteArray.mk #[]).toList = [] := strB_list []
theorem beq_nil (l : List UInt8) : (l == []) = l.isEmpty := by cases l <;> rfl

theorem same_bare1 (i : Int) (b : Bool) (s : ByteArray) (n : Nat) : goodV ⟨1, i, b, s, n⟩ = (sameV ⟨1, i, b, s, n⟩ ⟨1, i, false, ⟨#[]⟩, 0⟩ && decide (s.size ≤ 32)) := by
  unfold goodV sameV
  simp only [empty_list, beq_nil, numW_0, numW_zero]
  rcases decide (s.size ≤ 32) with _ | _ <;> rcases s.toList.isEmpty with _ | _ <;> cases b <;> rcases (i == 0) with _ | _ <;> rcases (n == 0) with _ | _ <;> simp
theorem bcell {W w1 : World} (hb : Below W.heap.size W w1) : (∀ b o, b < W.heap.size → w1.cell? ⟨b, o, none⟩ = W.cell? ⟨b, o, none⟩) ∧ (∀ b o, b < W.heap.size → w1.frozen? ⟨b, o, none⟩ = W.frozen? ⟨b, o, none⟩) :=
  ⟨fun b o h => hb.cell (p := ⟨b, o, none⟩) h, fun b o h => hb.frozen (p := ⟨b, o, none⟩) h⟩
set_option maxHeartbeats 1000000 in
theorem Good_1 (i : Int) (b : Bool) (s : ByteArray) (n : Nat) (w : World) : Calls Try.prog 13 #[.agg #[.int .i64 1, .int .i64 i, .bool b, .string s, .float .f64 n]] w (VMk (.bool (goodV ⟨1, i, b, s, n⟩)) w) := by
  have hsame : ∀ W, Calls Try.prog 20 #[.agg #[.int .i64 1, .int .i64 i, .bool b, .string s, .float .f64 n], .agg #[.int .i64 1, .int .i64 i, .bool false, .string ⟨#[]⟩, .float .f64 0]] W (VMk (.bool (sameV ⟨1, i, b, s, n⟩ ⟨1, i, false, ⟨#[]⟩, 0⟩)) W) := fun W => Same_val ⟨1, i, b, s, n⟩ ⟨1, i, false, ⟨#[]⟩, 0⟩ W
  rw [same_bare1]
  generalize sameV ⟨1, i, b, s, n⟩ ⟨1, i, false, ⟨#[]⟩, 0⟩ = sb at hsame ⊢
  rcases sb with _ | _
  · rw [Bool.false_and]
    have HS := Lib.hid hsame
    clear hsame
    have hsf := fun (w : World) (a : Addr) (m : Mode) (b : Nat) => run_store Try.prog w a (.float .f64 b) m rfl
    go_enter Try.func13, Try.ntmps13
    go_wp2_with (go_at_call 20; refine (HS.out _).mono ?_; rintro e w1 ⟨rfl, hb1⟩)
    go_ret
    exact ⟨rfl, (vbox2 w _ _).trans (hb1.mono (by simp; omega))⟩
  · rw [Bool.true_and]
    by_cases h32 : s.size ≤ 32
    · rw [decide_eq_true h32]
      have h32' : decide ((s.size : Int) ≤ 32) = true := by simp; omega
      have HS := Lib.hid hsame
      clear hsame h32
      have hsf := fun (w : World) (a : Addr) (m : Mode) (b : Nat) => run_store Try.prog w a (.float .f64 b) m rfl
      go_enter Try.func13, Try.ntmps13
      go_wp2_with (go_at_call 20; refine (HS.out _).mono ?_; rintro e w1 ⟨rfl, hb1⟩; obtain ⟨hc1, hf1⟩ := bcell hb1)
      go_ret
      exact ⟨rfl, (vbox2 w _ _).trans (hb1.mono (by simp; omega))⟩
    · rw [decide_eq_false h32]
      have h32' : decide ((s.size : Int) ≤ 32) = false := by simp; omega
      have HS := Lib.hid hsame
      clear hsame h32
      have hsf := fun (w : World) (a : Addr) (m : Mode) (b : Nat) => run_store Try.prog w a (.float .f64 b) m rfl
      go_enter Try.func13, Try.ntmps13
      go_wp2_with (go_at_call 20; refine (HS.out _).mono ?_; rintro e w1 ⟨rfl, hb1⟩; obtain ⟨hc1, hf1⟩ := bcell hb1)
      go_ret
      exact ⟨rfl, (vbox2 w _ _).trans (hb1.mono (by simp; omega))⟩
theorem same_bare2 (i : Int) (b : Bool) (s : ByteArray) (n : Nat) : goodV ⟨2, i, b, s, n⟩ = (sameV ⟨2, i, b, s, n⟩ ⟨2, 0, b, ⟨#[]⟩, 0⟩ && decide (s.size ≤ 32)) := by
  unfold goodV sameV
  simp only [empty_list, beq_nil, numW_0, numW_zero]
  rcases decide (s.size ≤ 32) with _ | _ <;> rcases s.toList.isEmpty with _ | _ <;> cases b <;> rcases (i == 0) with _ | _ <;> rcases (n == 0) with _ | _ <;> simp
set_option maxHeartbeats 1000000 in
theorem Good_2 (i : Int) (b : Bool) (s : ByteArray) (n : Nat) (w : World) : Calls Try.prog 13 #[.agg #[.int .i64 2, .int .i64 i, .bool b, .string s, .float .f64 n]] w (VMk (.bool (goodV ⟨2, i, b, s, n⟩)) w) := by
  have hsame : ∀ W, Calls Try.prog 20 #[.agg #[.int .i64 2, .int .i64 i, .bool b, .string s, .float .f64 n], .agg #[.int .i64 2, .int .i64 0, .bool b, .string ⟨#[]⟩, .float .f64 0]] W (VMk (.bool (sameV ⟨2, i, b, s, n⟩ ⟨2, 0, b, ⟨#[]⟩, 0⟩)) W) := fun W => Same_val ⟨2, i, b, s, n⟩ ⟨2, 0, b, ⟨#[]⟩, 0⟩ W
  rw [same_bare2]
  generalize sameV ⟨2, i, b, s, n⟩ ⟨2, 0, b, ⟨#[]⟩, 0⟩ = sb at hsame ⊢
  rcases sb with _ | _
  · rw [Bool.false_and]
    have HS := Lib.hid hsame
    clear hsame
    have hsf := fun (w : World) (a : Addr) (m : Mode) (b : Nat) => run_store Try.prog w a (.float .f64 b) m rfl
    go_enter Try.func13, Try.ntmps13
    go_wp2_with (go_at_call 20; refine (HS.out _).mono ?_; rintro e w1 ⟨rfl, hb1⟩)
    go_ret
    exact ⟨rfl, (vbox2 w _ _).trans (hb1.mono (by simp; omega))⟩
  · rw [Bool.true_and]
    by_cases h32 : s.size ≤ 32
    · rw [decide_eq_true h32]
      have h32' : decide ((s.size : Int) ≤ 32) = true := by simp; omega
      have HS := Lib.hid hsame
      clear hsame h32
      have hsf := fun (w : World) (a : Addr) (m : Mode) (b : Nat) => run_store Try.prog w a (.float .f64 b) m rfl
      go_enter Try.func13, Try.ntmps13
      go_wp2_with (go_at_call 20; refine (HS.out _).mono ?_; rintro e w1 ⟨rfl, hb1⟩; obtain ⟨hc1, hf1⟩ := bcell hb1)
      go_ret
      exact ⟨rfl, (vbox2 w _ _).trans (hb1.mono (by simp; omega))⟩
    · rw [decide_eq_false h32]
      have h32' : decide ((s.size : Int) ≤ 32) = false := by simp; omega
      have HS := Lib.hid hsame
      clear hsame h32
      have hsf := fun (w : World) (a : Addr) (m : Mode) (b : Nat) => run_store Try.prog w a (.float .f64 b) m rfl
      go_enter Try.func13, Try.ntmps13
      go_wp2_with (go_at_call 20; refine (HS.out _).mono ?_; rintro e w1 ⟨rfl, hb1⟩; obtain ⟨hc1, hf1⟩ := bcell hb1)
      go_ret
      exact ⟨rfl, (vbox2 w _ _).trans (hb1.mono (by simp; omega))⟩
theorem same_bare3 (i : Int) (b : Bool) (s : ByteArray) (n : Nat) : goodV ⟨3, i, b, s, n⟩ = (sameV ⟨3, i, b, s, n⟩ ⟨3, 0, false, s, 0⟩ && decide (s.size ≤ 32)) := by
  unfold goodV sameV
  simp only [empty_list, beq_nil, numW_0, numW_zero]
  rcases decide (s.size ≤ 32) with _ | _ <;> rcases s.toList.isEmpty with _ | _ <;> cases b <;> rcases (i == 0) with _ | _ <;> rcases (n == 0) with _ | _ <;> simp
set_option maxHeartbeats 1000000 in
theorem Good_3 (i : Int) (b : Bool) (s : ByteArray) (n : Nat) (w : World) : Calls Try.prog 13 #[.agg #[.int .i64 3, .int .i64 i, .bool b, .string s, .float .f64 n]] w (VMk (.bool (goodV ⟨3, i, b, s, n⟩)) w) := by
  have hsame : ∀ W, Calls Try.prog 20 #[.agg #[.int .i64 3, .int .i64 i, .bool b, .string s, .float .f64 n], .agg #[.int .i64 3, .int .i64 0, .bool false, .string s, .float .f64 0]] W (VMk (.bool (sameV ⟨3, i, b, s, n⟩ ⟨3, 0, false, s, 0⟩)) W) := fun W => Same_val ⟨3, i, b, s, n⟩ ⟨3, 0, false, s, 0⟩ W
  rw [same_bare3]
  generalize sameV ⟨3, i, b, s, n⟩ ⟨3, 0, false, s, 0⟩ = sb at hsame ⊢
  rcases sb with _ | _
  · rw [Bool.false_and]
    have HS := Lib.hid hsame
    clear hsame
    have hsf := fun (w : World) (a : Addr) (m : Mode) (b : Nat) => run_store Try.prog w a (.float .f64 b) m rfl
    go_enter Try.func13, Try.ntmps13
    go_wp2_with (go_at_call 20; refine (HS.out _).mono ?_; rintro e w1 ⟨rfl, hb1⟩)
    go_ret
    exact ⟨rfl, (vbox2 w _ _).trans (hb1.mono (by simp; omega))⟩
  · rw [Bool.true_and]
    by_cases h32 : s.size ≤ 32
    · rw [decide_eq_true h32]
      have h32' : decide ((s.size : Int) ≤ 32) = true := by simp; omega
      have HS := Lib.hid hsame
      clear hsame h32
      have hsf := fun (w : World) (a : Addr) (m : Mode) (b : Nat) => run_store Try.prog w a (.float .f64 b) m rfl
      go_enter Try.func13, Try.ntmps13
      go_wp2_with (go_at_call 20; refine (HS.out _).mono ?_; rintro e w1 ⟨rfl, hb1⟩; obtain ⟨hc1, hf1⟩ := bcell hb1)
      go_ret
      exact ⟨rfl, (vbox2 w _ _).trans (hb1.mono (by simp; omega))⟩
    · rw [decide_eq_false h32]
      have h32' : decide ((s.size : Int) ≤ 32) = false := by simp; omega
      have HS := Lib.hid hsame
      clear hsame h32
      have hsf := fun (w : World) (a : Addr) (m : Mode) (b : Nat) => run_store Try.prog w a (.float .f64 b) m rfl
      go_enter Try.func13, Try.ntmps13
      go_wp2_with (go_at_call 20; refine (HS.out _).mono ?_; rintro e w1 ⟨rfl, hb1⟩; obtain ⟨hc1, hf1⟩ := bcell hb1)
      go_ret
      exact ⟨rfl, (vbox2 w _ _).trans (hb1.mono (by simp; omega))⟩
theorem same_bare4 (i : Int) (b : Bool) (s : ByteArray) (n : Nat) : goodV ⟨4, i, b, s, n⟩ = (sameV ⟨4, i, b, s, n⟩ ⟨4, 0, false, ⟨#[]⟩, n⟩ && decide (s.size ≤ 32)) := by
  unfold goodV sameV
  simp only [empty_list, beq_nil, numW_0, numW_zero]
  rcases decide (s.size ≤ 32) with _ | _ <;> rcases s.toList.isEmpty with _ | _ <;> cases b <;> rcases (i == 0) with _ | _ <;> rcases (n == 0) with _ | _ <;> simp
set_option maxHeartbeats 1000000 in
theorem Good_4 (i : Int) (b : Bool) (s : ByteArray) (n : Nat) (w : World) : Calls Try.prog 13 #[.agg #[.int .i64 4, .int .i64 i, .bool b, .string s, .float .f64 n]] w (VMk (.bool (goodV ⟨4, i, b, s, n⟩)) w) := by
  have hsame : ∀ W, Calls Try.prog 20 #[.agg #[.int .i64 4, .int .i64 i, .bool b, .string s, .float .f64 n], .agg #[.int .i64 4, .int .i64 0, .bool false, .string ⟨#[]⟩, .float .f64 n]] W (VMk (.bool (sameV ⟨4, i, b, s, n⟩ ⟨4, 0, false, ⟨#[]⟩, n⟩)) W) := fun W => Same_val ⟨4, i, b, s, n⟩ ⟨4, 0, false, ⟨#[]⟩, n⟩ W
  rw [same_bare4]
  generalize sameV ⟨4, i, b, s, n⟩ ⟨4, 0, false, ⟨#[]⟩, n⟩ = sb at hsame ⊢
  rcases sb with _ | _
  · rw [Bool.false_and]
    have HS := Lib.hid hsame
    clear hsame
    have hsf := fun (w : World) (a : Addr) (m : Mode) (b : Nat) => run_store Try.prog w a (.float .f64 b) m rfl
    go_enter Try.func13, Try.ntmps13
    go_wp2_with (go_at_call 20; refine (HS.out _).mono ?_; rintro e w1 ⟨rfl, hb1⟩)
    go_ret
    exact ⟨rfl, (vbox2 w _ _).trans (hb1.mono (by simp; omega))⟩
  · rw [Bool.true_and]
    by_cases h32 : s.size ≤ 32
    · rw [decide_eq_true h32]
      have h32' : decide ((s.size : Int) ≤ 32) = true := by simp; omega
      have HS := Lib.hid hsame
      clear hsame h32
      have hsf := fun (w : World) (a : Addr) (m : Mode) (b : Nat) => run_store Try.prog w a (.float .f64 b) m rfl
      go_enter Try.func13, Try.ntmps13
      go_wp2_with (go_at_call 20; refine (HS.out _).mono ?_; rintro e w1 ⟨rfl, hb1⟩; obtain ⟨hc1, hf1⟩ := bcell hb1)
      go_ret
      exact ⟨rfl, (vbox2 w _ _).trans (hb1.mono (by simp; omega))⟩
    · rw [decide_eq_false h32]
      have h32' : decide ((s.size : Int) ≤ 32) = false := by simp; omega
      have HS := Lib.hid hsame
      clear hsame h32
      have hsf := fun (w : World) (a : Addr) (m : Mode) (b : Nat) => run_store Try.prog w a (.float .f64 b) m rfl
      go_enter Try.func13, Try.ntmps13
      go_wp2_with (go_at_call 20; refine (HS.out _).mono ?_; rintro e w1 ⟨rfl, hb1⟩; obtain ⟨hc1, hf1⟩ := bcell hb1)
      go_ret
      exact ⟨rfl, (vbox2 w _ _).trans (hb1.mono (by simp; omega))⟩
set_option maxHeartbeats 1000000 in
theorem Good_val (v : Vl) (w : World) : Calls Try.prog 13 #[agV v] w (VMk (.bool (goodV v)) w) := by
  obtain ⟨k, i, b, s, n⟩ := v
  by_cases h1 : k = 1
  · subst h1; exact Good_1 i b s n w
  by_cases h2 : k = 2
  · subst h2; exact Good_2 i b s n w
  by_cases h3 : k = 3
  · subst h3; exact Good_3 i b s n w
  by_cases h4 : k = 4
  · subst h4; exact Good_4 i b s n w
  have hg : goodV ⟨k, i, b, s, n⟩ = false := by
    have : (decide (1 ≤ k) && decide (k ≤ 4)) = false := by
      rw [Bool.and_eq_false_iff, decide_eq_false_iff_not, decide_eq_false_iff_not]; omega
    unfold goodV; simp only [this, Bool.false_and]
  rw [hg]
  have d1 : (k == 1) = false := by simpa using h1
  have d2 : (k == 2) = false := by simpa using h2
  have d3 : (k == 3) = false := by simpa using h3
  have d4 : (k == 4) = false := by simpa using h4
  clear hg h1 h2 h3 h4
  have hsf := fun (w : World) (a : Addr) (m : Mode) (b : Nat) => run_store Try.prog w a (.float .f64 b) m rfl
  go_enter Try.func13, Try.ntmps13
  go_wp2
  go_ret
  exact ⟨rfl, vbox2 w _ _⟩
end Go.Proofs.Ytlnpolepgdoloaa
