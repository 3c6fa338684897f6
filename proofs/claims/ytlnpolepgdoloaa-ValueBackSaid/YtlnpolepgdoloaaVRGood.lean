/- Layer 4: is a value good, by the document. (Made by gen/genvrgood.py.) -/
import Derived.Test.YtlnpolepgdoloaaVGood
namespace Go.Proofs.Ytlnpolepgdoloaa
open Go.RowKit
set_option linter.unusedVariables false
set_option linter.unusedSimpArgs false
set_option maxRecDepth 20000

set_option maxHeartbeats 1000000 in
theorem rGood_1 (i : Int) (b : Bool) (s : ByteArray) (n : Nat) (w : World) (h32 : s.size ≤ 32) : Calls Try.prog 14 #[.agg #[.int .i64 1, .int .i64 i, .bool b, .string s, .float .f64 n]] w (VMk (.bool (goodV ⟨1, i, b, s, n⟩)) w) := by
  have hd : decide (s.size ≤ 32) = true := by simpa using h32
  have h32' : decide ((32 : Int) < (s.size : Int)) = false := by simp; omega
  have h32'' : decide (32 < s.size) = false := by simp; omega
  rcases hb : b with _ | _
  · skip
    rcases hs : s.toList.isEmpty with _ | _
    · have hs2 : (!s.toList.isEmpty) = true := by rw [hs]; rfl
      have hg : goodV ⟨1, i, false, s, n⟩ = false := by simp [goodV, hd, hs]
      rw [hg]; clear hg
      go_enter Try.func14, Try.ntmps14
      go_wp2
      go_ret
      exact ⟨rfl, (Below.refl _ _).alloc (Nat.le_refl _) _⟩
    · have hs2 : (!s.toList.isEmpty) = false := by rw [hs]; rfl
      rcases hn : (n == 0) with _ | _
      · have hn2 : ((numW n : Int) == 0) = false := by rw [← numW_zero] at hn; simpa using hn
        have hg : goodV ⟨1, i, false, s, n⟩ = false := by simp [goodV, hd, hs, hn]
        rw [hg]; clear hg
        go_enter Try.func14, Try.ntmps14
        go_wp2_with (go_at_call 42; refine (rfBits_any n _).mono ?_; rintro e w1 ⟨rfl, rfl⟩)
        go_ret
        exact ⟨rfl, (Below.refl _ _).alloc (Nat.le_refl _) _⟩
      · have hn2 : ((numW n : Int) == 0) = true := by rw [← numW_zero] at hn; simpa using hn
        have hg : goodV ⟨1, i, false, s, n⟩ = true := by simp [goodV, hd, hs, hn]
        rw [hg]; clear hg
        go_enter Try.func14, Try.ntmps14
        go_wp2_with (go_at_call 42; refine (rfBits_any n _).mono ?_; rintro e w1 ⟨rfl, rfl⟩)
        go_ret
        exact ⟨rfl, (Below.refl _ _).alloc (Nat.le_refl _) _⟩
  · have hg : goodV ⟨1, i, true, s, n⟩ = false := by simp [goodV, hd]
    rw [hg]; clear hg
    go_enter Try.func14, Try.ntmps14
    go_wp2
    go_ret
    exact ⟨rfl, (Below.refl _ _).alloc (Nat.le_refl _) _⟩
set_option maxHeartbeats 1000000 in
theorem rGood_2 (i : Int) (b : Bool) (s : ByteArray) (n : Nat) (w : World) (h32 : s.size ≤ 32) : Calls Try.prog 14 #[.agg #[.int .i64 2, .int .i64 i, .bool b, .string s, .float .f64 n]] w (VMk (.bool (goodV ⟨2, i, b, s, n⟩)) w) := by
  have hd : decide (s.size ≤ 32) = true := by simpa using h32
  have h32' : decide ((32 : Int) < (s.size : Int)) = false := by simp; omega
  have h32'' : decide (32 < s.size) = false := by simp; omega
  rcases hi : (i == 0) with _ | _
  · have hi2 : (i != 0) = true := by rw [bne, hi]; rfl
    have hg : goodV ⟨2, i, b, s, n⟩ = false := by simp [goodV, hd, hi]
    rw [hg]; clear hg
    go_enter Try.func14, Try.ntmps14
    go_wp2
    go_ret
    exact ⟨rfl, (Below.refl _ _).alloc (Nat.le_refl _) _⟩
  · have hi2 : (i != 0) = false := by rw [bne, hi]; rfl
    rcases hs : s.toList.isEmpty with _ | _
    · have hs2 : (!s.toList.isEmpty) = true := by rw [hs]; rfl
      have hg : goodV ⟨2, i, b, s, n⟩ = false := by simp [goodV, hd, hi, hs]
      rw [hg]; clear hg
      go_enter Try.func14, Try.ntmps14
      go_wp2
      go_ret
      exact ⟨rfl, (Below.refl _ _).alloc (Nat.le_refl _) _⟩
    · have hs2 : (!s.toList.isEmpty) = false := by rw [hs]; rfl
      rcases hn : (n == 0) with _ | _
      · have hn2 : ((numW n : Int) == 0) = false := by rw [← numW_zero] at hn; simpa using hn
        have hg : goodV ⟨2, i, b, s, n⟩ = false := by simp [goodV, hd, hi, hs, hn]
        rw [hg]; clear hg
        go_enter Try.func14, Try.ntmps14
        go_wp2_with (go_at_call 42; refine (rfBits_any n _).mono ?_; rintro e w1 ⟨rfl, rfl⟩)
        go_ret
        exact ⟨rfl, (Below.refl _ _).alloc (Nat.le_refl _) _⟩
      · have hn2 : ((numW n : Int) == 0) = true := by rw [← numW_zero] at hn; simpa using hn
        have hg : goodV ⟨2, i, b, s, n⟩ = true := by simp [goodV, hd, hi, hs, hn]
        rw [hg]; clear hg
        go_enter Try.func14, Try.ntmps14
        go_wp2_with (go_at_call 42; refine (rfBits_any n _).mono ?_; rintro e w1 ⟨rfl, rfl⟩)
        go_ret
        exact ⟨rfl, (Below.refl _ _).alloc (Nat.le_refl _) _⟩
set_option maxHeartbeats 1000000 in
theorem rGood_3 (i : Int) (b : Bool) (s : ByteArray) (n : Nat) (w : World) (h32 : s.size ≤ 32) : Calls Try.prog 14 #[.agg #[.int .i64 3, .int .i64 i, .bool b, .string s, .float .f64 n]] w (VMk (.bool (goodV ⟨3, i, b, s, n⟩)) w) := by
  have hd : decide (s.size ≤ 32) = true := by simpa using h32
  have h32' : decide ((32 : Int) < (s.size : Int)) = false := by simp; omega
  have h32'' : decide (32 < s.size) = false := by simp; omega
  rcases hi : (i == 0) with _ | _
  · have hi2 : (i != 0) = true := by rw [bne, hi]; rfl
    have hg : goodV ⟨3, i, b, s, n⟩ = false := by simp [goodV, hd, hi]
    rw [hg]; clear hg
    go_enter Try.func14, Try.ntmps14
    go_wp2
    go_ret
    exact ⟨rfl, (Below.refl _ _).alloc (Nat.le_refl _) _⟩
  · have hi2 : (i != 0) = false := by rw [bne, hi]; rfl
    rcases hb : b with _ | _
    · skip
      rcases hn : (n == 0) with _ | _
      · have hn2 : ((numW n : Int) == 0) = false := by rw [← numW_zero] at hn; simpa using hn
        have hg : goodV ⟨3, i, false, s, n⟩ = false := by simp [goodV, hd, hi, hn]
        rw [hg]; clear hg
        go_enter Try.func14, Try.ntmps14
        go_wp2_with (go_at_call 42; refine (rfBits_any n _).mono ?_; rintro e w1 ⟨rfl, rfl⟩)
        go_ret
        exact ⟨rfl, (Below.refl _ _).alloc (Nat.le_refl _) _⟩
      · have hn2 : ((numW n : Int) == 0) = true := by rw [← numW_zero] at hn; simpa using hn
        have hg : goodV ⟨3, i, false, s, n⟩ = true := by simp [goodV, hd, hi, hn]
        rw [hg]; clear hg
        go_enter Try.func14, Try.ntmps14
        go_wp2_with (go_at_call 42; refine (rfBits_any n _).mono ?_; rintro e w1 ⟨rfl, rfl⟩)
        go_ret
        exact ⟨rfl, (Below.refl _ _).alloc (Nat.le_refl _) _⟩
    · have hg : goodV ⟨3, i, true, s, n⟩ = false := by simp [goodV, hd, hi]
      rw [hg]; clear hg
      go_enter Try.func14, Try.ntmps14
      go_wp2
      go_ret
      exact ⟨rfl, (Below.refl _ _).alloc (Nat.le_refl _) _⟩
set_option maxHeartbeats 1000000 in
theorem rGood_4 (i : Int) (b : Bool) (s : ByteArray) (n : Nat) (w : World) (h32 : s.size ≤ 32) : Calls Try.prog 14 #[.agg #[.int .i64 4, .int .i64 i, .bool b, .string s, .float .f64 n]] w (VMk (.bool (goodV ⟨4, i, b, s, n⟩)) w) := by
  have hd : decide (s.size ≤ 32) = true := by simpa using h32
  have h32' : decide ((32 : Int) < (s.size : Int)) = false := by simp; omega
  have h32'' : decide (32 < s.size) = false := by simp; omega
  rcases hi : (i == 0) with _ | _
  · have hi2 : (i != 0) = true := by rw [bne, hi]; rfl
    have hg : goodV ⟨4, i, b, s, n⟩ = false := by simp [goodV, hd, hi]
    rw [hg]; clear hg
    go_enter Try.func14, Try.ntmps14
    go_wp2
    go_ret
    exact ⟨rfl, (Below.refl _ _).alloc (Nat.le_refl _) _⟩
  · have hi2 : (i != 0) = false := by rw [bne, hi]; rfl
    rcases hb : b with _ | _
    · skip
      rcases hs : s.toList.isEmpty with _ | _
      · have hs2 : (!s.toList.isEmpty) = true := by rw [hs]; rfl
        have hg : goodV ⟨4, i, false, s, n⟩ = false := by simp [goodV, hd, hi, hs]
        rw [hg]; clear hg
        go_enter Try.func14, Try.ntmps14
        go_wp2
        go_ret
        exact ⟨rfl, (Below.refl _ _).alloc (Nat.le_refl _) _⟩
      · have hs2 : (!s.toList.isEmpty) = false := by rw [hs]; rfl
        have hg : goodV ⟨4, i, false, s, n⟩ = true := by simp [goodV, hd, hi, hs]
        rw [hg]; clear hg
        go_enter Try.func14, Try.ntmps14
        go_wp2
        go_ret
        exact ⟨rfl, (Below.refl _ _).alloc (Nat.le_refl _) _⟩
    · have hg : goodV ⟨4, i, true, s, n⟩ = false := by simp [goodV, hd, hi]
      rw [hg]; clear hg
      go_enter Try.func14, Try.ntmps14
      go_wp2
      go_ret
      exact ⟨rfl, (Below.refl _ _).alloc (Nat.le_refl _) _⟩
set_option maxHeartbeats 1000000 in
theorem rGood_val (v : Vl) (w : World) : Calls Try.prog 14 #[agV v] w (VMk (.bool (goodV v)) w) := by
  obtain ⟨k, i, b, s, n⟩ := v
  by_cases h0 : k < 1
  · have hg : goodV ⟨k, i, b, s, n⟩ = false := by
      have : decide (1 ≤ k) = false := by simp; omega
      unfold goodV; simp only [this, Bool.false_and]
    rw [hg]; clear hg
    go_enter Try.func14, Try.ntmps14
    go_wp2
    go_ret
    exact ⟨rfl, (Below.refl _ _).alloc (Nat.le_refl _) _⟩
  by_cases h5 : 4 < k
  · have hg : goodV ⟨k, i, b, s, n⟩ = false := by
      have : decide (k ≤ 4) = false := by simp; omega
      unfold goodV; simp only [this, Bool.false_and, Bool.and_false]
    rw [hg]; clear hg
    go_enter Try.func14, Try.ntmps14
    go_wp2
    go_ret
    exact ⟨rfl, (Below.refl _ _).alloc (Nat.le_refl _) _⟩
  by_cases h32 : s.size ≤ 32
  · by_cases h1 : k = 1
    · subst h1; exact rGood_1 i b s n w h32
    by_cases h2 : k = 2
    · subst h2; exact rGood_2 i b s n w h32
    by_cases h3 : k = 3
    · subst h3; exact rGood_3 i b s n w h32
    obtain rfl : k = 4 := by omega
    exact rGood_4 i b s n w h32
  · have hg : goodV ⟨k, i, b, s, n⟩ = false := by
      have : decide (s.size ≤ 32) = false := by simp; omega
      unfold goodV; simp only [this, Bool.false_and, Bool.and_false]
    rw [hg]; clear hg
    have h32' : (32 : Int) < (s.size : Int) := by omega
    clear h32
    go_enter Try.func14, Try.ntmps14
    go_wp2
    go_ret
    exact ⟨rfl, (Below.refl _ _).alloc (Nat.le_refl _) _⟩
end Go.Proofs.Ytlnpolepgdoloaa
