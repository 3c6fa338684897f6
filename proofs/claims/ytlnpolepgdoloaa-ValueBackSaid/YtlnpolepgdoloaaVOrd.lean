/- Layer 4: Order, Equal, Less by the program. -/
import Derived.Test.YtlnpolepgdoloaaVLike
namespace Go.Proofs.Ytlnpolepgdoloaa
open Go.RowKit
set_option linter.unusedVariables false
set_option linter.unusedSimpArgs false
set_option maxRecDepth 20000

def b2i (b : Bool) : Int := if b then 1 else 0
/-- 4.2: within a kind -/
def ordK (a c : Vl) : Int :=
  if a.k = 1 then cmpI a.i c.i else if a.k = 2 then cmpI (b2i a.b) (b2i c.b) else if a.k = 3 then cmpS a.s.toList c.s.toList else if a.k = 4 then cmpI (flRank a.n) (flRank c.n) else 0
/-- 4.2: the order -/
def ordV (a c : Vl) : Int := if a.k = c.k then ordK a c else cmpI a.k c.k

theorem truthRank_any (b : Bool) (w : World) : Calls Try.prog 48 #[.bool b] w (VGv (.int .i64 (b2i b)) w) := by
  cases b <;>
    (go_enter Try.func48, Try.ntmps48
     go_wp2
     go_ret
     exact ⟨rfl, rfl⟩)
theorem truthRank_same (b : Bool) (W : World) : Calls Try.prog 48 #[.bool b] W fun e w' => e = .returned (.int .i64 (b2i b)) ∧ w' = W := (truthRank_any b W).mono fun e w' h => ⟨h.1, h.2.symm⟩
theorem cmpInt_same (x y : Int) (W : World) : Calls Try.prog 46 #[.int .i64 x, .int .i64 y] W fun e w' => e = .returned (.int .i64 (cmpI x y)) ∧ w' = W := (cmpInt_any x y W).mono fun e w' h => ⟨h.1, h.2.symm⟩
theorem cmpU64_same (x y : Int) (W : World) : Calls Try.prog 50 #[.int .u64 x, .int .u64 y] W fun e w' => e = .returned (.int .i64 (cmpI x y)) ∧ w' = W := (cmpU64_any x y W).mono fun e w' h => ⟨h.1, h.2.symm⟩
theorem numRank_same (b : Nat) (hb : b < 18446744073709551616) (W : World) : Calls Try.prog 51 #[.float .f64 b] W fun e w' => e = .returned (.int .u64 (flRank b)) ∧ w' = W := (numRank_any b hb W).mono fun e w' h => ⟨h.1, h.2.symm⟩

set_option maxHeartbeats 1000000 in
theorem Order_val (a c : Vl) (w : World) (ha : a.n < 18446744073709551616) (hc : c.n < 18446744073709551616) : Calls Try.prog 18 #[agV a, agV c] w (VMk (.int .i64 (ordV a c)) w) := by
  have qa : ∀ W, Calls Try.prog 51 #[.float .f64 a.n] W fun e w' => e = .returned (.int .u64 (flRank a.n)) ∧ w' = W := numRank_same a.n ha
  have qc : ∀ W, Calls Try.prog 51 #[.float .f64 c.n] W fun e w' => e = .returned (.int .u64 (flRank c.n)) ∧ w' = W := numRank_same c.n hc
  clear ha hc
  by_cases hk : a.k = c.k
  · have ho : ordV a c = ordK a c := by unfold ordV; rw [if_pos hk]
    rw [ho]; clear ho
    have hne : (a.k != c.k) = false := by simp [hk]
    have QA := Lib.hid qa
    have QC := Lib.hid qc
    clear qa qc
    unfold ordK
    by_cases h1 : a.k = 1
    · rw [if_pos h1]
      have h1' : (a.k == 1) = true := by simpa using h1
      clear hk h1
      go_enter Try.func18, Try.ntmps18
      go_wp2_with (go_at_call 47; refine (cmpI64_any a.i c.i _).mono ?_; rintro e w1 ⟨rfl, rfl⟩)
      go_ret
      exact ⟨rfl, vbox2 w _ _⟩
    have h1' : (a.k == 1) = false := by simpa using h1
    rw [if_neg h1]
    by_cases h2 : a.k = 2
    · rw [if_pos h2]
      have h2' : (a.k == 2) = true := by simpa using h2
      clear hk h1 h2
      go_enter Try.func18, Try.ntmps18
      go_wp2
      go_quiet (first | (go_at_call 48; exact Calls.quiet_of_same (truthRank_same _ _)) | (go_at_call 46; exact Calls.quiet_of_same (cmpInt_same _ _ _)))
      go_wp2
      go_ret
      exact ⟨rfl, below_drewN (vbox2 w _ _) _⟩
    have h2' : (a.k == 2) = false := by simpa using h2
    rw [if_neg h2]
    by_cases h3 : a.k = 3
    · rw [if_pos h3]
      have h3' : (a.k == 3) = true := by simpa using h3
      clear hk h1 h2 h3
      go_enter Try.func18, Try.ntmps18
      go_wp2_with (go_at_call 49; refine (cmpStr_any a.s c.s _).mono ?_; rintro e w1 ⟨rfl, rfl⟩)
      go_ret
      exact ⟨rfl, vbox2 w _ _⟩
    have h3' : (a.k == 3) = false := by simpa using h3
    rw [if_neg h3]
    by_cases h4 : a.k = 4
    · rw [if_pos h4]
      have h4' : (a.k == 4) = true := by simpa using h4
      clear hk h1 h2 h3 h4
      go_enter Try.func18, Try.ntmps18
      go_wp2
      go_quiet (first | (go_at_call 51; first | (with_reducible exact Calls.quiet_of_same (QA.out _)) | (with_reducible exact Calls.quiet_of_same (QC.out _))) | (go_at_call 50; exact Calls.quiet_of_same (cmpU64_same _ _ _)))
      go_wp2
      go_ret
      exact ⟨rfl, below_drewN (vbox2 w _ _) _⟩
    have h4' : (a.k == 4) = false := by simpa using h4
    rw [if_neg h4]
    clear hk h1 h2 h3 h4
    go_enter Try.func18, Try.ntmps18
    go_wp2
    go_ret
    exact ⟨rfl, vbox2 w _ _⟩
  · have ho : ordV a c = cmpI a.k c.k := by unfold ordV; rw [if_neg hk]
    rw [ho]; clear ho
    have hne : (a.k != c.k) = true := by simpa using hk
    clear hk qa qc
    go_enter Try.func18, Try.ntmps18
    go_wp2_with (go_at_call 46; refine (cmpInt_any a.k c.k _).mono ?_; rintro e w1 ⟨rfl, rfl⟩)
    go_ret
    exact ⟨rfl, vbox2 w _ _⟩
end Go.Proofs.Ytlnpolepgdoloaa
