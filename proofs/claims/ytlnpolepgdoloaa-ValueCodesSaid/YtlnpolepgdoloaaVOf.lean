/- Layer 4: values made of what reckoning told; which operations there are. -/
import Derived.Test.YtlnpolepgdoloaaVNan
namespace Go.Proofs.Ytlnpolepgdoloaa
open Go.RowKit
set_option linter.unusedVariables false
set_option linter.unusedSimpArgs false
set_option maxRecDepth 20000

abbrev pairVE (v : Vl) (e : Int) : Value := .tuple #[agV v, .int .i64 e]

theorem ofNum_any (n : Nat) (w : World) : Calls Try.prog 58 #[.float .f64 n] w (VMk (agV (vNum (numW n))) w) := by
  have hsf := fun (w : World) (a : Addr) (m : Mode) (b : Nat) => run_store Try.prog w a (.float .f64 b) m rfl
  have hfb := fun W => from_bits (numW n : Int) W
  rw [Int.toNat_natCast] at hfb
  have hq : ∀ W, Calls Try.prog 53 #[.float .f64 n] W (VGv (.int .u64 (numW n)) W) := numBits_any n
  generalize numW n = q at hfb hq ⊢
  have HQ := Lib.hid hq
  clear hq
  go_enter Try.func58, Try.ntmps58
  go_wp2_with (go_at_call 53; refine (HQ.out _).mono ?_; rintro e w1 ⟨rfl, rfl⟩)
  exact bodyPost_ret (v := agV (vNum q)) (by simp [results, Try.results58, go_sem]) rfl ⟨rfl, (Below.refl _ _).alloc (Nat.le_refl _) _⟩

theorem ofInt_ok (n : Int) (w : World) : Calls Try.prog 56 #[.int .i64 n, .int .i64 0] w (VMk (pairVE (vInt n) 0) w) := by
  have hsf := fun (w : World) (a : Addr) (m : Mode) (b : Nat) => run_store Try.prog w a (.float .f64 b) m rfl
  go_enter Try.func56, Try.ntmps56
  go_wp2
  exact bodyPost_ret (v := pairVE (vInt n) 0) (by simp [results, Try.results56, go_sem]) rfl ⟨rfl, (Below.refl _ _).alloc (Nat.le_refl _) _⟩
theorem ofInt_no (n e : Int) (w : World) (he : (e != 0) = true) : Calls Try.prog 56 #[.int .i64 n, .int .i64 e] w (VMk (pairVE vZero e) w) := by
  have hsf := fun (w : World) (a : Addr) (m : Mode) (b : Nat) => run_store Try.prog w a (.float .f64 b) m rfl
  go_enter Try.func56, Try.ntmps56
  go_wp2
  exact bodyPost_ret (v := pairVE vZero e) (by simp [results, Try.results56, go_sem]) rfl ⟨rfl, (Below.refl _ _).alloc (Nat.le_refl _) _⟩
/-- a number, or an error -/
def ofP (p : Int × Int) : Vl := if p.2 = 0 then vInt p.1 else vZero
theorem ofInt_any (p : Int × Int) (w : World) : Calls Try.prog 56 #[.int .i64 p.1, .int .i64 p.2] w (VMk (pairVE (ofP p) p.2) w) := by
  obtain ⟨n, e⟩ := p
  unfold ofP
  by_cases he : e = 0
  · subst he; rw [if_pos rfl]; exact ofInt_ok n w
  · rw [if_neg he]; exact ofInt_no n e w (by simpa using he)

def opsB (op : Int) : Bool := op == 4 || op == 5 || op == 6 || op == 7 || op == 14 || op == 15
theorem reckons_any (op : Int) (w : World) : Calls Try.prog 55 #[.int .i64 op] w (VGv (.bool (opsB op)) w) := by
  unfold opsB
  rcases h4 : (op == 4) with _ | _ <;> rcases h5 : (op == 5) with _ | _ <;> rcases h6 : (op == 6) with _ | _ <;> rcases h7 : (op == 7) with _ | _ <;> rcases h14 : (op == 14) with _ | _ <;> rcases h15 : (op == 15) with _ | _
  all_goals
    first
      | (exfalso; simp only [beq_iff_eq] at h4 h5 h6 h7 h14 h15; omega)
      | (go_enter Try.func55, Try.ntmps55
         go_wp2
         go_ret
         exact ⟨rfl, rfl⟩)
theorem rReckons_any (op : Int) (w : World) : Calls Try.prog 60 #[.int .i64 op] w (VGv (.bool (opsB op)) w) := by
  by_cases h : 4 ≤ op
  · have e1 : decide (4 ≤ op) = true := by simpa using h
    by_cases h7 : op ≤ 7
    · have e2 : decide (op ≤ 7) = true := by simpa using h7
      have hr : opsB op = true := by
        unfold opsB
        rcases (show op = 4 ∨ op = 5 ∨ op = 6 ∨ op = 7 by omega) with rfl | rfl | rfl | rfl <;> rfl
      rw [hr]; clear hr h h7
      go_enter Try.func60, Try.ntmps60
      go_wp2
      go_ret
      exact ⟨rfl, rfl⟩
    · have e2 : decide (op ≤ 7) = false := by simpa using h7
      have hr : opsB op = (op == 14 || op == 15) := by
        have a4 : (op == 4) = false := by simp; omega
        have a5 : (op == 5) = false := by simp; omega
        have a6 : (op == 6) = false := by simp; omega
        have a7 : (op == 7) = false := by simp; omega
        unfold opsB; rw [a4, a5, a6, a7]; rfl
      rw [hr]; clear hr h h7
      rcases h14 : (op == 14) with _ | _
      all_goals
        go_enter Try.func60, Try.ntmps60
        go_wp2
        go_ret
        exact ⟨rfl, rfl⟩
  · have e1 : decide (4 ≤ op) = false := by simpa using h
    have e14 : (op == 14) = false := by simp; omega
    have e15 : (op == 15) = false := by simp; omega
    have hr : opsB op = false := by
      have a4 : (op == 4) = false := by simp; omega
      have a5 : (op == 5) = false := by simp; omega
      have a6 : (op == 6) = false := by simp; omega
      have a7 : (op == 7) = false := by simp; omega
      unfold opsB; rw [a4, a5, a6, a7, e14, e15]; rfl
    rw [hr]; clear hr h
    go_enter Try.func60, Try.ntmps60
    go_wp2
    go_ret
    exact ⟨rfl, rfl⟩
end Go.Proofs.Ytlnpolepgdoloaa
