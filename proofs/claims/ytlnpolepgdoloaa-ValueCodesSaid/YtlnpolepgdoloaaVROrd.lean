/- Layer 4: Order by the document. -/
import Derived.Test.YtlnpolepgdoloaaVOrd
namespace Go.Proofs.Ytlnpolepgdoloaa
open Go.RowKit
set_option linter.unusedVariables false
set_option linter.unusedSimpArgs false
set_option maxRecDepth 20000

theorem rRank_same (b : Nat) (hb : b < 18446744073709551616) (W : World) : Calls Try.prog 52 #[.float .f64 b] W fun e w' => e = .returned (.int .u64 (flRank b)) ∧ w' = W := (rRank_any b hb W).mono fun e w' h => ⟨h.1, h.2.symm⟩
theorem cmpI_lt {x y : Int} (h : x < y) : cmpI x y = -1 := by unfold cmpI; rw [if_pos h]
theorem cmpI_gt {x y : Int} (h : y < x) : cmpI x y = 1 := by unfold cmpI; rw [if_neg (by omega), if_pos h]
theorem cmpI_eq {x y : Int} (h : x = y) : cmpI x y = 0 := by unfold cmpI; rw [if_neg (by omega), if_neg (by omega)]

/-- kinds apart -/
theorem rOrder_apart (a c : Vl) (w : World) (h : a.k ≠ c.k) : Calls Try.prog 19 #[agV a, agV c] w (VMk (.int .i64 (cmpI a.k c.k)) w) := by
  by_cases h1 : a.k < c.k
  · rw [cmpI_lt h1]
    clear h
    go_enter Try.func19, Try.ntmps19
    go_wp2
    go_ret
    exact ⟨rfl, vbox2 w _ _⟩
  · have h2 : c.k < a.k := by omega
    rw [cmpI_gt h2]
    have h1' : decide (a.k < c.k) = false := by simpa using h1
    clear h h1
    go_enter Try.func19, Try.ntmps19
    go_wp2
    go_ret
    exact ⟨rfl, vbox2 w _ _⟩

set_option maxHeartbeats 1000000 in
theorem rOrder_int (a c : Vl) (w : World) (hk : c.k = a.k) (h1 : a.k = 1) : Calls Try.prog 19 #[agV a, agV c] w (VMk (.int .i64 (cmpI a.i c.i)) w) := by
  rw [h1] at hk
  rcases Int.lt_trichotomy a.i c.i with h | h | h
  · rw [cmpI_lt h]
    have d1 : decide (a.i < c.i) = true := by simpa using h
    have d2 : decide (c.i < a.i) = false := by simp; omega
    clear h
    go_enter Try.func19, Try.ntmps19
    go_wp2
    go_ret
    exact ⟨rfl, vbox2 w _ _⟩
  · rw [cmpI_eq h]
    have d1 : decide (a.i < c.i) = false := by simp; omega
    have d2 : decide (c.i < a.i) = false := by simp; omega
    clear h
    go_enter Try.func19, Try.ntmps19
    go_wp2
    go_ret
    exact ⟨rfl, vbox2 w _ _⟩
  · rw [cmpI_gt h]
    have d1 : decide (a.i < c.i) = false := by simp; omega
    have d2 : decide (c.i < a.i) = true := by simpa using h
    clear h
    go_enter Try.func19, Try.ntmps19
    go_wp2
    go_ret
    exact ⟨rfl, vbox2 w _ _⟩

set_option maxHeartbeats 1000000 in
theorem rOrder_bool (a c : Vl) (w : World) (hk : c.k = a.k) (h1 : a.k = 2) : Calls Try.prog 19 #[agV a, agV c] w (VMk (.int .i64 (cmpI (b2i a.b) (b2i c.b))) w) := by
  rw [h1] at hk
  rcases ha : a.b with _ | _ <;> rcases hc : c.b with _ | _
  all_goals
    go_enter Try.func19, Try.ntmps19
    go_wp2
    go_ret
    exact ⟨rfl, vbox2 w _ _⟩

set_option maxHeartbeats 1000000 in
theorem rOrder_text (a c : Vl) (w : World) (hk : c.k = a.k) (h1 : a.k = 3) : Calls Try.prog 19 #[agV a, agV c] w (VMk (.int .i64 (cmpS a.s.toList c.s.toList)) w) := by
  rw [h1] at hk
  rcases d1 : Op.bytesLess a.s.toList c.s.toList with _ | _
  · rcases d2 : (a.s.toList == c.s.toList) with _ | _
    · have hc : cmpS a.s.toList c.s.toList = 1 := by unfold cmpS; rw [d1, d2]; rfl
      rw [hc]; clear hc
      go_enter Try.func19, Try.ntmps19
      go_wp2
      go_ret
      exact ⟨rfl, vbox2 w _ _⟩
    · have hc : cmpS a.s.toList c.s.toList = 0 := by unfold cmpS; rw [d1, d2]; rfl
      rw [hc]; clear hc
      go_enter Try.func19, Try.ntmps19
      go_wp2
      go_ret
      exact ⟨rfl, vbox2 w _ _⟩
  · have hc : cmpS a.s.toList c.s.toList = -1 := by unfold cmpS; rw [d1]; rfl
    rw [hc]; clear hc
    go_enter Try.func19, Try.ntmps19
    go_wp2
    go_ret
    exact ⟨rfl, vbox2 w _ _⟩

/-- a call that looks alone, behind draws: the draws add up -/
theorem looks_behind {f : FuncId} {args : Array Value} {w : World} {m n : Nat} {v : Value} (h : Calls Try.prog f args (w.drewN (m + n)) fun e w' => e = .returned v ∧ w' = w.drewN (m + n)) :
    Calls Try.prog f args (w.drewN (m + n)) fun e w' => e = .returned v ∧ ∃ k, w' = w.drewN (m + k) := h.mono fun _ _ g => ⟨g.1, n, g.2⟩

set_option maxHeartbeats 1000000 in
theorem rOrder_num (a c : Vl) (w : World) (hk : c.k = a.k) (h1 : a.k = 4) (ha : a.n < 18446744073709551616) (hc : c.n < 18446744073709551616) : Calls Try.prog 19 #[agV a, agV c] w (VMk (.int .i64 (cmpI (flRank a.n) (flRank c.n))) w) := by
  rw [h1] at hk
  have qa : ∀ W, Calls Try.prog 52 #[.float .f64 a.n] W fun e w' => e = .returned (.int .u64 (flRank a.n)) ∧ w' = W := rRank_same a.n ha
  have qc : ∀ W, Calls Try.prog 52 #[.float .f64 c.n] W fun e w' => e = .returned (.int .u64 (flRank c.n)) ∧ w' = W := rRank_same c.n hc
  clear ha hc
  generalize flRank a.n = p at qa ⊢
  generalize flRank c.n = q at qc ⊢
  have QA := Lib.hid qa
  have QC := Lib.hid qc
  clear qa qc
  rcases Nat.lt_trichotomy p q with h | h | h
  · rw [cmpI_lt (show (p : Int) < q by omega)]
    have d1 : decide (p < q) = true := by simpa using h
    have d2 : decide (q < p) = false := by simp; omega
    clear h
    go_enter Try.func19, Try.ntmps19
    go_wp2
    go_quiet (first | (go_at_call 52; first | (with_reducible exact Calls.quiet_of_same (QA.out _)) | (with_reducible exact Calls.quiet_of_same (QC.out _))))
    go_wp2
    go_quiet (first | (go_at_call 52; first | (with_reducible exact looks_behind (QA.out _)) | (with_reducible exact looks_behind (QC.out _))))
    go_wp2
    go_ret
    first | exact ⟨rfl, below_drewN (below_drewN (vbox2 w _ _) _) _⟩ | exact ⟨rfl, below_drewN (vbox2 w _ _) _⟩
  · rw [cmpI_eq (show (p : Int) = q by omega)]
    have d1 : decide (p < q) = false := by simp; omega
    have d2 : decide (q < p) = false := by simp; omega
    clear h
    go_enter Try.func19, Try.ntmps19
    go_wp2
    go_quiet (first | (go_at_call 52; first | (with_reducible exact Calls.quiet_of_same (QA.out _)) | (with_reducible exact Calls.quiet_of_same (QC.out _))))
    go_wp2
    go_quiet (first | (go_at_call 52; first | (with_reducible exact looks_behind (QA.out _)) | (with_reducible exact looks_behind (QC.out _))))
    go_wp2
    go_ret
    first | exact ⟨rfl, below_drewN (below_drewN (vbox2 w _ _) _) _⟩ | exact ⟨rfl, below_drewN (vbox2 w _ _) _⟩
  · rw [cmpI_gt (show (q : Int) < p by omega)]
    have d1 : decide (p < q) = false := by simp; omega
    have d2 : decide (q < p) = true := by simpa using h
    clear h
    go_enter Try.func19, Try.ntmps19
    go_wp2
    go_quiet (first | (go_at_call 52; first | (with_reducible exact Calls.quiet_of_same (QA.out _)) | (with_reducible exact Calls.quiet_of_same (QC.out _))))
    go_wp2
    go_quiet (first | (go_at_call 52; first | (with_reducible exact looks_behind (QA.out _)) | (with_reducible exact looks_behind (QC.out _))))
    go_wp2
    go_ret
    first | exact ⟨rfl, below_drewN (below_drewN (vbox2 w _ _) _) _⟩ | exact ⟨rfl, below_drewN (vbox2 w _ _) _⟩

theorem rOrder_none (a c : Vl) (w : World) (hk : c.k = a.k) (d1 : (a.k == 1) = false) (d2 : (a.k == 2) = false) (d3 : (a.k == 3) = false) (d4 : (a.k == 4) = false) : Calls Try.prog 19 #[agV a, agV c] w (VMk (.int .i64 0) w) := by
  have e1 : decide (a.k < c.k) = false := by simp; omega
  have e2 : decide (c.k < a.k) = false := by simp; omega
  clear hk
  go_enter Try.func19, Try.ntmps19
  go_wp2
  go_ret
  exact ⟨rfl, vbox2 w _ _⟩

theorem rOrder_val (a c : Vl) (w : World) (ha : a.n < 18446744073709551616) (hc : c.n < 18446744073709551616) : Calls Try.prog 19 #[agV a, agV c] w (VMk (.int .i64 (ordV a c)) w) := by
  unfold ordV
  by_cases hk : a.k = c.k
  · rw [if_pos hk]
    unfold ordK
    by_cases h1 : a.k = 1
    · rw [if_pos h1]; exact rOrder_int a c w hk.symm h1
    rw [if_neg h1]
    by_cases h2 : a.k = 2
    · rw [if_pos h2]; exact rOrder_bool a c w hk.symm h2
    rw [if_neg h2]
    by_cases h3 : a.k = 3
    · rw [if_pos h3]; exact rOrder_text a c w hk.symm h3
    rw [if_neg h3]
    by_cases h4 : a.k = 4
    · rw [if_pos h4]; exact rOrder_num a c w hk.symm h4 ha hc
    rw [if_neg h4]
    exact rOrder_none a c w hk.symm (by simpa using h1) (by simpa using h2) (by simpa using h3) (by simpa using h4)
  · rw [if_neg hk]
    exact rOrder_apart a c w hk
end Go.Proofs.Ytlnpolepgdoloaa
