/- Layer 4: reckoning with ints, by the program and by the document. -/
import Derived.Test.YtlnpolepgdoloaaVProd
namespace Go.Proofs.Ytlnpolepgdoloaa
open Go.RowKit
set_option linter.unusedVariables false
set_option linter.unusedSimpArgs false
set_option maxRecDepth 20000

/-- a product, and whether it is one -/
def TimesP (x y : Int) (w : World) (e : Ending) (w' : World) : Prop := ∃ c : Int, e = .returned (.tuple #[.int .i64 c, .bool (decide (in64 (x * y)))]) ∧ (in64 (x * y) → c = x * y) ∧ ∃ n, w' = w.drewN n
theorem TimesP.mk {x y c : Int} {b : Bool} {w w' : World} (hb : decide (in64 (x * y)) = b) (hc : in64 (x * y) → c = x * y) (hw : ∃ n, w' = w.drewN n) : TimesP x y w (.returned (.tuple #[.int .i64 c, .bool b])) w' := ⟨c, by rw [hb], hc, hw⟩

set_option maxHeartbeats 1000000 in
theorem times_any (x y : Int) (w : World) (hx : in64 x) (hy : in64 y) : Calls Try.prog 91 #[.int .i64 x, .int .i64 y] w (TimesP x y w) := by
  by_cases h0 : x = 0
  · subst h0
    have hb : decide (in64 (0 * y)) = true := by rw [Int.zero_mul]; decide
    have HB := Lib.hid hb
    clear hx hy hb
    go_enter Try.func91, Try.ntmps91
    go_wp2
    go_ret2
    exact TimesP.mk HB.out (fun _ => (Int.zero_mul y).symm) ⟨0, rfl⟩
  by_cases h1 : y = 0
  · subst h1
    have hb : decide (in64 (x * 0)) = true := by rw [Int.mul_zero]; decide
    have HB := Lib.hid hb
    have hx0 : (x == 0) = false := by simpa using h0
    clear hx hy hb h0
    go_enter Try.func91, Try.ntmps91
    go_wp2
    go_ret2
    exact TimesP.mk HB.out (fun _ => (Int.mul_zero x).symm) ⟨0, rfl⟩
  have hx0 : (x == 0) = false := by simpa using h0
  have hy0 : (y == 0) = false := by simpa using h1
  by_cases hs : x = -1 ∧ y = -9223372036854775808
  · obtain ⟨rfl, rfl⟩ := hs
    clear hx hy h0 h1 hx0 hy0
    go_enter Try.func91, Try.ntmps91
    go_wp2
    go_ret2
    exact TimesP.mk (by decide) (fun h => absurd h (by decide)) ⟨0, rfl⟩
  by_cases ht : y = -1 ∧ x = -9223372036854775808
  · obtain ⟨rfl, rfl⟩ := ht
    clear hx hy h0 h1 hx0 hy0 hs
    go_enter Try.func91, Try.ntmps91
    go_wp2
    go_ret2
    exact TimesP.mk (by decide) (fun h => absurd h (by decide)) ⟨0, rfl⟩
  have hb := mul_back x y h1 ht hx hy
  have hw : in64 (x * y) → wrap64 (x * y) = x * y := fun h => wrap64_of _ h
  have hbq : (wrap64 ((wrap64 (x * y)).tdiv y) == x) = decide (in64 (x * y)) := by rw [← hb]; rfl
  have hyd : decide (y = 0) = false := by simpa using h1
  have HW := Lib.hid hw
  have HQ := Lib.hid hbq
  clear hb hw hbq hx hy h0
  have e1 : ((x == -1) = false ∨ (y == -9223372036854775808) = false) := by
    rcases h : (x == -1) with _ | _
    · exact .inl rfl
    · right; rw [beq_iff_eq] at h; simpa [h] using hs
  have e2 : ((y == -1) = false ∨ (x == -9223372036854775808) = false) := by
    rcases h : (y == -1) with _ | _
    · exact .inl rfl
    · right; rw [beq_iff_eq] at h; simpa [h] using ht
  clear hs ht
  rcases f1 : (x == -1) with _ | _ <;> rcases f2 : (y == -1) with _ | _
  all_goals
    first
      | (have f3 : (y == -9223372036854775808) = false := (e1.resolve_left (by rw [f1]; decide)))
      | skip
    first
      | (have f4 : (x == -9223372036854775808) = false := (e2.resolve_left (by rw [f2]; decide)))
      | skip
    clear e1 e2
    go_enter Try.func91, Try.ntmps91
    go_wp2
    go_quiet (fail)
    go_wp2
    go_ret2
    exact TimesP.mk HQ.out.symm HW.out ⟨_, rfl⟩

/-- 4.4: ints -/
def intsV (op x y : Int) : Int × Int :=
  if op = 4 then ovr (x + y) else if op = 5 then ovr (x - y) else if op = 6 then ovr (x * y) else if op = 7 then quoI x y else if op = 14 then ((if y < x then y else x), 0) else ((if x < y then y else x), 0)
theorem ret_pp {p q : Int × Int} (h : p = q) : Ending.returned (pairII p) = .returned (pairII q) := by rw [h]

set_option maxHeartbeats 1000000 in
theorem reckonInts_any (op x y : Int) (w : World) (hx : in64 x) (hy : in64 y) : Calls Try.prog 57 #[.int .i64 op, .int .i64 x, .int .i64 y] w (VGv (pairII (intsV op x y)) w) := by
  have q1 := sum_any x y w hx hy
  have q2 := difference_any x y w hx hy
  have q3 := product_any x y w hx hy
  have q4 := quotient_any x y w hx
  clear hx hy
  unfold intsV
  generalize ovr (x + y) = r1 at q1 ⊢
  generalize ovr (x - y) = r2 at q2 ⊢
  generalize ovr (x * y) = r3 at q3 ⊢
  generalize quoI x y = r4 at q4 ⊢
  have Q1 := Lib.hid q1
  have Q2 := Lib.hid q2
  have Q3 := Lib.hid q3
  have Q4 := Lib.hid q4
  clear q1 q2 q3 q4
  by_cases h4 : op = 4
  · rw [if_pos h4]; subst h4
    go_enter Try.func57, Try.ntmps57
    go_wp2_with (go_at_call 87; refine Q1.out.mono ?_; rintro e w1 ⟨rfl, rfl⟩)
    go_ret2
    exact ⟨rfl, rfl⟩
  have h4' : (op == 4) = false := by simpa using h4
  rw [if_neg h4]
  by_cases h5 : op = 5
  · rw [if_pos h5]; subst h5
    clear h4 h4'
    go_enter Try.func57, Try.ntmps57
    go_wp2_with (go_at_call 63; refine Q2.out.mono ?_; rintro e w1 ⟨rfl, rfl⟩)
    go_ret2
    exact ⟨rfl, rfl⟩
  have h5' : (op == 5) = false := by simpa using h5
  rw [if_neg h5]
  by_cases h6 : op = 6
  · rw [if_pos h6]; subst h6
    clear h4 h4' h5 h5'
    go_enter Try.func57, Try.ntmps57
    go_wp2_with (go_at_call 88; refine Q3.out.mono ?_; rintro e w1 ⟨rfl, rfl⟩)
    go_ret2
    exact ⟨rfl, rfl⟩
  have h6' : (op == 6) = false := by simpa using h6
  rw [if_neg h6]
  by_cases h7 : op = 7
  · rw [if_pos h7]; subst h7
    clear h4 h4' h5 h5' h6 h6'
    go_enter Try.func57, Try.ntmps57
    go_wp2_with (go_at_call 89; refine Q4.out.mono ?_; rintro e w1 ⟨rfl, rfl⟩)
    go_ret2
    exact ⟨rfl, rfl⟩
  have h7' : (op == 7) = false := by simpa using h7
  rw [if_neg h7]
  clear Q1 Q2 Q3 Q4
  by_cases h14 : op = 14
  · rw [if_pos h14]; subst h14
    clear h4 h4' h5 h5' h6 h6' h7 h7'
    by_cases hlt : y < x
    all_goals
      go_enter Try.func57, Try.ntmps57
      go_wp2
      go_ret2
      exact ⟨by simp [hlt, pairII], rfl⟩
  have h14' : (op == 14) = false := by simpa using h14
  rw [if_neg h14]
  clear h4 h5 h6 h7 h14
  by_cases hlt : x < y
  all_goals
    go_enter Try.func57, Try.ntmps57
    go_wp2
    go_ret2
    exact ⟨by simp [hlt, pairII], rfl⟩
end Go.Proofs.Ytlnpolepgdoloaa
