/- Layer 3: who is who: the program's numbers and the document's. -/
import Derived.Test.YtlbbehhjehpefaaArgs
namespace Go.Proofs.Ytlbbehhjehpefaa
open Go.RowKit
set_option linter.unusedVariables false

/-- is s one of the replicas, a client, known; its organization; who leads -/
def repB (f s : Int) : Bool := decide (0 ≤ s) && decide (s < 3 * f + 1)
def clB (c s : Int) : Bool := decide (1000 ≤ s) && decide (s - 1000 < c)
def knB (f c s : Int) : Bool := repB f s || clB c s
def orgE (c s : Int) : Int := if clB c s then (s - 1000) % 4 else -1
def primE (f v : Int) : Int := if v < 0 then 0 else v % (3 * f + 1)
def ok64 (s : Int) : Prop := -9223372036854775808 ≤ s ∧ s ≤ 9223372036854775807

/-- the program's authority: its numbers and where its table lies; the document's -/
def AuH (w : World) (g bm : Nat) (f c : Int) : Prop :=
  w.heap[g]? = some (.cells #[.int .i64 (3 * f + 1), .int .i64 f, .int .i64 c, .map (some bm)] 58 (0, 0)) ∧ 0 ≤ f ∧ f ≤ 2 ∧ 0 ≤ c ∧ c ≤ 8
def RaH (w : World) (g : Nat) (f c : Int) (v : Value) : Prop :=
  w.heap[g]? = some (.cells #[.bool true, .int .i64 f, .int .i64 c, v] 47 (0, 0)) ∧ 0 ≤ f ∧ f ≤ 2 ∧ 0 ≤ c ∧ c ≤ 8

theorem AuH.open {w : World} {g bm : Nat} {f c : Int} (h : AuH w g bm f c) : w.cell? ⟨g, 0, none⟩ = some (.int .i64 (3 * f + 1)) ∧ w.cell? ⟨g, 1, none⟩ = some (.int .i64 f) ∧ w.cell? ⟨g, 2, none⟩ = some (.int .i64 c) ∧ w.cell? ⟨g, 3, none⟩ = some (.map (some bm)) := by
  refine ⟨?_, ?_, ?_, ?_⟩ <;> (rw [cell_of_row _ _ _ _ _ (0, 0) h.1]; rfl)
theorem RaH.open {w : World} {g : Nat} {f c : Int} {v : Value} (h : RaH w g f c v) : w.cell? ⟨g, 0, none⟩ = some (.bool true) ∧ w.cell? ⟨g, 1, none⟩ = some (.int .i64 f) ∧ w.cell? ⟨g, 2, none⟩ = some (.int .i64 c) ∧ w.cell? ⟨g, 3, none⟩ = some v := by
  refine ⟨?_, ?_, ?_, ?_⟩ <;> (rw [cell_of_row _ _ _ _ _ (0, 0) h.1]; rfl)

/-- what a call tells that only looks -/
def Says (v : Value) (w : World) (e : Ending) (w' : World) : Prop := e = .returned v ∧ w' = w

section
variable {w : World} {g bm : Nat} {f c : Int} {v : Value}

theorem N_any (h : AuH w g bm f c) : Calls Try.prog 29 #[.pointer (some ⟨g, 0, none⟩)] w (Says (.int .i64 (3 * f + 1)) w) := by
  obtain ⟨c0, c1, c2, c3⟩ := h.open
  go_enter Try.func29, Try.ntmps29
  go_wp2
  go_ret
  exact ⟨rfl, rfl⟩
theorem F_any (h : AuH w g bm f c) : Calls Try.prog 27 #[.pointer (some ⟨g, 0, none⟩)] w (Says (.int .i64 f) w) := by
  obtain ⟨c0, c1, c2, c3⟩ := h.open
  go_enter Try.func27, Try.ntmps27
  go_wp2
  go_ret
  exact ⟨rfl, rfl⟩
theorem Clients_any (h : AuH w g bm f c) : Calls Try.prog 32 #[.pointer (some ⟨g, 0, none⟩)] w (Says (.int .i64 c) w) := by
  obtain ⟨c0, c1, c2, c3⟩ := h.open
  go_enter Try.func32, Try.ntmps32
  go_wp2
  go_ret
  exact ⟨rfl, rfl⟩
theorem Quorum_any (h : AuH w g bm f c) : Calls Try.prog 26 #[.pointer (some ⟨g, 0, none⟩)] w (Says (.int .i64 (2 * f + 1)) w) := by
  have h0 := h.2
  go_enter Try.func26, Try.ntmps26
  go_wp2_with (first
    | (go_at_call 29; refine (N_any h).mono ?_; rintro e w' ⟨rfl, rfl⟩)
    | (go_at_call 27; refine (F_any h).mono ?_; rintro e w' ⟨rfl, rfl⟩))
  go_ret
  exact ⟨ret_int (by first | omega | (rw [IntKind.wrap_i64]; omega)), rfl⟩
theorem Weak_any (h : AuH w g bm f c) : Calls Try.prog 28 #[.pointer (some ⟨g, 0, none⟩)] w (Says (.int .i64 (f + 1)) w) := by
  have h0 := h.2
  go_enter Try.func28, Try.ntmps28
  go_wp2_with (first
    | (go_at_call 26; refine (Quorum_any h).mono ?_; rintro e w' ⟨rfl, rfl⟩)
    | (go_at_call 27; refine (F_any h).mono ?_; rintro e w' ⟨rfl, rfl⟩))
  go_ret
  exact ⟨ret_int (by first | omega | (rw [IntKind.wrap_i64]; omega)), rfl⟩
theorem Primary_any (h : AuH w g bm f c) (s : Int) (hs : ok64 s) : Calls Try.prog 30 #[.pointer (some ⟨g, 0, none⟩), .int .i64 s] w (Says (.int .i64 (primE f s)) w) := by
  obtain ⟨-, hf0, hf2, -, -⟩ := id h
  have hn : 3 * f + 1 ≠ 0 := by omega
  by_cases hlt : s < 0
  · have hp : primE f s = 0 := by unfold primE; rw [if_pos hlt]
    rw [hp]
    go_enter Try.func30, Try.ntmps30
    go_wp2
    go_ret
    exact ⟨rfl, rfl⟩
  · have hp : primE f s = s % (3 * f + 1) := by unfold primE; rw [if_neg hlt]
    rw [hp]
    go_enter Try.func30, Try.ntmps30
    go_wp2_with (first
      | (go_at_call 29; refine (N_any h).mono ?_; rintro e w' ⟨rfl, rfl⟩))
    go_ret
    exact ⟨rfl, rfl⟩

theorem Replica_any (h : AuH w g bm f c) (s : Int) : Calls Try.prog 40 #[.pointer (some ⟨g, 0, none⟩), .int .i64 s] w (Says (.bool (repB f s)) w) := by
  by_cases hlt : 0 ≤ s
  · have hd : decide (0 ≤ s) = true := by simpa using hlt
    have hr : repB f s = decide (s < 3 * f + 1) := by unfold repB; rw [hd, Bool.true_and]
    rw [hr]
    go_enter Try.func40, Try.ntmps40
    go_wp2_with (first
      | (go_at_call 29; refine (N_any h).mono ?_; rintro e w' ⟨rfl, rfl⟩))
    go_ret
    exact ⟨rfl, rfl⟩
  · have hd : decide (0 ≤ s) = false := by simpa using hlt
    have hr : repB f s = false := by unfold repB; rw [hd, Bool.false_and]
    rw [hr]
    go_enter Try.func40, Try.ntmps40
    go_wp2
    go_ret
    exact ⟨rfl, rfl⟩
theorem client_any (h : AuH w g bm f c) (s : Int) (hs : ok64 s) : Calls Try.prog 47 #[.pointer (some ⟨g, 0, none⟩), .int .i64 s] w (Says (.bool (clB c s)) w) := by
  by_cases hlt : 1000 ≤ s
  · have hd : decide (1000 ≤ s) = true := by simpa using hlt
    have hr : clB c s = decide (s - 1000 < c) := by unfold clB; rw [hd, Bool.true_and]
    have hw : IntKind.i64.wrap (s - 1000) = s - 1000 := by have := hs.1; have := hs.2; rw [IntKind.wrap_i64]; omega
    rw [hr]
    go_enter Try.func47, Try.ntmps47
    go_wp2_with (first
      | (go_at_call 32; refine (Clients_any h).mono ?_; rintro e w' ⟨rfl, rfl⟩))
    go_ret
    exact ⟨rfl, rfl⟩
  · have hd : decide (1000 ≤ s) = false := by simpa using hlt
    have hr : clB c s = false := by unfold clB; rw [hd, Bool.false_and]
    rw [hr]
    go_enter Try.func47, Try.ntmps47
    go_wp2
    go_ret
    exact ⟨rfl, rfl⟩
theorem Org_any (h : AuH w g bm f c) (s : Int) (hs : ok64 s) : Calls Try.prog 36 #[.pointer (some ⟨g, 0, none⟩), .int .i64 s] w (Says (.int .i64 (orgE c s)) w) := by
  have hc := client_any h s hs
  rcases hb : clB c s with _ | _
  · have ho : orgE c s = -1 := by unfold orgE; rw [hb]; rfl
    rw [ho]
    rw [hb] at hc
    clear hb
    go_enter Try.func36, Try.ntmps36
    go_wp2_with (first
      | (go_at_call 47; refine hc.mono ?_; rintro e w' ⟨rfl, rfl⟩))
    go_ret
    exact ⟨rfl, rfl⟩
  · have ho : orgE c s = (s - 1000) % 4 := by unfold orgE; rw [hb]; rfl
    have hge : 1000 ≤ s := by unfold clB at hb; simp at hb; omega
    have hw : IntKind.i64.wrap (s - 1000) = s - 1000 := by have := hs.1; have := hs.2; rw [IntKind.wrap_i64]; omega
    rw [ho]
    rw [hb] at hc
    clear hb
    go_enter Try.func36, Try.ntmps36
    go_wp2_with (first
      | (go_at_call 47; refine hc.mono ?_; rintro e w' ⟨rfl, rfl⟩))
    go_ret
    exact ⟨rfl, rfl⟩
theorem Known_any (h : AuH w g bm f c) (s : Int) (hs : ok64 s) : Calls Try.prog 38 #[.pointer (some ⟨g, 0, none⟩), .int .i64 s] w (Says (.bool (knB f c s)) w) := by
  have hr := Replica_any h s
  have hc := client_any h s hs
  unfold knB
  rcases hb : repB f s with _ | _
  · rw [hb] at hr
    rw [Bool.false_or]
    clear hb
    go_enter Try.func38, Try.ntmps38
    go_wp2_with (first
      | (go_at_call 40; refine hr.mono ?_; rintro e w' ⟨rfl, rfl⟩)
      | (go_at_call 47; refine hc.mono ?_; rintro e w' ⟨rfl, rfl⟩))
    go_ret
    exact ⟨rfl, rfl⟩
  · rw [hb] at hr
    rw [Bool.true_or]
    clear hb
    go_enter Try.func38, Try.ntmps38
    go_wp2_with (first
      | (go_at_call 40; refine hr.mono ?_; rintro e w' ⟨rfl, rfl⟩))
    go_ret
    exact ⟨rfl, rfl⟩
end

/-! the document's -/
section
variable {w : World} {g : Nat} {f c : Int} {v : Value}
theorem rN_any (h : RaH w g f c v) : Calls Try.prog 31 #[.pointer (some ⟨g, 0, none⟩)] w (Says (.int .i64 (3 * f + 1)) w) := by
  obtain ⟨-, h0⟩ := id h
  obtain ⟨c0, c1, c2, c3⟩ := h.open
  go_enter Try.func31, Try.ntmps31
  go_wp2
  go_ret
  exact ⟨ret_int (by first | rfl | omega | (rw [IntKind.wrap_i64]; omega)), rfl⟩
theorem rQuorum_any (h : RaH w g f c v) : Calls Try.prog 33 #[.pointer (some ⟨g, 0, none⟩)] w (Says (.int .i64 (2 * f + 1)) w) := by
  obtain ⟨-, h0⟩ := id h
  obtain ⟨c0, c1, c2, c3⟩ := h.open
  go_enter Try.func33, Try.ntmps33
  go_wp2
  go_ret
  exact ⟨ret_int (by first | rfl | omega | (rw [IntKind.wrap_i64]; omega)), rfl⟩
theorem rWeak_any (h : RaH w g f c v) : Calls Try.prog 34 #[.pointer (some ⟨g, 0, none⟩)] w (Says (.int .i64 (f + 1)) w) := by
  obtain ⟨-, h0⟩ := id h
  obtain ⟨c0, c1, c2, c3⟩ := h.open
  go_enter Try.func34, Try.ntmps34
  go_wp2
  go_ret
  exact ⟨ret_int (by first | rfl | omega | (rw [IntKind.wrap_i64]; omega)), rfl⟩
theorem rPrimary_any (h : RaH w g f c v) (s : Int) (hs : ok64 s) : Calls Try.prog 35 #[.pointer (some ⟨g, 0, none⟩), .int .i64 s] w (Says (.int .i64 (primE f s)) w) := by
  obtain ⟨-, hf0, hf2, -, -⟩ := id h
  obtain ⟨c0, c1, c2, c3⟩ := h.open
  have hn : 3 * f + 1 ≠ 0 := by omega
  by_cases hlt : s < 0
  · have hp : primE f s = 0 := by unfold primE; rw [if_pos hlt]
    rw [hp]
    go_enter Try.func35, Try.ntmps35
    go_wp2
    go_ret
    exact ⟨rfl, rfl⟩
  · have hp : primE f s = s % (3 * f + 1) := by unfold primE; rw [if_neg hlt]
    rw [hp]
    go_enter Try.func35, Try.ntmps35
    go_wp2_with (first
      | (go_at_call 31; refine (rN_any h).mono ?_; rintro e w' ⟨rfl, rfl⟩))
    go_ret
    exact ⟨rfl, rfl⟩
theorem rReplica_any (h : RaH w g f c v) (s : Int) : Calls Try.prog 41 #[.pointer (some ⟨g, 0, none⟩), .int .i64 s] w (Says (.bool (repB f s)) w) := by
  by_cases hlt : 0 ≤ s
  · have hd : decide (0 ≤ s) = true := by simpa using hlt
    have hr : repB f s = decide (s < 3 * f + 1) := by unfold repB; rw [hd, Bool.true_and]
    rw [hr]
    go_enter Try.func41, Try.ntmps41
    go_wp2_with (first
      | (go_at_call 31; refine (rN_any h).mono ?_; rintro e w' ⟨rfl, rfl⟩))
    go_ret
    exact ⟨rfl, rfl⟩
  · have hd : decide (0 ≤ s) = false := by simpa using hlt
    have hr : repB f s = false := by unfold repB; rw [hd, Bool.false_and]
    rw [hr]
    go_enter Try.func41, Try.ntmps41
    go_wp2
    go_ret
    exact ⟨rfl, rfl⟩
theorem rClient_any (h : RaH w g f c v) (s : Int) (hs : ok64 s) : Calls Try.prog 48 #[.pointer (some ⟨g, 0, none⟩), .int .i64 s] w (Says (.bool (clB c s)) w) := by
  obtain ⟨c0, c1, c2, c3⟩ := h.open
  by_cases hlt : 1000 ≤ s
  · have hd : decide (1000 ≤ s) = true := by simpa using hlt
    have hr : clB c s = decide (s - 1000 < c) := by unfold clB; rw [hd, Bool.true_and]
    have hw : IntKind.i64.wrap (s - 1000) = s - 1000 := by have := hs.1; have := hs.2; rw [IntKind.wrap_i64]; omega
    rw [hr]
    go_enter Try.func48, Try.ntmps48
    go_wp2
    go_ret
    exact ⟨rfl, rfl⟩
  · have hd : decide (1000 ≤ s) = false := by simpa using hlt
    have hr : clB c s = false := by unfold clB; rw [hd, Bool.false_and]
    rw [hr]
    go_enter Try.func48, Try.ntmps48
    go_wp2
    go_ret
    exact ⟨rfl, rfl⟩
theorem rOrg_any (h : RaH w g f c v) (s : Int) (hs : ok64 s) : Calls Try.prog 37 #[.pointer (some ⟨g, 0, none⟩), .int .i64 s] w (Says (.int .i64 (orgE c s)) w) := by
  have hc := rClient_any h s hs
  rcases hb : clB c s with _ | _
  · have ho : orgE c s = -1 := by unfold orgE; rw [hb]; rfl
    rw [ho]
    rw [hb] at hc
    clear hb
    go_enter Try.func37, Try.ntmps37
    go_wp2_with (first
      | (go_at_call 48; refine hc.mono ?_; rintro e w' ⟨rfl, rfl⟩))
    go_ret
    exact ⟨rfl, rfl⟩
  · have ho : orgE c s = (s - 1000) % 4 := by unfold orgE; rw [hb]; rfl
    have hge : 1000 ≤ s := by unfold clB at hb; simp at hb; omega
    have hw : IntKind.i64.wrap (s - 1000) = s - 1000 := by have := hs.1; have := hs.2; rw [IntKind.wrap_i64]; omega
    rw [ho]
    rw [hb] at hc
    clear hb
    go_enter Try.func37, Try.ntmps37
    go_wp2_with (first
      | (go_at_call 48; refine hc.mono ?_; rintro e w' ⟨rfl, rfl⟩))
    go_ret
    exact ⟨rfl, rfl⟩
theorem rKnown_any (h : RaH w g f c v) (s : Int) (hs : ok64 s) : Calls Try.prog 39 #[.pointer (some ⟨g, 0, none⟩), .int .i64 s] w (Says (.bool (knB f c s)) w) := by
  have hr := rReplica_any h s
  have hc := rClient_any h s hs
  unfold knB
  rcases hb : repB f s with _ | _
  · rw [hb] at hr
    rw [Bool.false_or]
    clear hb
    go_enter Try.func39, Try.ntmps39
    go_wp2_with (first
      | (go_at_call 41; refine hr.mono ?_; rintro e w' ⟨rfl, rfl⟩)
      | (go_at_call 48; refine hc.mono ?_; rintro e w' ⟨rfl, rfl⟩))
    go_ret
    exact ⟨rfl, rfl⟩
  · rw [hb] at hr
    rw [Bool.true_or]
    clear hb
    go_enter Try.func39, Try.ntmps39
    go_wp2_with (first
      | (go_at_call 41; refine hr.mono ?_; rintro e w' ⟨rfl, rfl⟩))
    go_ret
    exact ⟨rfl, rfl⟩
end
end Go.Proofs.Ytlbbehhjehpefaa
