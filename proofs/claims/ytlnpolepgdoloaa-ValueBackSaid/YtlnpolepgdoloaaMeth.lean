/- Package wire's reader: its methods. -/
import Derived.Test.YtlnpolepgdoloaaStep
namespace Go.Proofs.Ytlnpolepgdoloaa
open Go.RowKit
set_option linter.unusedVariables false

/-- what a method leaves of a reader: the value, what is left, the error -/
def Did (g : Nat) (v : Value) (rest : List UInt8) (err : Int) (w : World) (e : Ending) (w' : World) : Prop := e = .returned v ∧ RdR w' g rest err ∧ Only g w w'

def alInt : Int → Int := ceilE 18446744073709551615 0
def alBool : Int → Int := ceilE 1 12
def alCount (most : Int) : Int → Int := ceilE (max most 0) 11
def alNum : Int → Int := fun x => floatE x.toNat

theorem Err_any (g : Nat) (rest : List UInt8) (err : Int) (w : World) (hr : RdR w g rest err) :
    Calls Try.prog 66 #[.pointer (some ⟨g, 0, none⟩)] w fun e w' => e = .returned (.int .i64 err) ∧ w = w' := by
  obtain ⟨A, c, -, -, -, -, hc0, hc1, hf, hgl⟩ := hr.open
  clear hr
  go_enter Try.func66, Try.ntmps66
  go_wp2
  go_ret
  exact ⟨rfl, rfl⟩
theorem Err_nil (w : World) : Calls Try.prog 66 #[.pointer none] w fun e w' => e = .returned (.int .i64 0) ∧ w = w' := by
  go_enter Try.func66, Try.ntmps66
  go_wp2
  go_ret
  exact ⟨rfl, rfl⟩
theorem Left_any (g : Nat) (rest : List UInt8) (err : Int) (w : World) (hr : RdR w g rest err) :
    Calls Try.prog 38 #[.pointer (some ⟨g, 0, none⟩)] w fun e w' => e = .returned (.int .i64 rest.length) ∧ w = w' := by
  obtain ⟨A, c, -, -, -, -, hc0, hc1, hf, hgl⟩ := hr.open
  clear hr
  go_enter Try.func38, Try.ntmps38
  go_wp2
  go_ret
  exact ⟨rfl, rfl⟩
theorem Left_nil (w : World) : Calls Try.prog 38 #[.pointer none] w fun e w' => e = .returned (.int .i64 0) ∧ w = w' := by
  go_enter Try.func38, Try.ntmps38
  go_wp2
  go_ret
  exact ⟨rfl, rfl⟩

/-- the end -/
def endE (rest : List UInt8) (err : Int) : Int := if err = 0 ∧ rest ≠ [] then 13 else err
theorem Int_any (g : Nat) (rest : List UInt8) (err : Int) (w : World) (hr : RdR w g rest err) :
    Calls Try.prog 92 #[.pointer (some ⟨g, 0, none⟩)] w
      (Did g (.int .i64 (wrap64 (stepF 8 alInt rest err).1)) (stepF 8 alInt rest err).2.1 (stepF 8 alInt rest err).2.2 w) := by
  go_enter Try.func92, Try.ntmps92
  go_wp2_with (go_at_call 105; refine (step_ceil g rest err 8 _ _ _ hr (by omega) (by omega)).mono ?_; rintro e w' ⟨rfl, hr', ho⟩)
  go_ret
  exact ⟨rfl, hr', ho⟩
theorem Bool_any (g : Nat) (rest : List UInt8) (err : Int) (w : World) (hr : RdR w g rest err) :
    Calls Try.prog 93 #[.pointer (some ⟨g, 0, none⟩)] w
      (Did g (.bool (decide ((stepF 1 alBool rest err).1 = 1))) (stepF 1 alBool rest err).2.1 (stepF 1 alBool rest err).2.2 w) := by
  go_enter Try.func93, Try.ntmps93
  go_wp2_with (go_at_call 105; refine (step_ceil g rest err 1 _ _ _ hr (by omega) (by omega)).mono ?_; rintro e w' ⟨rfl, hr', ho⟩)
  go_ret
  exact ⟨ret_bool (by rw [Bool.eq_iff_iff, beq_iff_eq, decide_eq_true_iff]; exact Int.ofNat_inj (n := 1)), hr', ho⟩
theorem Num_any (g : Nat) (rest : List UInt8) (err : Int) (w : World) (hr : RdR w g rest err) :
    Calls Try.prog 95 #[.pointer (some ⟨g, 0, none⟩)] w
      (Did g (.float .f64 (stepF 8 alNum rest err).1) (stepF 8 alNum rest err).2.1 (stepF 8 alNum rest err).2.2 w) := by
  have hfb := from_bits
  go_enter Try.func95, Try.ntmps95
  go_wp2_with (first | (go_at_call 105; refine (step_floats g rest err 8 _ hr (by omega) (by omega)).mono ?_; rintro e w' ⟨rfl, hr', ho⟩))
  go_ret
  exact ⟨by simp; rfl, hr', ho⟩

theorem Int_nil (w : World) : Calls Try.prog 92 #[.pointer none] w fun e w' => e = .returned (.int .i64 0) ∧ w = w' := by
  go_enter Try.func92, Try.ntmps92
  go_wp2_with (go_at_call 105; refine (step_nil _ _ _).mono ?_; rintro e w' ⟨rfl, rfl⟩)
  go_ret
  exact ⟨rfl, rfl⟩
theorem Bool_nil (w : World) : Calls Try.prog 93 #[.pointer none] w fun e w' => e = .returned (.bool false) ∧ w = w' := by
  go_enter Try.func93, Try.ntmps93
  go_wp2_with (go_at_call 105; refine (step_nil _ _ _).mono ?_; rintro e w' ⟨rfl, rfl⟩)
  go_ret
  exact ⟨rfl, rfl⟩
theorem Num_nil (w : World) : Calls Try.prog 95 #[.pointer none] w fun e w' => e = .returned (.float .f64 0) ∧ w = w' := by
  have hfb := from_bits
  go_enter Try.func95, Try.ntmps95
  go_wp2_with (first | (go_at_call 105; refine (step_nil _ _ _).mono ?_; rintro e w' ⟨rfl, rfl⟩))
  go_ret
  exact ⟨rfl, rfl⟩

theorem atMost_any (most : Int) (h0 : -9223372036854775808 ≤ most) (h1 : most ≤ 9223372036854775807) (w : World) :
    Calls Try.prog 107 #[.int .i64 most] w fun e w' => e = .returned (.agg #[.int .u64 (max most 0), .int .i64 11]) ∧ Below w.heap.size w w' := by
  rcases (show most < 0 ∨ most = 0 ∨ 0 < most by omega) with h | rfl | h
  · rw [show max most 0 = 0 by omega]
    go_enter Try.func107, Try.ntmps107
    go_wp2
    exact bodyPost_ret (v := .agg #[.int .u64 0, .int .i64 11]) (by simp [results, Try.results107, go_sem]) rfl ⟨rfl, (Below.refl _ _).alloc (Nat.le_refl _) _⟩
  · rw [show max (0 : Int) 0 = 0 by omega]
    go_enter Try.func107, Try.ntmps107
    go_wp2
    exact bodyPost_ret (v := .agg #[.int .u64 0, .int .i64 11]) (by simp [results, Try.results107, go_sem]) rfl ⟨rfl, (Below.refl _ _).alloc (Nat.le_refl _) _⟩
  · rw [show max most 0 = most by omega]
    go_enter Try.func107, Try.ntmps107
    go_wp2
    exact bodyPost_ret (v := .agg #[.int .u64 most, .int .i64 11]) (by simp [results, Try.results107, go_sem]) rfl ⟨rfl, (Below.refl _ _).alloc (Nat.le_refl _) _⟩

theorem RdR.keepBs {w : World} {g : Nat} {rest l : List UInt8} {err : Int} {v : Value} (h : RdR w g rest err) (hv : Bs w v l) (j : Nat) (u : Value) : Bs (w.setCell ⟨g, j, none⟩ u) v l := by
  obtain ⟨rv, hh, hb⟩ := h
  obtain ⟨A, c, rfl, -⟩ := hb.1.open
  exact hv.set hh (no_bytes _ _ _ _) _ _

/-- what Bytes does -/
def alBytes (most : Int) (rest : List UInt8) : Int → Int := roomE (max most 0) 11 rest.length
def bytesF (most : Int) (rest : List UInt8) (err : Int) : List UInt8 × List UInt8 × Int :=
  if (stepF 4 (alBytes most rest) rest err).1 = 0 then ([], (stepF 4 (alBytes most rest) rest err).2)
  else ((stepF 4 (alBytes most rest) rest err).2.1.take (stepF 4 (alBytes most rest) rest err).1, (stepF 4 (alBytes most rest) rest err).2.1.drop (stepF 4 (alBytes most rest) rest err).1, (stepF 4 (alBytes most rest) rest err).2.2)

theorem stepF_room (most : Int) (rest : List UInt8) (err : Int) : (stepF 4 (alBytes most rest) rest err).1 ≤ (stepF 4 (alBytes most rest) rest err).2.1.length := by
  unfold stepF
  split
  · simp
  split
  · simp
  split
  · simp
  · rename_i h1 h2 h3
    have h3 := Decidable.not_not.1 h3
    unfold alBytes roomE at h3
    split at h3
    · split at h3
      · simp at h3
      · simp only [List.length_drop]; omega
    · rename_i h4; exact absurd h3 h4

def DidB (g : Nat) (l rest : List UInt8) (err : Int) (w : World) (e : Ending) (w' : World) : Prop := ∃ v, e = .returned v ∧ Bs w' v l ∧ RdR w' g rest err ∧ Only g w w'

/-- .. and the row lies in new memory -/
def DidN (g : Nat) (l rest : List UInt8) (err : Int) (w : World) (e : Ending) (w' : World) : Prop := ∃ v, e = .returned v ∧ Bs w' v l ∧ RdR w' g rest err ∧ Only g w w' ∧ New w.heap.size v

set_option maxHeartbeats 400000 in
theorem Bytes_new (g : Nat) (rest : List UInt8) (err most : Int) (h0 : -9223372036854775808 ≤ most) (h1 : most ≤ 9223372036854775807) (w : World) (hr : RdR w g rest err) (hl : rest.length ≤ 140737488355320) :
    Calls Try.prog 94 #[.pointer (some ⟨g, 0, none⟩), .int .i64 most] w
      (DidN g (bytesF most rest err).1 (bytesF most rest err).2.1 (bytesF most rest err).2.2 w) := by
  have hroom := stepF_room most rest err
  have hlen : (stepF 4 (alBytes most rest) rest err).2.1.length ≤ rest.length := by
    unfold stepF
    split
    · simp
    split
    · simp
    split
    · simp
    · simp only [List.length_drop]; omega
  have hstep : ∀ W : World, RdR W g rest err → Calls Try.prog 105 #[.pointer (some ⟨g, 0, none⟩), .int .i64 4, .func (.func 108) #[.agg #[.int .u64 (max most 0), .int .i64 11, .int .u64 rest.length]] #[]] W (Steps g 4 (alBytes most rest) rest err W) :=
    fun W h => step_room g rest err 4 (max most 0) 11 rest.length W h (by omega) (by omega) (by omega)
  have hlt : (stepF 4 (alBytes most rest) rest err).1 ≤ 140737488355320 := by omega
  unfold Steps at hstep
  unfold bytesF
  generalize stepF 4 (alBytes most rest) rest err = s at *
  obtain ⟨n, r2, e2⟩ := s
  simp only at hroom hlen hstep hlt ⊢
  have HSTEP := Lib.hid hstep
  clear hstep
  by_cases hn : n = 0
  · subst hn
    rw [if_pos rfl]
    go_enter Try.func94, Try.ntmps94
    go_wp2_with (first
      | (go_at_call 107; refine (atMost_any most h0 h1 _).mono ?_; rintro e w1 ⟨rfl, hb1⟩)
      | (go_at_call 38; refine (Left_any g rest err _ (hr.below hb1)).mono ?_; rintro e w' ⟨rfl, rfl⟩)
      | (go_at_call 105; refine (HSTEP.out _ (hr.below hb1)).mono ?_; rintro e w2 ⟨rfl, hr2, ho2⟩))
    go_ret
    exact ⟨_, rfl, Bs.nil _, hr2, ((Only.refl g w).below hb1).trans ho2, New.nil _⟩
  · rw [if_neg hn]
    have hz : ((n : Int) == 0) = false := by simpa using hn
    go_enter Try.func94, Try.ntmps94
    go_wp2_with (first
      | (go_at_call 107; refine (atMost_any most h0 h1 _).mono ?_; rintro e w1 ⟨rfl, hb1⟩)
      | (go_at_call 38; refine (Left_any g rest err _ (hr.below hb1)).mono ?_; rintro e w' ⟨rfl, rfl⟩)
      | (go_at_call 105; refine (HSTEP.out _ (hr.below hb1)).mono ?_; rintro e w2 ⟨rfl, hr2, ho2⟩; obtain ⟨A, c, hb, hc, hm, hx, hc0, hc1, hf, hgl⟩ := hr2.open; obtain ⟨ad, rfl⟩ := hx (by rintro rfl; simp at hroom; omega); clear hx)
      | (go_at_call 64; refine (Clone_new _ (r2.take n) _ (hb.1.take hroom) (by simp; omega)).mono ?_; rintro e w3 ⟨v3, rfl, h3, hb3, hnw3, -⟩; replace hnw3 := hnw3.mono (((Only.refl g w).below hb1).trans ho2).size; have hd0 := (hb3.cell (p := ⟨g, 0, none⟩) hgl).trans hc0; have hf1 := fun j => (hb3.frozen (p := ⟨g, j, none⟩) hgl).trans (hf j)))
    · have e : c = n := by assumption
      have hd := hb.drop (k := n) hroom
      rw [if_pos e, show c - n = 0 by omega] at hd
      go_ret
      exact ⟨_, rfl, (hr2.below hb3).keepBs h3 _ _, (hr2.below hb3).setRest _ (hd.below hb3 (Nat.le_refl _)), (Only.below (((Only.refl g w).below hb1).trans ho2) hb3).set _ _, hnw3⟩
    · have e : ¬c = n := by assumption
      have hd := hb.drop (k := n) hroom
      rw [if_neg e] at hd
      go_ret
      exact ⟨_, rfl, (hr2.below hb3).keepBs h3 _ _, (hr2.below hb3).setRest _ (hd.below hb3 (Nat.le_refl _)), (Only.below (((Only.refl g w).below hb1).trans ho2) hb3).set _ _, hnw3⟩

theorem Bytes_any (g : Nat) (rest : List UInt8) (err most : Int) (h0 : -9223372036854775808 ≤ most) (h1 : most ≤ 9223372036854775807) (w : World) (hr : RdR w g rest err) (hl : rest.length ≤ 140737488355320) :
    Calls Try.prog 94 #[.pointer (some ⟨g, 0, none⟩), .int .i64 most] w
      (DidB g (bytesF most rest err).1 (bytesF most rest err).2.1 (bytesF most rest err).2.2 w) :=
  (Bytes_new g rest err most h0 h1 w hr hl).mono fun _ _ ⟨v, h1, h2, h3, h4, _⟩ => ⟨v, h1, h2, h3, h4⟩

theorem Bytes_nil (most : Int) (h0 : -9223372036854775808 ≤ most) (h1 : most ≤ 9223372036854775807) (w : World) : Calls Try.prog 94 #[.pointer none, .int .i64 most] w fun e w' => e = .returned (.slice none 0 0) ∧ Below w.heap.size w w' := by
  have hz : ((0 : Int) == 0) = true := rfl
  go_enter Try.func94, Try.ntmps94
  go_wp2_with (first
      | (go_at_call 107; refine (atMost_any most h0 h1 _).mono ?_; rintro e w1 ⟨rfl, hb1⟩)
      | (go_at_call 38; refine (Left_nil _).mono ?_; rintro e w' ⟨rfl, rfl⟩)
      | (go_at_call 105; refine (step_nil _ _ _).mono ?_; rintro e w' ⟨rfl, rfl⟩))
  go_ret
  exact ⟨rfl, hb1⟩
end Go.Proofs.Ytlnpolepgdoloaa
