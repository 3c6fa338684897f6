/- Layer 2: TermApart, TermNests. -/
import Derived.Test.YteancgimgffkpaaTLaws3
namespace Go.Proofs.Yteancgimgffkpaa
open Go.RowKit
set_option linter.unusedVariables false

theorem byte_eq {s t : UInt8} (h : s ≠ t) : ((s.toNat : Int) == (t.toNat : Int)) = false := by
  simp
  intro e
  exact h (UInt8.toNat_inj.1 (by omega))
theorem strB_ne {l m : List UInt8} (h : l ≠ m) : ((strB l).toList == (strB m).toList) = false := by
  rw [strB_list, strB_list]
  simpa using h

set_option maxHeartbeats 1000000 in
theorem TermApart_any (s t : UInt8) (v y : Value) (ls ms : List (List UInt8)) (w : World) (hv : Bss w v ls) (hy : Bss w y ms) :
    Calls Try.prog 7 #[.agg #[.int .u8 (s.toNat : Int), .int .u8 (t.toNat : Int)], v, y] w (Yes w) := by
  have HV := Lib.hid hv
  have HY := Lib.hid hy
  clear hv hy
  have hfew : ∀ w', Below w.heap.size w w' → Calls Try.prog 9 #[v] w' fun e w'' => e = .returned (.bool (fewL ls)) ∧ w' = w'' := fun w' h => few2_any v ls w' (HV.out.below h (Nat.le_refl _))
  have hfew2 : ∀ w', Below w.heap.size w w' → Calls Try.prog 9 #[y] w' fun e w'' => e = .returned (.bool (fewL ms)) ∧ w' = w'' := fun w' h => few2_any y ms w' (HY.out.below h (Nat.le_refl _))
  have hB : ∀ n, Below w.heap.size w ((w.alloc (.cells #[.int .u8 (s.toNat : Int), .int .u8 (t.toNat : Int)] 40)).drewN n) := fun n => below_drewN ((Below.refl _ _).alloc (Nat.le_refl _) _) _
  rcases hf : fewL ls with _ | _
  · rw [hf] at hfew
    have HF := Lib.hid hfew
    clear hf hfew hfew2
    go_enter Try.func7, Try.ntmps7
    go_wp2
    go_quiet (fail)
    go_wp2_with (go_at_call 9; refine (HF.out _ (hB _)).mono ?_; rintro e w' ⟨rfl, rfl⟩)
    go_ret
    exact ⟨rfl, hB _⟩
  rcases hf2 : fewL ms with _ | _
  · rw [hf] at hfew
    rw [hf2] at hfew2
    have HF := Lib.hid hfew
    have HF2 := Lib.hid hfew2
    clear hf hfew hf2 hfew2
    go_enter Try.func7, Try.ntmps7
    go_wp2
    go_quiet (fail)
    go_wp2_with (first
      | (go_at_call_of 9 (v); refine (HF.out _ (hB _)).mono ?_; rintro e w' ⟨rfl, rfl⟩)
      | (go_at_call_of 9 (y); refine (HF2.out _ (hB _)).mono ?_; rintro e w' ⟨rfl, rfl⟩))
    go_ret
    exact ⟨rfl, hB _⟩
  rw [hf] at hfew
  rw [hf2] at hfew2
  have HF := Lib.hid hfew
  have HF2 := Lib.hid hfew2
  have HW := Lib.hid hf
  have HW2 := Lib.hid hf2
  have hinj : ∀ {a b : UInt8}, encT a ls = encT b ms → a = b ∧ ls = ms := by
    obtain ⟨a1, a2, a3⟩ := fewL_enc 0 hf
    obtain ⟨b1, b2, b3⟩ := fewL_enc 0 hf2
    exact fun h => encT_inj (by omega) (fun l hl => by have := a2 l hl; omega) (by omega) (fun l hl => by have := b2 l hl; omega) h
  by_cases hst : s = t
  · subst hst
    by_cases hlm : ls = ms
    · subst hlm
      have HPY : ∀ w', Below w.heap.size w w' → Calls Try.prog 13 #[v, y] w' (Yes w') := fun w' h => Parts_yes v y ls w' (HV.out.below h (Nat.le_refl _)) (HY.out.below h (Nat.le_refl _))
      have HP := Lib.hid HPY
      clear hinj hf hf2 hfew hfew2 HPY
      go_enter Try.func7, Try.ntmps7
      go_wp2
      go_quiet (fail)
      go_wp2_with (first
        | (go_at_call_of 9 (v); refine (HF.out _ (hB _)).mono ?_; rintro e w' ⟨rfl, rfl⟩)
        | (go_at_call_of 9 (y); refine (HF2.out _ (hB _)).mono ?_; rintro e w' ⟨rfl, rfl⟩)
        | (go_at_call_of 10 (v); refine (twin_few v ls _ (HV.out.below (hB _) (Nat.le_refl _)) HW.out).mono ?_; rintro e w1 ⟨v1, rfl, hv1, hb1⟩; have B1 := (hB nq).trans (hb1.mono (hB nq).size))
        | (go_at_call_of 11 (v1); refine (Of_few s v1 ls _ hv1 HW.out).mono ?_; rintro e w2 ⟨rfl, hb2⟩; have B2 := B1.trans (hb2.mono B1.size))
        | (go_at_call_of 10 (y); refine (twin_few y ls _ (HY.out.below B2 (Nat.le_refl _)) HW2.out).mono ?_; rintro e w3 ⟨v3, rfl, hv3, hb3⟩; have B3 := B2.trans (hb3.mono B2.size))
        | (go_at_call_of 11 (v3); refine (Of_few s v3 ls _ hv3 HW2.out).mono ?_; rintro e w4 ⟨rfl, hb4⟩; have B4 := B3.trans (hb4.mono B3.size))
        | (go_at_call 13; refine (HP.out _ B4).mono ?_; rintro e w5 ⟨rfl, hb5⟩; have B5 := B4.trans (hb5.mono B4.size))
        | (go_at_call 14; refine (awake2_any _).mono ?_; rintro e w6 ⟨rfl, hb6⟩))
      go_ret
      exact ⟨rfl, B5.trans (hb6.mono B5.size)⟩
    · have hne := strB_ne (l := encT s ls) (m := encT s ms) (fun h => hlm (hinj h).2)
      have hpf : (ls == ms) = false := by simpa using hlm
      have HPY : ∀ w', Below w.heap.size w w' → Calls Try.prog 13 #[v, y] w' fun e w'' => e = .returned (.bool false) ∧ Below w'.heap.size w' w'' :=
        fun w' h => (Parts_any v y ls ms w' (HV.out.below h (Nat.le_refl _)) (HY.out.below h (Nat.le_refl _))).mono fun e w'' h => ⟨by rw [h.1, hpf], h.2⟩
      have HP := Lib.hid HPY
      clear hinj hf hf2 hfew hfew2 HPY hpf hlm
      go_enter Try.func7, Try.ntmps7
      go_wp2
      go_quiet (fail)
      go_wp2_with (first
        | (go_at_call_of 9 (v); refine (HF.out _ (hB _)).mono ?_; rintro e w' ⟨rfl, rfl⟩)
        | (go_at_call_of 9 (y); refine (HF2.out _ (hB _)).mono ?_; rintro e w' ⟨rfl, rfl⟩)
        | (go_at_call_of 10 (v); refine (twin_few v ls _ (HV.out.below (hB _) (Nat.le_refl _)) HW.out).mono ?_; rintro e w1 ⟨v1, rfl, hv1, hb1⟩; have B1 := (hB nq).trans (hb1.mono (hB nq).size))
        | (go_at_call_of 11 (v1); refine (Of_few s v1 ls _ hv1 HW.out).mono ?_; rintro e w2 ⟨rfl, hb2⟩; have B2 := B1.trans (hb2.mono B1.size))
        | (go_at_call_of 10 (y); refine (twin_few y ms _ (HY.out.below B2 (Nat.le_refl _)) HW2.out).mono ?_; rintro e w3 ⟨v3, rfl, hv3, hb3⟩; have B3 := B2.trans (hb3.mono B2.size))
        | (go_at_call_of 11 (v3); refine (Of_few s v3 ms _ hv3 HW2.out).mono ?_; rintro e w4 ⟨rfl, hb4⟩; have B4 := B3.trans (hb4.mono B3.size))
        | (go_at_call 13; refine (HP.out _ B4).mono ?_; rintro e w5 ⟨rfl, hb5⟩; have B5 := B4.trans (hb5.mono B4.size))
        | (go_at_call 14; refine (awake2_any _).mono ?_; rintro e w6 ⟨rfl, hb6⟩))
      go_ret
      exact ⟨rfl, B5.trans (hb6.mono B5.size)⟩
  · have hne := strB_ne (l := encT s ls) (m := encT t ms) (fun h => hst (hinj h).1)
    have hbe := byte_eq hst
    clear hinj hf hf2 hfew hfew2 hst
    go_enter Try.func7, Try.ntmps7
    go_wp2
    go_quiet (fail)
    go_wp2_with (first
      | (go_at_call_of 9 (v); refine (HF.out _ (hB _)).mono ?_; rintro e w' ⟨rfl, rfl⟩)
      | (go_at_call_of 9 (y); refine (HF2.out _ (hB _)).mono ?_; rintro e w' ⟨rfl, rfl⟩)
      | (go_at_call_of 10 (v); refine (twin_few v ls _ (HV.out.below (hB _) (Nat.le_refl _)) HW.out).mono ?_; rintro e w1 ⟨v1, rfl, hv1, hb1⟩; have B1 := (hB nq).trans (hb1.mono (hB nq).size))
      | (go_at_call_of 11 (v1); refine (Of_few s v1 ls _ hv1 HW.out).mono ?_; rintro e w2 ⟨rfl, hb2⟩; have B2 := B1.trans (hb2.mono B1.size))
      | (go_at_call_of 10 (y); refine (twin_few y ms _ (HY.out.below B2 (Nat.le_refl _)) HW2.out).mono ?_; rintro e w3 ⟨v3, rfl, hv3, hb3⟩; have B3 := B2.trans (hb3.mono B2.size))
      | (go_at_call_of 11 (v3); refine (Of_few t v3 ms _ hv3 HW2.out).mono ?_; rintro e w4 ⟨rfl, hb4⟩; have B4 := B3.trans (hb4.mono B3.size))
      | (go_at_call 14; refine (awake2_any _).mono ?_; rintro e w6 ⟨rfl, hb6⟩))
    go_ret
    exact ⟨rfl, B4.trans (hb6.mono B4.size)⟩
end Go.Proofs.Yteancgimgffkpaa
