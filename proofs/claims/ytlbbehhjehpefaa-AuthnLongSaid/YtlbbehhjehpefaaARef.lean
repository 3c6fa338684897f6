/- Layer 3: the document's authority: made, asked; envelopes that are the same. -/
import Derived.Test.YtlbbehhjehpefaaAEnv
namespace Go.Proofs.Ytlbbehhjehpefaa
open Go.RowKit
set_option linter.unusedVariables false

/-- what the document's New leaves -/
def MakesR (F C : Int) (w : World) (e : Ending) (w' : World) : Prop :=
  ∃ g v, e = .returned (.pointer (some ⟨g, 0, none⟩)) ∧ w.heap.size ≤ g ∧ DT w' g (max 0 (min F 2)) (max 0 (min C 8)) v [] (fun k => w.heap.size ≤ k) ∧ Below w.heap.size w w'
theorem rnew_end (F C f c : Int) (w : World) (hf : max 0 (min F 2) = f) (hc : max 0 (min C 8) = c) :
    MakesR F C w (Ending.returned (Value.pointer (some ⟨w.heap.size, 0, none⟩))) (w.alloc (.cells #[.bool true, .int .i64 f, .int .i64 c, .slice none 0 0] 47)) := by
  unfold MakesR
  rw [hf, hc]
  exact ⟨w.heap.size, .slice none 0 0, rfl, Nat.le_refl _, ⟨⟨heap_alloc_new _ _, by omega, by omega, by omega, by omega⟩, World.ownsRow_nil _ _ _ _, (by intro p hp; cases hp), Nat.le_refl _, (by intro k hk; cases hk)⟩, (Below.refl _ _).alloc (Nat.le_refl _) _⟩
theorem rNew_any (F C : Int) (w : World) : Calls Try.prog 11 #[.int .i64 F, .int .i64 C] w (MakesR F C w) := by
  go_enter Try.func11, Try.ntmps11
  go_wp2
  all_goals
    go_ret
    refine rnew_end F C _ _ w ?_ ?_ <;> omega

theorem drewN_below {w w' : World} {n : Nat} (h : w' = w.drewN n) : Below w.heap.size w w' := by rw [h]; exact below_drewN (Below.refl _ _) n

theorem has_step {E : List Tri} {s : Int} {l : List UInt8} {k : Nat} (hlt : k < E.length) (hall : ∀ p ∈ E.take k, (p.1, p.2.1) ≠ (s, l)) (hne : (E[k].1, E[k].2.1) ≠ (s, l)) : ∀ p ∈ E.take (k + 1), (p.1, p.2.1) ≠ (s, l) := by
  intro p hp
  rw [List.take_succ_eq_append_getElem hlt] at hp
  rcases List.mem_append.1 hp with hp | hp
  · exact hall p hp
  · rw [List.mem_singleton.1 hp]; exact hne
theorem has_end {E : List Tri} {s : Int} {l : List UInt8} (hall : ∀ p ∈ E.take E.length, (p.1, p.2.1) ≠ (s, l)) : decide ((s, l) ∈ pairsT E) = false := by
  rw [List.take_length] at hall
  simp only [decide_eq_false_iff_not, pairsT, List.mem_map, not_exists, not_and]
  exact fun p hp e => hall p hp e
theorem has_hit {E : List Tri} {s : Int} {l : List UInt8} {k : Nat} (hlt : k < E.length) (h1 : E[k].1 = s) (h2 : E[k].2.1 = l) : decide ((s, l) ∈ pairsT E) = true := by
  simp only [decide_eq_true_eq, pairsT, List.mem_map]
  exact ⟨E[k], List.getElem_mem hlt, by rw [h1, h2]⟩

set_option maxHeartbeats 1000000 in
theorem Has_any (g : Nat) (f c s : Int) (v y : Value) (l : List UInt8) (E : List Tri) (S : Nat → Prop) (w : World) (h : DT w g f c v E S) (hv : Bs w y l) :
    Calls Try.prog 42 #[.pointer (some ⟨g, 0, none⟩), .agg #[.int .i64 s, y]] w fun e w' => e = .returned (.bool (decide ((s, l) ∈ pairsT E))) ∧ Below w.heap.size w w' := by
  obtain ⟨A0, cc0, rfl, -⟩ := hv.open
  have HV := Lib.hid hv
  have H := Lib.hid h
  obtain ⟨A, cp, rfl, hcp, hmx, -⟩ := h.open
  have hEl : E.length ≤ 9223372036854775807 := by have := hmx; unfold maxLen at this; omega
  have hev : ∀ W, Below (w.alloc (.cells #[.int .i64 s, .slice A0 l.length cc0] 40)).heap.size (w.alloc (.cells #[.int .i64 s, .slice A0 l.length cc0] 40)) W → Ev W w.heap.size (.int .i64 s) (.slice A0 l.length cc0) := fun W hb => Ev.below (heap_alloc_new _ _) hb
  have HE := Lib.hid hev
  have hb0 : Below w.heap.size w (w.alloc (.cells #[.int .i64 s, .slice A0 l.length cc0] 40)) := (Below.refl _ _).alloc (Nat.le_refl _) _
  clear hv h hcp hmx hev
  go_enter Try.func42, Try.ntmps42
  go_wp2
  generalize w.alloc (.cells #[.int .i64 s, .slice A0 l.length cc0] 40) = w1 at *
  go_loopw [5] (fun i wr => ∃ k : Nat, k ≤ E.length ∧ i = .int .i64 k ∧ (∀ p ∈ E.take k, (p.1, p.2.1) ≠ (s, l)) ∧ Below w1.heap.size w1 wr) (fun i _ => E.length - (intOf i).toNat)
  case atStart => exact ⟨0, Nat.zero_le _, rfl, (by simp), Below.refl _ _⟩
  case round =>
    obtain ⟨k, hk, rfl, hall, hbel⟩ := hrel
    have hD := H.out.below (hb0.trans (hbel.mono hb0.size))
    obtain ⟨c0, c1, c2, c3⟩ := hD.head.open
    obtain ⟨e0, e1, -⟩ := (HE.out wr hbel).open
    have HALL := Lib.hid hall
    clear hall
    by_cases hlt : k < E.length
    · obtain ⟨A', c', e, -, -, hx⟩ := hD.open
      injection e with e e2 e3
      subst e
      clear e2 e3
      obtain ⟨ad, rfl, x0, x1, hbx⟩ := hx k hlt
      clear hx
      have HD := Lib.hid hD
      clear hD
      have hby := HV.out.below (hb0.trans (hbel.mono hb0.size)) (Nat.le_refl _)
      by_cases hs : E[k].1 = s
      · have hd : decide (E[k].1 = s) = true := by simpa using hs
        by_cases hl : E[k].2.1 = l
        · have hsm : ∀ n, Calls Try.prog 21 #[E[k].2.2, .slice A0 l.length cc0] (wr.drewN n) fun e w' => e = .returned (.bool true) ∧ w' = wr.drewN n :=
            fun n => (Same_any _ _ _ _ (wr.drewN n) (Rd.drewN hbx n) (Rd.drewN hby n)).mono fun e w' h => ⟨by rw [h.1]; exact ret_bool (by simpa using hl), h.2.symm⟩
          have HIT := Lib.hid (has_hit hlt hs hl)
          clear hl
          go_wp2
          go_quiet (first | (go_at_call 21; exact Calls.quiet_of_same (hsm _)))
          go_wp2
          go_ret
          exact ⟨ret_bool HIT.out.symm, below_drewN (hb0.trans (hbel.mono hb0.size)) _⟩
        · have hsm : ∀ n, Calls Try.prog 21 #[E[k].2.2, .slice A0 l.length cc0] (wr.drewN n) fun e w' => e = .returned (.bool false) ∧ w' = wr.drewN n :=
            fun n => (Same_any _ _ _ _ (wr.drewN n) (Rd.drewN hbx n) (Rd.drewN hby n)).mono fun e w' h => ⟨by rw [h.1]; exact ret_bool (by simpa using hl), h.2.symm⟩
          have HST := Lib.hid (has_step hlt HALL.out (fun e => hl (Prod.mk.inj e).2))
          clear hl
          go_wp2
          go_quiet (first | (go_at_call 21; exact Calls.quiet_of_same (hsm _)))
          go_wp2
          go_roundw
          case rel => exact ⟨k + 1, by omega, by go_num, HST.out, below_drewN hbel _⟩
          case measure => simp [intOf]; omega
      · have hd : decide (E[k].1 = s) = false := by simpa using hs
        have HST := Lib.hid (has_step hlt HALL.out (fun e => hs (Prod.mk.inj e).1))
        go_wp2
        go_quiet (fail)
        go_wp2
        go_roundw
        case rel => exact ⟨k + 1, by omega, by go_num, HST.out, below_drewN hbel _⟩
        case measure => simp [intOf]; omega
    · obtain rfl : k = E.length := by omega
      have HEND := Lib.hid (has_end HALL.out)
      go_wp2
      go_ret
      exact ⟨ret_bool HEND.out.symm, hb0.trans (hbel.mono hb0.size)⟩

theorem rCheck_any (g : Nat) (f c s : Int) (v y : Value) (l : List UInt8) (E : List Tri) (S : Nat → Prop) (w : World) (h : DT w g f c v E S) (hs : ok64 s) (hv : Bs w y l) :
    Calls Try.prog 17 #[.pointer (some ⟨g, 0, none⟩), .agg #[.int .i64 s, y]] w fun e w' => e = .returned (.int .i64 (checkE f c s l (pairsT E))) ∧ Below w.heap.size w w' := by
  obtain ⟨A0, cc0, rfl, -⟩ := hv.open
  have hb0 : Below w.heap.size w (w.alloc (.cells #[.int .i64 s, .slice A0 l.length cc0] 40)) := (Below.refl _ _).alloc (Nat.le_refl _) _
  have hk := rKnown_any (h.below hb0).head s hs
  have hh := Has_any g f c s v _ l E S _ (h.below hb0) (hv.below hb0 (Nat.le_refl _))
  rcases hkn : knB f c s with _ | _
  · rw [checkE_no hkn]
    rw [hkn] at hk
    have HB := Lib.hid hv
    have HK := Lib.hid hk
    clear hk hv hh h hkn
    go_enter Try.func17, Try.ntmps17
    go_wp2_with (first
      | (go_at_call 39; refine HK.out.mono ?_; rintro e w' ⟨rfl, rfl⟩))
    go_ret
    exact ⟨rfl, (Below.refl _ _).alloc (Nat.le_refl _) _⟩
  · rcases hm : decide ((s, l) ∈ pairsT E) with _ | _
    · rw [checkE_not hkn hm]
      rw [hkn] at hk
      rw [hm] at hh
      have HH := Lib.hid hh
      have HK := Lib.hid hk
      clear hk hv hh h hkn hm
      go_enter Try.func17, Try.ntmps17
      go_wp2_with (first
        | (go_at_call 39; refine HK.out.mono ?_; rintro e w' ⟨rfl, hww⟩; rw [hww]; clear hww w')
        | (go_at_call 42; refine HH.out.mono ?_; rintro e w' ⟨rfl, hb1⟩))
      go_ret
      exact ⟨rfl, hb0.trans (hb1.mono hb0.size)⟩
    · rw [checkE_yes hkn hm]
      rw [hkn] at hk
      rw [hm] at hh
      have HH := Lib.hid hh
      have HK := Lib.hid hk
      clear hk hv hh h hkn hm
      go_enter Try.func17, Try.ntmps17
      go_wp2_with (first
        | (go_at_call 39; refine HK.out.mono ?_; rintro e w' ⟨rfl, hww⟩; rw [hww]; clear hww w')
        | (go_at_call 42; refine HH.out.mono ?_; rintro e w' ⟨rfl, hb1⟩))
      go_ret
      exact ⟨rfl, hb0.trans (hb1.mono hb0.size)⟩

/-- envelopes that are the same -/
theorem rSame_yes (s : Int) (x y : Value) (l : List UInt8) (w : World) (hx : Bs w x l) (hy : Bs w y l) :
    Calls Try.prog 20 #[.agg #[.int .i64 s, x], .agg #[.int .i64 s, y]] w fun e w' => e = .returned (.bool true) ∧ Below w.heap.size w w' := by
  have HX := Lib.hid hx
  have HY := Lib.hid hy
  obtain ⟨A, a, rfl, -⟩ := hx.open
  obtain ⟨B, b, rfl, -⟩ := hy.open
  have hsm : ∀ W, Below w.heap.size w W → Calls Try.prog 21 #[.slice A l.length a, .slice B l.length b] W fun e w' => e = .returned (.bool true) ∧ W = w' := fun W hb =>
    (Same_any _ _ l l W (HX.out.below hb (Nat.le_refl _)) (HY.out.below hb (Nat.le_refl _))).mono fun e w' h => ⟨by rw [h.1]; exact ret_bool (by simp), h.2⟩
  have HS := Lib.hid hsm
  have hb2 : Below w.heap.size w ((w.alloc (.cells #[.int .i64 s, .slice A l.length a] 40)).alloc (.cells #[.int .i64 s, .slice B l.length b] 40)) := ((Below.refl _ _).alloc (Nat.le_refl _) _).alloc (by simp) _
  clear hx hy hsm
  go_enter Try.func20, Try.ntmps20
  go_wp2_with (first
    | (go_at_call 21; refine (HS.out _ hb2).mono ?_; rintro e w' ⟨rfl, rfl⟩))
  go_ret
  exact ⟨rfl, hb2⟩

end Go.Proofs.Ytlbbehhjehpefaa
