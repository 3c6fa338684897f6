/- Layer 2: TermNests. -/
import Derived.Test.YteancgimgffkpaaTLaws4
namespace Go.Proofs.Yteancgimgffkpaa
open Go.RowKit
set_option linter.unusedVariables false

theorem enc1_len (t : UInt8) (l : List UInt8) : (encT t [l]).length = 9 + l.length := by
  rw [encT_length]
  simp [partsB, partB, be_length]
  omega
theorem enc2_len (t : UInt8) (l m : List UInt8) : (encT t [l, m]).length = 13 + l.length + m.length := by
  rw [encT_length]
  simp [partsB, partB, be_length]
  omega

/-- a row of two, as a walk reads it -/
theorem Bss.open2 {w : World} {v : Value} {X Y : List UInt8} (h : Bss w v [X, Y]) : ∃ ad c x0 x1, v = .slice (some ad) 2 c ∧ w.cell? ad = some x0 ∧ w.cell? ⟨ad.block, ad.off + 1, none⟩ = some x1 ∧
    (convert 31 25 x0).run Try.prog w = .ok (.string (strB X)) w ∧ (convert 31 25 x1).run Try.prog w = .ok (.string (strB Y)) w := by
  obtain ⟨A, c, rfl, -, -, hx⟩ := h.open
  obtain ⟨ad, x0, rfl, -, hc0, hb0⟩ := hx 0 (by simp)
  obtain ⟨ad', x1, e, -, hc1, hb1⟩ := hx 1 (by simp)
  injection e with e
  subst e
  rw [Addr.add_zero'] at hc0
  exact ⟨ad, c, x0, x1, rfl, hc0, by simpa [Addr.add_succ'] using hc1, run_strD hb0, run_strD hb1⟩

set_option maxHeartbeats 1000000 in
theorem TermNests_any (s t : UInt8) (v y : Value) (a b : List UInt8) (w : World) (hv : Bs w v a) (hy : Bs w y b) :
    Calls Try.prog 8 #[.agg #[.int .u8 (s.toNat : Int), .int .u8 (t.toNat : Int)], v, y] w (Yes w) := by
  have hB : ∀ n, Below w.heap.size w ((w.alloc (.cells #[.int .u8 (s.toNat : Int), .int .u8 (t.toNat : Int)] 40)).drewN n) := fun n => below_drewN ((Below.refl _ _).alloc (Nat.le_refl _) _) _
  have HV := Lib.hid hv
  have HY := Lib.hid hy
  obtain ⟨A, c, rfl, -⟩ := hv.open
  obtain ⟨A2, c2, rfl, -⟩ := hy.open
  clear hv hy
  by_cases hs : a.length ≤ 2000 ∧ b.length ≤ 2000
  · obtain ⟨h1, h2⟩ := hs
    have hLA : ∀ w', Below w.heap.size w w' → Calls Try.prog 15 #[.int .u8 (s.toNat : Int), .slice A a.length c] w' (Tells (encT s [a]) w') := fun w' h => Leaf_any s _ a w' (HV.out.below h (Nat.le_refl _)) (by omega)
    have hLB : ∀ w', Below w.heap.size w w' → Calls Try.prog 15 #[.int .u8 (s.toNat : Int), .slice A2 b.length c2] w' (Tells (encT s [b]) w') := fun w' h => Leaf_any s _ b w' (HY.out.below h (Nat.le_refl _)) (by omega)
    have hSame : ∀ w', Below w.heap.size w w' → Calls Try.prog 21 #[.slice A a.length c, .slice A2 b.length c2] w' fun e w'' => e = .returned (.bool (a == b)) ∧ w' = w'' := fun w' h => Same_any _ _ a b w' (HV.out.below h (Nat.le_refl _)) (HY.out.below h (Nat.le_refl _))
    have hXY : encT s [a] = encT s [b] → a = b := fun h => by
      have := (encT_inj (by simp) (by simp; omega) (by simp) (by simp; omega) h).2
      simpa using this
    have hXl := enc1_len s a
    have hYl := enc1_len s b
    have hXe : a = b → encT s [a] = encT s [b] := fun h => by rw [h]
    generalize encT s [a] = X at *
    generalize encT s [b] = Y at *
    have hP : ∀ w', Calls Try.prog 17 #[.int .u8 (t.toNat : Int), .string (strB X), .string (strB Y)] w' (Tells (encT t [X, Y]) w') := fun w' => Pair_any t X Y w' (by omega) (by omega)
    have hQ : ∀ w', Calls Try.prog 17 #[.int .u8 (t.toNat : Int), .string (strB Y), .string (strB X)] w' (Tells (encT t [Y, X]) w') := fun w' => Pair_any t Y X w' (by omega) (by omega)
    have hO : ∀ w', Calls Try.prog 19 #[.string (strB (encT t [X, Y]))] w' (OpensTo t [X, Y] w') := fun w' => Open_some _ w' (by rw [enc2_len]; omega) t [X, Y] (openS_enc t [X, Y] (by simp) (by simp; omega))
    have hPl := enc2_len t X Y
    have hPQ : encT t [X, Y] = encT t [Y, X] → X = Y := fun h => by
      have := (encT_inj (by simp) (by simp; omega) (by simp) (by simp; omega) h).2
      simp at this
      exact this.1
    have hPe : X = Y → encT t [X, Y] = encT t [Y, X] := fun h => by rw [h]
    generalize encT t [X, Y] = P at *
    generalize encT t [Y, X] = Q at *
    have hsX := strB_size X
    have hsY := strB_size Y
    have hsP := strB_size P
    have hpx : (X.length : Int) < (P.length : Int) := by omega
    have hpy : (Y.length : Int) < (P.length : Int) := by omega
    have HLA := Lib.hid hLA
    have HLB := Lib.hid hLB
    have HS := Lib.hid hSame
    have HP := Lib.hid hP
    have HQ := Lib.hid hQ
    have HO := Lib.hid hO
    clear hLA hLB hSame hP hQ hO hXl hYl hPl
    by_cases hab : a = b
    · have hX := hXe hab
      have hPp := hPe hX
      have hab' : (a == b) = true := by simpa using hab
      subst hPp
      clear hXY hXe hPQ hPe hX hab
      go_enter Try.func8, Try.ntmps8
      go_wp2
      go_quiet (fail)
      obtain ⟨w0, hw0⟩ : ∃ w0, w0 = (w.alloc (.cells #[.int .u8 (s.toNat : Int), .int .u8 (t.toNat : Int)] 40)).drewN nq := ⟨_, rfl⟩
      rw [← hw0]
      have hB0 : Below w.heap.size w w0 := by rw [hw0]; exact hB _
      clear hw0 hB
      go_wp2_with (first
        | (go_at_call_of 15 (a.length); refine (HLA.out _ hB0).mono ?_; rintro e w1 ⟨rfl, hb1⟩; have B1 := hB0.trans (hb1.mono hB0.size))
        | (go_at_call_of 15 (b.length); refine (HLB.out _ B1).mono ?_; rintro e w2 ⟨rfl, hb2⟩; have B2 := B1.trans (hb2.mono B1.size))
        | (go_at_call_of 17 ([Value.string (strB Y)]); refine (HP.out _).mono ?_; rintro e w3 ⟨rfl, hb3⟩; have B3 := B2.trans (hb3.mono B2.size))
        | (go_at_call_of 17 ([Value.string (strB X)]); refine (HQ.out _).mono ?_; rintro e w4 ⟨rfl, hb4⟩; have B4 := B3.trans (hb4.mono B3.size))
        | (go_at_call 19; refine (HO.out _).mono ?_; rintro e w5 ⟨v5, rfl, hv5, hb5⟩; have B5 := B4.trans (hb5.mono B4.size); obtain ⟨ad, c5, x0, x1, rfl, hc0, hc1, hr0, hr1⟩ := hv5.open2)
        | (go_at_call 21; refine (HS.out _ B5).mono ?_; rintro e w' ⟨rfl, rfl⟩)
        | (go_at_call 14; refine (awake2_any _).mono ?_; rintro e w6 ⟨rfl, hb6⟩))
      go_ret
      exact ⟨rfl, B5.trans (hb6.mono B5.size)⟩
    · have hPp : ((strB P).toList == (strB Q).toList) = false := strB_ne (fun h => hab (hXY (hPQ h)))
      have hab' : (a == b) = false := by simpa using hab
      clear hXY hXe hPQ hPe hab
      go_enter Try.func8, Try.ntmps8
      go_wp2
      go_quiet (fail)
      obtain ⟨w0, hw0⟩ : ∃ w0, w0 = (w.alloc (.cells #[.int .u8 (s.toNat : Int), .int .u8 (t.toNat : Int)] 40)).drewN nq := ⟨_, rfl⟩
      rw [← hw0]
      have hB0 : Below w.heap.size w w0 := by rw [hw0]; exact hB _
      clear hw0 hB
      go_wp2_with (first
        | (go_at_call_of 15 (a.length); refine (HLA.out _ hB0).mono ?_; rintro e w1 ⟨rfl, hb1⟩; have B1 := hB0.trans (hb1.mono hB0.size))
        | (go_at_call_of 15 (b.length); refine (HLB.out _ B1).mono ?_; rintro e w2 ⟨rfl, hb2⟩; have B2 := B1.trans (hb2.mono B1.size))
        | (go_at_call_of 17 ([Value.string (strB Y)]); refine (HP.out _).mono ?_; rintro e w3 ⟨rfl, hb3⟩; have B3 := B2.trans (hb3.mono B2.size))
        | (go_at_call_of 17 ([Value.string (strB X)]); refine (HQ.out _).mono ?_; rintro e w4 ⟨rfl, hb4⟩; have B4 := B3.trans (hb4.mono B3.size))
        | (go_at_call 19; refine (HO.out _).mono ?_; rintro e w5 ⟨v5, rfl, hv5, hb5⟩; have B5 := B4.trans (hb5.mono B4.size); obtain ⟨ad, c5, x0, x1, rfl, hc0, hc1, hr0, hr1⟩ := hv5.open2)
        | (go_at_call 21; refine (HS.out _ B5).mono ?_; rintro e w' ⟨rfl, rfl⟩)
        | (go_at_call 14; refine (awake2_any _).mono ?_; rintro e w6 ⟨rfl, hb6⟩))
      go_ret
      exact ⟨rfl, B5.trans (hb6.mono B5.size)⟩
  · rcases (show 2000 < a.length ∨ (a.length ≤ 2000 ∧ 2000 < b.length) by omega) with h | ⟨h1, h⟩
    all_goals
      go_enter Try.func8, Try.ntmps8
      go_wp2
      go_quiet (fail)
      go_wp2
      go_ret
      exact ⟨rfl, hB _⟩
end Go.Proofs.Yteancgimgffkpaa
