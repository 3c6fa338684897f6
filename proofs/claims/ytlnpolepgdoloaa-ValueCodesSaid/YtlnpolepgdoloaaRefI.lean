/- The document's reader: Int, Bool, Num, Left, in general. -/
import Derived.Test.YtlnpolepgdoloaaRefB
namespace Go.Proofs.Ytlnpolepgdoloaa
open Go.RowKit
set_option linter.unusedVariables false
set_option maxRecDepth 20000

theorem wrap64_nought : (0 : Int) = wrap64 ((0 : Nat) : Int) := by
  first | rfl | (simp; done) | (unfold wrap64; simp; done) | (unfold wrap64; decide) | (rw [wrap64_of] <;> omega)
theorem bool_one (x : Nat) : ((x : Int) == 1) = decide (x = 1) := by
  by_cases h : x = 1
  · subst h; rfl
  · have h' : ¬ ((x : Int) = 1) := by omega
    simp [h, h']
theorem rfLeft_any (h : Nat) (rest : List UInt8) (e : Int) (w : World) (hr : RfS w h rest e) :
    Calls Try.prog 39 #[.pointer (some ⟨h, 0, none⟩)] w fun e w' => e = .returned (.int .i64 rest.length) ∧ ∃ n, w' = w.drewN n := by
  obtain ⟨bs, i, hr, rfl⟩ := hr
  obtain ⟨A, c, -, -, -, hi, h99, hc0, hc1, hc2, hf, hlt, -⟩ := hr.open
  have hd : (bs.drop i).length = bs.length - i := List.length_drop
  have HD := Lib.hid (show ((bs.length : Int) - i) = ((bs.drop i).length : Int) by rw [hd]; omega)
  clear hr hc2 hd
  go_enter Try.func39, Try.ntmps39
  go_wp2
  go_quiet (fail)
  go_wp2
  go_ret
  exact ⟨ret_int HD.out, _, rfl⟩

set_option maxHeartbeats 1000000 in
theorem rfInt_at (h : Nat) (bs : List UInt8) (i : Nat) (e : Int) (w : World) (hr : RfG w h bs i e) :
    Calls Try.prog 67 #[.pointer (some ⟨h, 0, none⟩)] w
      (DidG h bs (.int .i64 (wrap64 (stepF 8 alInt (bs.drop i) e).1)) (stepF 8 alInt (bs.drop i) e).2.1 (stepF 8 alInt (bs.drop i) e).2.2 w) := by
  obtain ⟨A, c, -, -, -, hi, h99, hc0, hc1, hc2, hf, hlt, -⟩ := hr.open
  by_cases he : e = 0
  · subst he
    by_cases hs : 8 ≤ (bs.drop i).length
    · have hn : numF 8 (bs.drop i) = (wordN ((bs.drop i).take 8), true) := by unfold numF; rw [if_pos hs]
      have hnum := number_any h bs i 0 8 w hr (by omega)
      rw [hn] at hnum
      have hsl : 8 ≤ bs.length - i := by rw [List.length_drop] at hs; exact hs
      have hdd : (bs.drop i).drop 8 = bs.drop (i + 8) := by rw [List.drop_drop]
      have h8 := wordN_lt8 ((bs.drop i).take 8) (List.length_take_le _ _)
      have hal : alInt (wordN ((bs.drop i).take 8)) = 0 := by unfold alInt ceilE; rw [if_neg (by omega)]
      have hst : stepF 8 alInt (bs.drop i) 0 = (wordN ((bs.drop i).take 8), bs.drop (i + 8), 0) := by
        unfold stepF
        rw [if_neg (by simp), if_neg (by omega), if_neg (by rw [hal]; decide), hdd]
      rw [hst]
      clear hst hs hn hdd
      generalize wordN ((bs.drop i).take 8) = x at *
      have hx4 : (i : Int) + 8 = ((i + 8 : Nat) : Int) := by omega
      have HX4 := Lib.hid hx4
      have HNUM := Lib.hid hnum
      clear hnum hx4
      go_enter Try.func67, Try.ntmps67
      go_wp2_with (go_at_call 96; refine HNUM.out.mono ?_; rintro e w1 ⟨rfl, n, rfl⟩)
      all_goals go_ret
      all_goals exact ⟨rfl, ⟨i + 8, (hr.drewN n).setAt (i + 8) (by omega), rfl⟩, ((Only.refl _ w).below (below_drewN (Below.refl _ _) n)).set _ _⟩
    · have hn : numF 8 (bs.drop i) = (0, false) := by unfold numF; rw [if_neg hs]
      have hnum := number_any h bs i 0 8 w hr (by omega)
      rw [hn] at hnum
      have hst : stepF 8 alInt (bs.drop i) 0 = (0, bs.drop i, 10) := by unfold stepF; rw [if_neg (by simp), if_pos (by omega)]
      rw [hst]
      have HNUM := Lib.hid hnum
      clear hst hs hn hnum
      go_enter Try.func67, Try.ntmps67
      go_wp2_with (go_at_call 96; refine HNUM.out.mono ?_; rintro e w1 ⟨rfl, n, rfl⟩)
      go_ret
      exact ⟨(by first | rfl | exact ret_int wrap64_nought), ⟨i, (hr.drewN n).setErr 10, rfl⟩, ((Only.refl _ w).below (below_drewN (Below.refl _ _) n)).set _ _⟩
  · have h1 : (e != 0) = true := by simpa using he
    have hst : stepF 8 alInt (bs.drop i) e = (0, bs.drop i, e) := by unfold stepF; rw [if_pos he]
    rw [hst]
    clear hst he
    go_enter Try.func67, Try.ntmps67
    go_wp2
    go_ret
    exact ⟨(by first | rfl | exact ret_int wrap64_nought), ⟨i, hr, rfl⟩, Only.refl _ _⟩
theorem rfInt_any (h : Nat) (rest : List UInt8) (e : Int) (w : World) (hr : RfS w h rest e) :
    Calls Try.prog 67 #[.pointer (some ⟨h, 0, none⟩)] w
      (DidR h (.int .i64 (wrap64 (stepF 8 alInt rest e).1)) (stepF 8 alInt rest e).2.1 (stepF 8 alInt rest e).2.2 w) := by
  obtain ⟨bs, i, hr, rfl⟩ := hr
  exact (rfInt_at h bs i e w hr).mono fun _ _ ⟨h1, ⟨i', h2, h3⟩, h4⟩ => ⟨h1, ⟨bs, i', h2, h3⟩, h4⟩

set_option maxHeartbeats 1000000 in
theorem rfBool_at (h : Nat) (bs : List UInt8) (i : Nat) (e : Int) (w : World) (hr : RfG w h bs i e) :
    Calls Try.prog 69 #[.pointer (some ⟨h, 0, none⟩)] w
      (DidG h bs (.bool (decide ((stepF 1 alBool (bs.drop i) e).1 = 1))) (stepF 1 alBool (bs.drop i) e).2.1 (stepF 1 alBool (bs.drop i) e).2.2 w) := by
  obtain ⟨A, c, -, -, -, hi, h99, hc0, hc1, hc2, hf, hlt, -⟩ := hr.open
  by_cases he : e = 0
  · subst he
    by_cases hs : 1 ≤ (bs.drop i).length
    · have hn : numF 1 (bs.drop i) = (wordN ((bs.drop i).take 1), true) := by unfold numF; rw [if_pos hs]
      have hnum := number_any h bs i 0 1 w hr (by omega)
      rw [hn] at hnum
      have hsl : 1 ≤ bs.length - i := by rw [List.length_drop] at hs; exact hs
      have hdd : (bs.drop i).drop 1 = bs.drop (i + 1) := by rw [List.drop_drop]
      by_cases hbig : 1 < wordN ((bs.drop i).take 1)
      · have hal : alBool (wordN ((bs.drop i).take 1)) = 12 := by unfold alBool ceilE; rw [if_pos (by omega)]
        have hst : stepF 1 alBool (bs.drop i) 0 = (0, bs.drop i, 12) := by
          unfold stepF
          rw [if_neg (by simp), if_neg (by omega), if_pos (by rw [hal]; decide), hal]
        rw [hst]
        clear hst hs hn hdd
        generalize wordN ((bs.drop i).take 1) = x at *
        have HNUM := Lib.hid hnum
        clear hnum
        go_enter Try.func69, Try.ntmps69
        go_wp2_with (go_at_call 96; refine HNUM.out.mono ?_; rintro e w1 ⟨rfl, n, rfl⟩)
        all_goals go_ret
        all_goals exact ⟨rfl, ⟨i, (hr.drewN n).setErr 12, rfl⟩, ((Only.refl _ w).below (below_drewN (Below.refl _ _) n)).set _ _⟩
      · have hal : alBool (wordN ((bs.drop i).take 1)) = 0 := by unfold alBool ceilE; rw [if_neg (by omega)]
        have hst : stepF 1 alBool (bs.drop i) 0 = (wordN ((bs.drop i).take 1), bs.drop (i + 1), 0) := by
          unfold stepF
          rw [if_neg (by simp), if_neg (by omega), if_neg (by rw [hal]; decide), hdd]
        rw [hst]
        clear hst hs hn hdd
        generalize wordN ((bs.drop i).take 1) = x at *
        have hx4 : (i : Int) + 1 = ((i + 1 : Nat) : Int) := by omega
        have HX4 := Lib.hid hx4
        have HNUM := Lib.hid hnum
        clear hnum hx4
        go_enter Try.func69, Try.ntmps69
        go_wp2_with (go_at_call 96; refine HNUM.out.mono ?_; rintro e w1 ⟨rfl, n, rfl⟩)
        all_goals go_ret
        all_goals exact ⟨ret_bool (bool_one _), ⟨i + 1, (hr.drewN n).setAt (i + 1) (by omega), rfl⟩, ((Only.refl _ w).below (below_drewN (Below.refl _ _) n)).set _ _⟩
    · have hn : numF 1 (bs.drop i) = (0, false) := by unfold numF; rw [if_neg hs]
      have hnum := number_any h bs i 0 1 w hr (by omega)
      rw [hn] at hnum
      have hst : stepF 1 alBool (bs.drop i) 0 = (0, bs.drop i, 10) := by unfold stepF; rw [if_neg (by simp), if_pos (by omega)]
      rw [hst]
      have HNUM := Lib.hid hnum
      clear hst hs hn hnum
      go_enter Try.func69, Try.ntmps69
      go_wp2_with (go_at_call 96; refine HNUM.out.mono ?_; rintro e w1 ⟨rfl, n, rfl⟩)
      go_ret
      exact ⟨(by first | rfl | exact ret_int wrap64_nought), ⟨i, (hr.drewN n).setErr 10, rfl⟩, ((Only.refl _ w).below (below_drewN (Below.refl _ _) n)).set _ _⟩
  · have h1 : (e != 0) = true := by simpa using he
    have hst : stepF 1 alBool (bs.drop i) e = (0, bs.drop i, e) := by unfold stepF; rw [if_pos he]
    rw [hst]
    clear hst he
    go_enter Try.func69, Try.ntmps69
    go_wp2
    go_ret
    exact ⟨(by first | rfl | exact ret_int wrap64_nought), ⟨i, hr, rfl⟩, Only.refl _ _⟩
theorem rfBool_any (h : Nat) (rest : List UInt8) (e : Int) (w : World) (hr : RfS w h rest e) :
    Calls Try.prog 69 #[.pointer (some ⟨h, 0, none⟩)] w
      (DidR h (.bool (decide ((stepF 1 alBool rest e).1 = 1))) (stepF 1 alBool rest e).2.1 (stepF 1 alBool rest e).2.2 w) := by
  obtain ⟨bs, i, hr, rfl⟩ := hr
  exact (rfBool_at h bs i e w hr).mono fun _ _ ⟨h1, ⟨i', h2, h3⟩, h4⟩ => ⟨h1, ⟨bs, i', h2, h3⟩, h4⟩

set_option maxHeartbeats 1000000 in
theorem rfNum_at (h : Nat) (bs : List UInt8) (i : Nat) (e : Int) (w : World) (hr : RfG w h bs i e) :
    Calls Try.prog 71 #[.pointer (some ⟨h, 0, none⟩)] w
      (DidG h bs (.float .f64 (stepF 8 alNum (bs.drop i) e).1) (stepF 8 alNum (bs.drop i) e).2.1 (stepF 8 alNum (bs.drop i) e).2.2 w) := by
  obtain ⟨A, c, -, -, -, hi, h99, hc0, hc1, hc2, hf, hlt, -⟩ := hr.open
  by_cases he : e = 0
  · subst he
    by_cases hs : 8 ≤ (bs.drop i).length
    · have hn : numF 8 (bs.drop i) = (wordN ((bs.drop i).take 8), true) := by unfold numF; rw [if_pos hs]
      have hnum := number_any h bs i 0 8 w hr (by omega)
      rw [hn] at hnum
      have hsl : 8 ≤ bs.length - i := by rw [List.length_drop] at hs; exact hs
      have hdd : (bs.drop i).drop 8 = bs.drop (i + 8) := by rw [List.drop_drop]
      by_cases hbad : wordN ((bs.drop i).take 8) ≠ 9221120237041090561 ∧ nanB (wordN ((bs.drop i).take 8)) = true
      · have hal : alNum (wordN ((bs.drop i).take 8)) = 12 := by unfold alNum floatE; rw [Int.toNat_natCast, if_pos hbad]
        have hst : stepF 8 alNum (bs.drop i) 0 = (0, bs.drop i, 12) := by
          unfold stepF
          rw [if_neg (by simp), if_neg (by omega), if_pos (by rw [hal]; decide), hal]
        rw [hst]
        clear hst hs hn hdd
        generalize wordN ((bs.drop i).take 8) = x at *
        have HNUM := Lib.hid hnum
        clear hnum
        have hA : (FloatKind.f64.format.order x x != some .eq) = true := hbad.2
        have hB : ((x : Int) != 9221120237041090561) = true := by simp; omega
        have hfb := from_bits
        go_enter Try.func71, Try.ntmps71
        go_wp2_with (go_at_call 96; refine HNUM.out.mono ?_; rintro e w1 ⟨rfl, n, rfl⟩)
        all_goals go_ret
        all_goals exact ⟨rfl, ⟨i, (hr.drewN n).setErr 12, rfl⟩, ((Only.refl _ w).below (below_drewN (Below.refl _ _) n)).set _ _⟩
      · have hal : alNum (wordN ((bs.drop i).take 8)) = 0 := by unfold alNum floatE; rw [Int.toNat_natCast, if_neg hbad]
        rcases hnb : nanB (wordN ((bs.drop i).take 8)) with _ | _
        · have hst : stepF 8 alNum (bs.drop i) 0 = (wordN ((bs.drop i).take 8), bs.drop (i + 8), 0) := by
            unfold stepF
            rw [if_neg (by simp), if_neg (by omega), if_neg (by rw [hal]; decide), hdd]
          rw [hst]
          clear hst hs hn hdd
          generalize wordN ((bs.drop i).take 8) = x at *
          have hx4 : (i : Int) + 8 = ((i + 8 : Nat) : Int) := by omega
          have HX4 := Lib.hid hx4
          have HNUM := Lib.hid hnum
          clear hnum hx4
          have hA : (FloatKind.f64.format.order x x != some .eq) = false := hnb
          have hfb := from_bits
          clear hbad
          go_enter Try.func71, Try.ntmps71
          go_wp2_with (go_at_call 96; refine HNUM.out.mono ?_; rintro e w1 ⟨rfl, n, rfl⟩)
          all_goals go_ret
          all_goals exact ⟨rfl, ⟨i + 8, (hr.drewN n).setAt (i + 8) (by omega), rfl⟩, ((Only.refl _ w).below (below_drewN (Below.refl _ _) n)).set _ _⟩
        · have hq : wordN ((bs.drop i).take 8) = 9221120237041090561 := Decidable.byContradiction fun h => hbad ⟨h, hnb⟩
          have hst : stepF 8 alNum (bs.drop i) 0 = (wordN ((bs.drop i).take 8), bs.drop (i + 8), 0) := by
            unfold stepF
            rw [if_neg (by simp), if_neg (by omega), if_neg (by rw [hal]; decide), hdd]
          rw [hst]
          clear hst hs hn hdd
          generalize wordN ((bs.drop i).take 8) = x at *
          have hx4 : (i : Int) + 8 = ((i + 8 : Nat) : Int) := by omega
          have HX4 := Lib.hid hx4
          have HNUM := Lib.hid hnum
          clear hnum hx4
          have hA : (FloatKind.f64.format.order x x != some .eq) = true := hnb
          have hB : ((x : Int) != 9221120237041090561) = false := by simp; omega
          have hfb := from_bits
          clear hbad hq hnb
          go_enter Try.func71, Try.ntmps71
          go_wp2_with (go_at_call 96; refine HNUM.out.mono ?_; rintro e w1 ⟨rfl, n, rfl⟩)
          all_goals go_ret
          all_goals exact ⟨rfl, ⟨i + 8, (hr.drewN n).setAt (i + 8) (by omega), rfl⟩, ((Only.refl _ w).below (below_drewN (Below.refl _ _) n)).set _ _⟩
    · have hn : numF 8 (bs.drop i) = (0, false) := by unfold numF; rw [if_neg hs]
      have hnum := number_any h bs i 0 8 w hr (by omega)
      rw [hn] at hnum
      have hst : stepF 8 alNum (bs.drop i) 0 = (0, bs.drop i, 10) := by unfold stepF; rw [if_neg (by simp), if_pos (by omega)]
      rw [hst]
      have HNUM := Lib.hid hnum
      clear hst hs hn hnum
      go_enter Try.func71, Try.ntmps71
      go_wp2_with (go_at_call 96; refine HNUM.out.mono ?_; rintro e w1 ⟨rfl, n, rfl⟩)
      go_ret
      exact ⟨(by first | rfl | exact ret_int wrap64_nought), ⟨i, (hr.drewN n).setErr 10, rfl⟩, ((Only.refl _ w).below (below_drewN (Below.refl _ _) n)).set _ _⟩
  · have h1 : (e != 0) = true := by simpa using he
    have hst : stepF 8 alNum (bs.drop i) e = (0, bs.drop i, e) := by unfold stepF; rw [if_pos he]
    rw [hst]
    clear hst he
    go_enter Try.func71, Try.ntmps71
    go_wp2
    go_ret
    exact ⟨(by first | rfl | exact ret_int wrap64_nought), ⟨i, hr, rfl⟩, Only.refl _ _⟩
theorem rfNum_any (h : Nat) (rest : List UInt8) (e : Int) (w : World) (hr : RfS w h rest e) :
    Calls Try.prog 71 #[.pointer (some ⟨h, 0, none⟩)] w
      (DidR h (.float .f64 (stepF 8 alNum rest e).1) (stepF 8 alNum rest e).2.1 (stepF 8 alNum rest e).2.2 w) := by
  obtain ⟨bs, i, hr, rfl⟩ := hr
  exact (rfNum_at h bs i e w hr).mono fun _ _ ⟨h1, ⟨i', h2, h3⟩, h4⟩ => ⟨h1, ⟨bs, i', h2, h3⟩, h4⟩
end Go.Proofs.Ytlnpolepgdoloaa
