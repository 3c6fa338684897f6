/- Layer 2: the laws' own walks, the last three. -/
import Derived.Test.YteancgimgffkpaaTLaws2
namespace Go.Proofs.Yteancgimgffkpaa
open Go.RowKit
set_option linter.unusedVariables false

theorem Of_back (t : UInt8) (d : List UInt8) (v : Value) (ls : List (List UInt8)) (w : World) (hv : Bss w v ls) (h : openS d = some (t, ls)) (hl : d.length ≤ 20000) :
    Calls Try.prog 11 #[.int .u8 (t.toNat : Int), v] w (Tells d w) := by
  obtain ⟨h1, h2, h3⟩ := openS_inv t d ls h
  have := Of_any t v ls w hv (by omega) (fun l hl => by
    have h4 : (partB l).length ≤ (partsB ls).length := by
      obtain ⟨a, b, rfl⟩ := List.append_of_mem hl
      simp [partsB]
      omega
    have h5 : (encT t ls).length = d.length := by rw [h1]
    rw [encT_length] at h5
    rw [partB_length] at h4
    omega) (by rw [h1]; omega)
  rw [h1] at this
  exact this

set_option maxHeartbeats 1000000 in
theorem TermBack_any (tag : UInt8) (v : Value) (ls : List (List UInt8)) (d : List UInt8) (w : World) (hv : Bss w v ls) :
    Calls Try.prog 6 #[.int .u8 (tag.toNat : Int), v, .string (strB d)] w (Yes w) := by
  have hsz := strB_size d
  have hfa := few2_any v ls w hv
  have HV := Lib.hid hv
  rcases hf : fewL ls with _ | _
  · rw [hf] at hfa
    have HF := Lib.hid hfa
    clear hf hfa hv
    go_enter Try.func6, Try.ntmps6
    go_wp2_with (go_at_call 9; refine HF.out.mono ?_; rintro e w' ⟨rfl, rfl⟩)
    go_ret
    exact ⟨rfl, Below.refl _ _⟩
  · rw [hf] at hfa
    have HF := Lib.hid hfa
    have HW := Lib.hid hf
    obtain ⟨hn1, hn2, hn3⟩ := fewL_enc tag hf
    have HE := Lib.hid (openS_enc tag ls (by omega) (fun l hl => by have := hn2 l hl; omega))
    have HN := Lib.hid hn3
    clear hf hfa hv hn1 hn2 hn3
    by_cases hs : d.length ≤ 20000
    · rcases ho : openS d with _ | ⟨t, ms⟩
      · have HO := Lib.hid ho
        clear ho
        go_enter Try.func6, Try.ntmps6
        go_wp2_with (first
          | (go_at_call 9; refine HF.out.mono ?_; rintro e w' ⟨rfl, rfl⟩)
          | (go_at_call 10; refine (twin_few v ls _ HV.out HW.out).mono ?_; rintro e w1 ⟨v1, rfl, hv1, hb1⟩)
          | (go_at_call 11; refine (Of_few tag v1 ls _ hv1 HW.out).mono ?_; rintro e w2 ⟨rfl, hb2⟩; have B2 := hb1.trans (hb2.mono hb1.size))
          | (go_at_call_of 19 (encT tag ls); refine (Open_some _ _ HN.out tag ls HE.out).mono ?_; rintro e w3 ⟨v3, rfl, hv3, hb3⟩; have B3 := B2.trans (hb3.mono B2.size))
          | (go_at_call 13; refine (Parts_yes _ _ ls _ hv3 (HV.out.below B3 (Nat.le_refl _))).mono ?_; rintro e w4 ⟨rfl, hb4⟩; have B4 := B3.trans (hb4.mono B3.size))
          | (go_at_call_of 19 (d); refine (Open_none d _ (by omega) HO.out).mono ?_; rintro e w5 ⟨rfl, hb5⟩; have B5 := B4.trans (hb5.mono B4.size))
          | (go_at_call 14; refine (awake2_any _).mono ?_; rintro e w6 ⟨rfl, hb6⟩))
        go_ret
        exact ⟨rfl, B5.trans (hb6.mono B5.size)⟩
      · have HO := Lib.hid ho
        clear ho
        go_enter Try.func6, Try.ntmps6
        go_wp2_with (first
          | (go_at_call 9; refine HF.out.mono ?_; rintro e w' ⟨rfl, rfl⟩)
          | (go_at_call 10; refine (twin_few v ls _ HV.out HW.out).mono ?_; rintro e w1 ⟨v1, rfl, hv1, hb1⟩)
          | (go_at_call_of 11 (v1); refine (Of_few tag v1 ls _ hv1 HW.out).mono ?_; rintro e w2 ⟨rfl, hb2⟩; have B2 := hb1.trans (hb2.mono hb1.size))
          | (go_at_call_of 19 (encT tag ls); refine (Open_some _ _ HN.out tag ls HE.out).mono ?_; rintro e w3 ⟨v3, rfl, hv3, hb3⟩; have B3 := B2.trans (hb3.mono B2.size))
          | (go_at_call 13; refine (Parts_yes _ _ ls _ hv3 (HV.out.below B3 (Nat.le_refl _))).mono ?_; rintro e w4 ⟨rfl, hb4⟩; have B4 := B3.trans (hb4.mono B3.size))
          | (go_at_call_of 19 (d); refine (Open_some d _ (by omega) t ms HO.out).mono ?_; rintro e w5 ⟨v5, rfl, hv5, hb5⟩; have B5 := B4.trans (hb5.mono B4.size))
          | (go_at_call_of 11 (v5); refine (Of_back t d v5 ms _ hv5 HO.out hs).mono ?_; rintro e w6 ⟨rfl, hb6⟩; have B6 := B5.trans (hb6.mono B5.size))
          | (go_at_call 14; refine (awake2_any _).mono ?_; rintro e w7 ⟨rfl, hb7⟩))
        go_ret
        exact ⟨rfl, B6.trans (hb7.mono B6.size)⟩
    · go_enter Try.func6, Try.ntmps6
      go_wp2_with (go_at_call 9; refine HF.out.mono ?_; rintro e w' ⟨rfl, rfl⟩)
      go_ret
      exact ⟨rfl, Below.refl _ _⟩
end Go.Proofs.Yteancgimgffkpaa
