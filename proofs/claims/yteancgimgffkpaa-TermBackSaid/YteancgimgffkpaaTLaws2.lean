/- Layer 2: the laws' own walks, continued. -/
import Derived.Test.YteancgimgffkpaaTLaws
namespace Go.Proofs.Yteancgimgffkpaa
open Go.RowKit
set_option linter.unusedVariables false

set_option maxHeartbeats 1000000 in
theorem TermPairs_any (tag : UInt8) (v : Value) (l x y : List UInt8) (w : World) (hv : Bs w v l) :
    Calls Try.prog 4 #[.int .u8 (tag.toNat : Int), v, .agg #[.string (strB x), .string (strB y)]] w (Yes w) := by
  have hsx := strB_size x
  have hsy := strB_size y
  have HV := Lib.hid hv
  obtain ⟨A, c, rfl, -⟩ := hv.open
  clear hv
  by_cases hs : l.length ≤ 2000 ∧ x.length ≤ 2000 ∧ y.length ≤ 2000
  · obtain ⟨h1, h2, h3⟩ := hs
    go_enter Try.func4, Try.ntmps4
    go_wp2
    go_quiet (fail)
    obtain ⟨w0, hw0⟩ : ∃ w0, w0 = (w.alloc (.cells #[.string (strB x), .string (strB y)] 32)).drewN nq := ⟨_, rfl⟩
    rw [← hw0]
    have hB0 : Below w.heap.size w w0 := by rw [hw0]; exact below_drewN ((Below.refl _ _).alloc (Nat.le_refl _) _) _
    clear hw0
    go_wp2_with (first
      | (go_at_call 15; refine (Leaf_any tag _ l _ (HV.out.below hB0 (Nat.le_refl _)) (by omega)).mono ?_; rintro e w1 ⟨rfl, hb1⟩; have B1 := hB0.trans (hb1.mono hB0.size))
      | (go_at_call 16; refine (rLeaf_any tag _ l _ (HV.out.below B1 (Nat.le_refl _)) (by omega)).mono ?_; rintro e w2 ⟨rfl, hb2⟩; have B2 := B1.trans (hb2.mono B1.size))
      | (go_at_call 17; refine (Pair_any tag x y _ (by omega) (by omega)).mono ?_; rintro e w3 ⟨rfl, hb3⟩; have B3 := B2.trans (hb3.mono B2.size))
      | (go_at_call 18; refine (rPair_any tag x y _ (by omega) (by omega)).mono ?_; rintro e w4 ⟨rfl, hb4⟩; have B4 := B3.trans (hb4.mono B3.size))
      | (go_at_call 14; refine (awake2_any _).mono ?_; rintro e w5 ⟨rfl, hb5⟩))
    go_ret
    exact ⟨rfl, B4.trans (hb5.mono B4.size)⟩
  · rcases (show 2000 < l.length ∨ (l.length ≤ 2000 ∧ 2000 < x.length) ∨ (l.length ≤ 2000 ∧ x.length ≤ 2000 ∧ 2000 < y.length) by omega) with h | ⟨h1, h⟩ | ⟨h1, h2, h⟩
    all_goals
      go_enter Try.func4, Try.ntmps4
      go_wp2
      go_quiet (fail)
      go_wp2
      go_ret
      exact ⟨rfl, below_drewN ((Below.refl _ _).alloc (Nat.le_refl _) _) _⟩

theorem Open_none (d : List UInt8) (w : World) (hl : d.length ≤ 1000000) (h : openS d = none) : Calls Try.prog 19 #[.string (strB d)] w fun e w' => e = .returned (.tuple #[.int .u8 0, .slice none 0 0, .bool false]) ∧ Below w.heap.size w w' := by
  refine (Open_any d w hl).mono fun e w' ho => ?_
  rcases ho with ⟨-, h1, h2⟩ | ⟨t, ls, v, h1, -⟩
  · exact ⟨h1, h2⟩
  · rw [h] at h1; cases h1
theorem rOpen_none (d : List UInt8) (w : World) (hl : d.length ≤ 1000000) (h : openS d = none) : Calls Try.prog 20 #[.string (strB d)] w fun e w' => e = .returned (.tuple #[.int .u8 0, .slice none 0 0, .bool false]) ∧ Below w.heap.size w w' := by
  refine (rOpen_any d w hl).mono fun e w' ho => ?_
  rcases ho with ⟨-, h1, h2⟩ | ⟨t, ls, v, h1, -⟩
  · exact ⟨h1, h2⟩
  · rw [h] at h1; cases h1
def OpensTo (t : UInt8) (ls : List (List UInt8)) (w : World) (e : Ending) (w' : World) : Prop := ∃ v, e = .returned (.tuple #[.int .u8 (t.toNat : Int), v, .bool true]) ∧ Bss w' v ls ∧ Below w.heap.size w w'
theorem Open_some (d : List UInt8) (w : World) (hl : d.length ≤ 1000000) (t : UInt8) (ls : List (List UInt8)) (h : openS d = some (t, ls)) : Calls Try.prog 19 #[.string (strB d)] w (OpensTo t ls w) := by
  refine (Open_any d w hl).mono fun e w' ho => ?_
  rcases ho with ⟨h1, -⟩ | ⟨t', ls', v, h1, h2, h3, h4⟩
  · rw [h] at h1; cases h1
  · rw [h] at h1
    injection h1 with h1
    injection h1 with h5 h6
    subst h5 h6
    exact ⟨v, h2, h3, h4⟩
theorem rOpen_some (d : List UInt8) (w : World) (hl : d.length ≤ 1000000) (t : UInt8) (ls : List (List UInt8)) (h : openS d = some (t, ls)) : Calls Try.prog 20 #[.string (strB d)] w (OpensTo t ls w) := by
  refine (rOpen_any d w hl).mono fun e w' ho => ?_
  rcases ho with ⟨h1, -⟩ | ⟨t', ls', v, h1, h2, h3, h4⟩
  · rw [h] at h1; cases h1
  · rw [h] at h1
    injection h1 with h1
    injection h1 with h5 h6
    subst h5 h6
    exact ⟨v, h2, h3, h4⟩

set_option maxHeartbeats 1000000 in
theorem TermOpens_any (d : List UInt8) (w : World) : Calls Try.prog 5 #[.string (strB d)] w (Yes w) := by
  have hsz := strB_size d
  by_cases hs : d.length ≤ 20000
  · rcases ho : openS d with _ | ⟨t, ls⟩
    · have HO := Lib.hid ho
      clear ho
      go_enter Try.func5, Try.ntmps5
      go_wp2_with (first
        | (go_at_call 19; refine (Open_none d _ (by omega) HO.out).mono ?_; rintro e w1 ⟨rfl, hb1⟩)
        | (go_at_call 20; refine (rOpen_none d _ (by omega) HO.out).mono ?_; rintro e w2 ⟨rfl, hb2⟩; have B2 := hb1.trans (hb2.mono hb1.size))
        | (go_at_call 13; refine (Parts_yes _ _ [] _ (Bss.nil _) (Bss.nil _)).mono ?_; rintro e w3 ⟨rfl, hb3⟩; have B3 := B2.trans (hb3.mono B2.size))
        | (go_at_call 14; refine (awake2_any _).mono ?_; rintro e w5 ⟨rfl, hb5⟩))
      go_ret
      exact ⟨rfl, B3.trans (hb5.mono B3.size)⟩
    · have HO := Lib.hid ho
      clear ho
      go_enter Try.func5, Try.ntmps5
      go_wp2_with (first
        | (go_at_call 19; refine (Open_some d _ (by omega) t ls HO.out).mono ?_; rintro e w1 ⟨v1, rfl, hv1, hb1⟩)
        | (go_at_call 20; refine (rOpen_some d _ (by omega) t ls HO.out).mono ?_; rintro e w2 ⟨v2, rfl, hv2, hb2⟩; have B2 := hb1.trans (hb2.mono hb1.size))
        | (go_at_call 13; refine (Parts_yes _ _ ls _ (hv1.below hb2 (Nat.le_refl _)) hv2).mono ?_; rintro e w3 ⟨rfl, hb3⟩; have B3 := B2.trans (hb3.mono B2.size))
        | (go_at_call 14; refine (awake2_any _).mono ?_; rintro e w5 ⟨rfl, hb5⟩))
      go_ret
      exact ⟨rfl, B3.trans (hb5.mono B3.size)⟩
  · go_enter Try.func5, Try.ntmps5
    go_wp2
    go_ret
    exact ⟨rfl, Below.refl _ _⟩
end Go.Proofs.Yteancgimgffkpaa
