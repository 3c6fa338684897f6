/- Layer 2: the laws' own walks. -/
import Derived.Test.YteancgimgffkpaaTLeaf
namespace Go.Proofs.Yteancgimgffkpaa
open Go.RowKit
set_option linter.unusedVariables false

/-- a law's answer -/
def Yes (w : World) (e : Ending) (w' : World) : Prop := e = .returned (.bool true) ∧ Below w.heap.size w w'

theorem partsB_le (K : Nat) (ls : List (List UInt8)) (h : ∀ l ∈ ls, l.length ≤ K) : (partsB ls).length ≤ (K + 4) * ls.length := by
  induction ls with
  | nil => simp [partsB]
  | cons l ls ih =>
    have h1 := h l (by simp)
    have h2 := ih (fun j hj => h j (by simp [hj]))
    have h3 : partsB (l :: ls) = partB l ++ partsB ls := by simp [partsB]
    rw [h3, List.length_append, partB_length, List.length_cons, Nat.mul_add]
    omega
theorem fewL_enc (tag : UInt8) {ls : List (List UInt8)} (h : fewL ls = true) : ls.length ≤ 100 ∧ (∀ l ∈ ls, l.length ≤ 2000) ∧ (encT tag ls).length ≤ 1000000 := by
  obtain ⟨h1, h2⟩ := fewL_iff.1 h
  refine ⟨h1, h2, ?_⟩
  rw [encT_length]
  have := partsB_le 2000 ls h2
  omega
theorem Of_few (tag : UInt8) (v : Value) (ls : List (List UInt8)) (w : World) (hv : Bss w v ls) (h : fewL ls = true) : Calls Try.prog 11 #[.int .u8 (tag.toNat : Int), v] w (Tells (encT tag ls) w) := by
  obtain ⟨h1, h2, h3⟩ := fewL_enc tag h
  exact Of_any tag v ls w hv (by omega) (fun l hl => by have := h2 l hl; omega) (by omega)
theorem rOf_few (tag : UInt8) (v : Value) (ls : List (List UInt8)) (w : World) (hv : Bss w v ls) (h : fewL ls = true) : Calls Try.prog 12 #[.int .u8 (tag.toNat : Int), v] w (Tells (encT tag ls) w) := by
  obtain ⟨h1, h2, h3⟩ := fewL_enc tag h
  exact rOf_any tag v ls w hv (by omega) (fun l hl => by have := h2 l hl; omega) (by omega)
theorem twin_few (v : Value) (ls : List (List UInt8)) (w : World) (hv : Bss w v ls) (h : fewL ls = true) :
    Calls Try.prog 10 #[v] w fun e w' => ∃ v', e = .returned v' ∧ Bss w' v' ls ∧ Below w.heap.size w w' := by
  obtain ⟨h1, h2, h3⟩ := fewL_enc 0 h
  exact twin_any v ls w hv (by omega) (fun l hl => by have := h2 l hl; omega)
theorem Parts_yes (v y : Value) (ls : List (List UInt8)) (w : World) (hv : Bss w v ls) (hy : Bss w y ls) : Calls Try.prog 13 #[v, y] w (Yes w) :=
  (Parts_any v y ls ls w hv hy).mono fun e w' h => ⟨by rw [h.1]; exact ret_bool (by simp), h.2⟩

theorem TermOf_any (tag : UInt8) (v : Value) (ls : List (List UInt8)) (w : World) (hv : Bss w v ls) : Calls Try.prog 3 #[.int .u8 (tag.toNat : Int), v] w (Yes w) := by
  have hfa := few2_any v ls w hv
  rcases hf : fewL ls with _ | _
  · rw [hf] at hfa
    have HF := Lib.hid hfa
    clear hf hfa
    go_enter Try.func3, Try.ntmps3
    go_wp2_with (go_at_call 9; refine HF.out.mono ?_; rintro e w' ⟨rfl, rfl⟩)
    go_ret
    exact ⟨rfl, Below.refl _ _⟩
  · rw [hf] at hfa
    have HF := Lib.hid hfa
    have HW := Lib.hid hf
    clear hf hfa
    go_enter Try.func3, Try.ntmps3
    go_wp2_with (first
      | (go_at_call 9; refine HF.out.mono ?_; rintro e w' ⟨rfl, rfl⟩)
      | (go_at_call 10; refine (twin_few v ls _ hv HW.out).mono ?_; rintro e w1 ⟨v1, rfl, hv1, hb1⟩)
      | (go_at_call 11; refine (Of_few tag v1 ls _ hv1 HW.out).mono ?_; rintro e w2 ⟨rfl, hb2⟩; have B2 := hb1.trans (hb2.mono hb1.size))
      | (go_at_call 12; refine (rOf_few tag v ls _ (hv.below B2 (Nat.le_refl _)) HW.out).mono ?_; rintro e w3 ⟨rfl, hb3⟩; have B3 := B2.trans (hb3.mono B2.size))
      | (go_at_call 13; refine (Parts_yes v1 v ls _ ((hv1.below hb2 (Nat.le_refl _)).below hb3 (Nat.le_refl _)) (hv.below B3 (Nat.le_refl _))).mono ?_; rintro e w4 ⟨rfl, hb4⟩; have B4 := B3.trans (hb4.mono B3.size))
      | (go_at_call 14; refine (awake2_any _).mono ?_; rintro e w5 ⟨rfl, hb5⟩))
    go_ret
    exact ⟨rfl, B4.trans (hb5.mono B4.size)⟩
end Go.Proofs.Yteancgimgffkpaa
