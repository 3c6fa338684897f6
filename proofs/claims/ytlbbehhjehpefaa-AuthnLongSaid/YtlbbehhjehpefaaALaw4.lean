/- Layer 3: AuthnLong. -/
import Derived.Test.YtlbbehhjehpefaaALaw1
namespace Go.Proofs.Ytlbbehhjehpefaa
open Go.RowKit
set_option linter.unusedVariables false

/-- n bytes that are nought -/
def noughts (n : Nat) : List UInt8 := List.replicate n 0
theorem made_noughts (n : Nat) : (madeCells (Value.int .u8 0).cells (n * 1)).toList = (noughts n).map bc := by
  have hz : bc 0 = Value.int .u8 0 := rfl
  apply List.ext_getElem
  · simp [noughts, madeCells]
  · intro j h1 h2
    simp [noughts, madeCells, hz, Value.cells, Nat.mod_one]
theorem noughts_length (n : Nat) : (noughts n).length = n := List.length_replicate

theorem New_11 (w : World) : Calls Try.prog 10 #[.int .i64 1, .int .i64 1] w fun e w' => ∃ g bm, e = .returned (.pointer (some ⟨g, 0, none⟩)) ∧ w.heap.size ≤ g ∧ w.heap.size ≤ bm ∧ Au w' g bm 1 1 [] ∧ Below w.heap.size w w' :=
  New3_any 1 1 w
theorem Sign_over (g bm : Nat) (v : Value) (n : Nat) (hn : 16777216 < n) (hn9 : n ≤ 1000000000) (w : World) (h : Au w g bm 1 1 []) (hv : Bs w v (noughts n)) : Calls Try.prog 18 #[.pointer (some ⟨g, 0, none⟩), .int .i64 1, v] w fun e w' =>
    ∃ A c, e = .returned (.tuple #[.agg #[.int .i64 0, .slice A 0 c], .int .i64 11]) ∧ Au w' g bm 1 1 [] ∧ w.grownBy w' (some bm) := by
  have he : signE 1 1 1 (noughts n) = 11 := signE_long (by decide) (by rw [noughts_length]; exact hn)
  have hS := Sign_any g bm 1 1 1 v (noughts n) [] w h (by unfold ok64; omega) hv (by rw [noughts_length]; exact hn9) (by simp)
  refine hS.mono fun e w' ⟨v', h1, h2, h3, h4, h5⟩ => ?_
  unfold signS signL signT at *
  rw [he] at h1 h2 h4
  simp only [show ((11 : Int) = 0) = False by simp, if_false] at h1 h2 h4
  obtain ⟨A, c, rfl, -⟩ := h2.open
  exact ⟨A, c, h1, h4, h5⟩
theorem Sign_just (g bm : Nat) (v : Value) (n : Nat) (hn : n ≤ 16777216) (w : World) (h : Au w g bm 1 1 []) (hv : Bs w v (noughts n)) : Calls Try.prog 18 #[.pointer (some ⟨g, 0, none⟩), .int .i64 1, v] w fun e w' =>
    ∃ A c, e = .returned (.tuple #[.agg #[.int .i64 1, .slice A n c], .int .i64 0]) ∧ (∃ L, Au w' g bm 1 1 L ∧ L.length = 1) ∧ w.grownBy w' (some bm) := by
  have he : signE 1 1 1 (noughts n) = 0 := signE_ok (by decide) (by rw [noughts_length]; omega)
  have hS := Sign_any g bm 1 1 1 v (noughts n) [] w h (by unfold ok64; omega) hv (by rw [noughts_length]; omega) (by simp)
  refine hS.mono fun e w' ⟨v', h1, h2, h3, h4, h5⟩ => ?_
  unfold signS signL signT at *
  rw [he] at h1 h2 h4
  simp only [if_true] at h1 h2 h4
  obtain ⟨A, c, rfl, -⟩ := h2.open
  rw [noughts_length] at h1
  exact ⟨A, c, h1, ⟨_, h4, by simp [addP]⟩, h5⟩
theorem Signed_n (g bm : Nat) (f c : Int) (L : List (Int × List UInt8)) (n : Nat) (w : World) (h : Au w g bm f c L) (hn : L.length = n) :
    Calls Try.prog 12 #[.pointer (some ⟨g, 0, none⟩)] w (Says (.int .i64 n) w) := hn ▸ Signed_any g bm f c L w h

theorem below_none {w w' : World} (h : w.grownBy w' none) : Below w.heap.size w w' := ⟨h.os, h.tape, h.output, h.size, fun k hk => h.block k hk (by simp)⟩

set_option maxHeartbeats 1000000 in
theorem AuthnLong_any (w : World) : Calls Try.prog 5 #[] w (Yes3 w) := by
  obtain ⟨i0, hi, hz0, hz1, hz2⟩ := info_parts u8info
  obtain ⟨n1, hn1⟩ : ∃ n : Nat, n = 16777217 := ⟨_, rfl⟩
  obtain ⟨n2, hn2⟩ : ∃ n : Nat, n = 16777216 := ⟨_, rfl⟩
  have h1 : (16777217 : Int) = (n1 : Int) := by omega
  have h2 : (16777216 : Int) = (n2 : Int) := by omega
  have H1 := Lib.hid h1
  have H2 := Lib.hid h2
  have N1 := Lib.hid (show 16777216 < n1 ∧ n1 ≤ 1000000000 ∧ n1 ≤ maxLen by unfold maxLen; omega)
  have N2 := Lib.hid (show n2 ≤ 16777216 ∧ n2 ≤ maxLen by unfold maxLen; omega)
  clear h1 h2 hn1 hn2
  go_enter Try.func5, Try.ntmps5
  go_upto_region 3 with (first
    | (go_at_call 10; refine (New_11 _).mono ?_; rintro e w1 ⟨g, bm, rfl, hg, hbm, hA1, hB1⟩)
    | (at_make; refine wpList_make_full _ rfl _ _ 34 rfl w1.heap.size 5 i0 (.int .u8 0) 1 Try.underlying34 hi hz0 hz1 _ _ _ _ n1 rfl rfl H1.out H1.out (by rw [hz2]; have := N1.out; unfold maxLen at this; omega) N1.out.2.2 (Nat.le_refl _) ?_; intro w2 hown2 hg2; rw [made_noughts] at hown2; have hb2 := below_none hg2; have hA2 := hA1.below hb2 (Nat.le_refl _); have hB2 := hB1.trans (hb2.mono hB1.size))
    | (go_at_call 18; refine (Sign_over g bm _ n1 N1.out.1 N1.out.2.1 _ hA2 (Rd.of_own hown2)).mono ?_; rintro e w3 ⟨Ax, cx, rfl, hA3, hg3⟩; have hB3 := hB2.grown hg3 hB2.size (by intro k hk; injection hk with hk; omega)))
  have hA4 := hA3.below ((Below.refl _ _).alloc (Nat.le_refl _) (.cells #[.int .i64 0, .slice Ax 0 cx] 40)) (Nat.le_refl _)
  have hB4 := hB3.alloc hB3.size (.cells #[.int .i64 0, .slice Ax 0 cx] 40)
  clear hown2 hg2 hA1 hB1 hA2 hB2 hb2 hA3 hB3 hg3
  generalize w3.alloc (.cells #[.int .i64 0, .slice Ax 0 cx] 40) = w4 at *
  go_upto_region 5 with (first
    | (go_at_call 12; refine (Signed_n g bm _ _ [] 0 _ hA4 rfl).mono ?_; rintro e w' ⟨rfl, rfl⟩)
    | (at_make; refine wpList_make_full _ rfl _ _ 34 rfl _ 5 i0 (.int .u8 0) 1 Try.underlying34 hi hz0 hz1 _ _ _ _ n2 rfl rfl H2.out H2.out (by rw [hz2]; have := N2.out; unfold maxLen at this; omega) N2.out.2 (Nat.le_refl _) ?_; intro w5 hown5 hg5; rw [made_noughts] at hown5; have hb5 := below_none hg5; have hA5 := hA4.below hb5 (Nat.le_refl _); have hB5 := hB4.trans (hb5.mono hB4.size))
    | (go_at_call 18; refine (Sign_just g bm _ n2 N2.out.1 _ hA5 (Rd.of_own hown5)).mono ?_; rintro e w6 ⟨Ay, cy, rfl, ⟨L6, hA6, hL6⟩, hg6⟩; have hB6 := hB5.grown hg6 hB5.size (by intro k hk; injection hk with hk; omega)))
  have hA7 := hA6.below ((Below.refl _ _).alloc (Nat.le_refl _) (.cells #[.int .i64 1, .slice Ay n2 cy] 40)) (Nat.le_refl _)
  have hB7 := hB6.alloc hB6.size (.cells #[.int .i64 1, .slice Ay n2 cy] 40)
  clear hown5 hg5 hA4 hB4 hA5 hB5 hb5 hA6 hB6 hg6
  generalize w6.alloc (.cells #[.int .i64 1, .slice Ay n2 cy] 40) = w7 at *
  go_wp2_with (first
    | (go_at_call 12; refine (Signed_n g bm _ _ L6 1 _ hA7 hL6).mono ?_; rintro e w' ⟨rfl, rfl⟩)
    | (go_at_call 14; refine (awake3_any _).mono ?_; rintro e w8 ⟨rfl, hb8⟩))
  go_ret
  exact ⟨rfl, hB7.trans (hb8.mono hB7.size)⟩
end Go.Proofs.Ytlbbehhjehpefaa
