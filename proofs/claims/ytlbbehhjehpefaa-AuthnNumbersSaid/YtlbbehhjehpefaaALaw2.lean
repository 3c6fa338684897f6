/- Layer 3: AuthnNumbers. -/
import Derived.Test.YtlbbehhjehpefaaALaw1
namespace Go.Proofs.Ytlbbehhjehpefaa
open Go.RowKit
set_option linter.unusedVariables false

/-- the region in which both authorities are made -/
theorem both_cells {w W : World} {b : Nat} {F C : Int} {t : TypeId} (hw : w.heap[b]? = some (.cells #[.int .i64 F, .int .i64 C] t (0, 0))) (hb : Below w.heap.size w W) : W.cell? ⟨b, 0, none⟩ = some (.int .i64 F) ∧ W.cell? ⟨b, 1, none⟩ = some (.int .i64 C) := by
  have h : W.heap[b]? = some (.cells #[.int .i64 F, .int .i64 C] t (0, 0)) := (hb.block b (Array.getElem?_eq_some_iff.1 hw).1).trans hw
  exact ⟨(cell_of_row W b 0 _ _ (0, 0) h).trans rfl, (cell_of_row W b 1 _ _ (0, 0) h).trans rfl⟩

set_option maxHeartbeats 1000000 in
theorem AuthnNumbers_any (F C s : Int) (w : World) (hs : ok64 s) : Calls Try.prog 3 #[.agg #[.int .i64 F, .int .i64 C], .int .i64 s] w (Yes3 w) := by
  have hw1 : (w.alloc (.cells #[.int .i64 F, .int .i64 C] 23)).heap[w.heap.size]? = some (.cells #[.int .i64 F, .int .i64 C] 23 (0, 0)) := heap_alloc_new _ _
  have hb1 : Below w.heap.size w (w.alloc (.cells #[.int .i64 F, .int .i64 C] 23)) := (Below.refl _ _).alloc (Nat.le_refl _) _
  go_enter Try.func3, Try.ntmps3
  go_upto_region 1 with fail
  generalize w.alloc (.cells #[.int .i64 F, .int .i64 C] 23) = w1 at *
  go_cut [5, 6] from 7 to 16 (fun s5 s6 wx => ∃ g bm g2 v, s5 = .pointer (some ⟨g, 0, none⟩) ∧ s6 = .pointer (some ⟨g2, 0, none⟩) ∧ Both w wx g bm g2 v (clF F) (clC C))
  case first =>
    have hS0 := both_cells hw1 ((Below.refl _ _).drew)
    have hk : ∀ W W', (W.cell? ⟨w.heap.size, 0, none⟩ = some (.int .i64 F) ∧ W.cell? ⟨w.heap.size, 1, none⟩ = some (.int .i64 C)) → Below W.heap.size W W' → (W'.cell? ⟨w.heap.size, 0, none⟩ = some (.int .i64 F) ∧ W'.cell? ⟨w.heap.size, 1, none⟩ = some (.int .i64 C)) :=
      fun W W' h hb => ⟨(hb.cell (cell_lt h.1)).trans h.1, (hb.cell (cell_lt h.2)).trans h.2⟩
    go_region_held3 (fun W => W.cell? ⟨w.heap.size, 0, none⟩ = some (.int .i64 F) ∧ W.cell? ⟨w.heap.size, 1, none⟩ = some (.int .i64 C)) (first | exact hS0 | exact hk _ _ (by assumption) hbA | exact hk _ _ (by assumption) hbB) (first
      | (go_at_call 10; refine (New3_any F C _).mono ?_; rintro e wA ⟨g, bm, rfl, hg, hbm, hA, hbA⟩)
      | (go_at_call 11; refine (rNew_any F C _).mono ?_; rintro e wB ⟨g2, v, rfl, hg2, hD, hbB⟩))
    go_wp2_with fail
    go_meet
    exact ⟨g, bm, g2, v, rfl, rfl, Both.one (hb1.trans ((Below.refl _ _).drew.mono hb1.size)) hg hbm hA hbA hD hbB⟩
  case rest =>
  obtain ⟨g, bm, g2, v, rfl, rfl, hBoth⟩ := hcut
  have hsg := Signed_any g bm _ _ _ wc hBoth.au
  have HSG := Lib.hid hsg
  clear hsg
  go_wp2_with (first
    | (go_at_call 12; refine HSG.out.mono ?_; rintro e w' ⟨rfl, hww⟩; rw [hww]; clear hww w')
    | (go_at_call 13; refine (numbers_any g bm g2 _ _ s v wc hBoth.au.1 hBoth.dt.head hs).mono ?_; rintro e w2 ⟨rfl, hb2⟩)
    | (go_at_call 14; refine (awake3_any _).mono ?_; rintro e w3 ⟨rfl, hb3⟩))
  go_ret
  have h2 := hBoth.below.trans (hb2.mono hBoth.below.size)
  exact ⟨rfl, h2.trans (hb3.mono h2.size)⟩
end Go.Proofs.Ytlbbehhjehpefaa
