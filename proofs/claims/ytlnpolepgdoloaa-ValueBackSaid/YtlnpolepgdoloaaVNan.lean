/- Layer 4: the NaN by the document; values made of ints, floats, truths. -/
import Derived.Test.YtlnpolepgdoloaaVGood
import Derived.Test.YtlnpolepgdoloaaRefI
namespace Go.Proofs.Ytlnpolepgdoloaa
open Go.RowKit
set_option linter.unusedVariables false
set_option linter.unusedSimpArgs false
set_option maxRecDepth 20000

def nanL : List UInt8 := [127, 248, 0, 0, 0, 0, 0, 1]
theorem nan_step : (stepF 8 alNum nanL 0).1 = 9221120237041090561 := by decide

theorem rNaN_any (w : World) : Calls Try.prog 44 #[] w (VMk (.float .f64 9221120237041090561) w) := by
  go_enter Try.func44, Try.ntmps44
  have hb0 : ∀ W : World, Bt (W.alloc (.cells #[.int .u8 127, .int .u8 248, .int .u8 0, .int .u8 0, .int .u8 0, .int .u8 0, .int .u8 0, .int .u8 1] 5)) (.slice (some ⟨W.heap.size, 0, none⟩) 8 8) nanL := fun W => by
    refine ⟨⟨some ⟨W.heap.size, 0, none⟩, 8, rfl, by decide, by unfold maxLen; omega, (by intro h; cases h), fun _ => ⟨⟨W.heap.size, 0, none⟩, rfl, by simp, ?_⟩⟩, ?_⟩
    · intro j u hj
      have hc := cell_of_row (W.alloc (.cells #[.int .u8 127, .int .u8 248, .int .u8 0, .int .u8 0, .int .u8 0, .int .u8 0, .int .u8 0, .int .u8 1] 5)) W.heap.size j _ 5 (0, 0) (heap_alloc_new W _)
      rw [Addr.add_lit, Nat.zero_add, hc]
      rw [← hj]
      match j with
      | 0 | 1 | 2 | 3 | 4 | 5 | 6 | 7 => rfl
      | k + 8 => rfl
    · intro _ k hk
      simp [Value.ownBlock] at hk
      subst hk
      exact ⟨_, _, heap_alloc_new W _⟩
  have hs := RfS.mk _ _ nanL (hb0 w) (by decide) (w.heap.size + 1) (by simp)
  have hc := rfNum_any _ _ _ _ hs
  rw [nan_step] at hc
  have HC := Lib.hid hc
  clear hb0 hs hc
  go_wp2_with (go_at_call 71; refine HC.out.mono ?_; rintro e w1 ⟨rfl, hr1, ho1⟩)
  go_ret
  refine ⟨rfl, ?_⟩
  exact (vbox2 w _ _).trans (ho1.to_below (by simp; omega) (by omega))

theorem below_set5 {B k : Nat} {a w : World} (h : Below B a w) (hk : B ≤ k) (u0 u1 u2 u3 u4 : Value) :
    Below B a (((((w.setCell ⟨k, 0, none⟩ u0).setCell ⟨k, 1, none⟩ u1).setCell ⟨k, 2, none⟩ u2).setCell ⟨k, 3, none⟩ u3).setCell ⟨k, 4, none⟩ u4) :=
  ((((h.setCell (p := ⟨k, 0, none⟩) hk u0).setCell (p := ⟨k, 1, none⟩) hk u1).setCell (p := ⟨k, 2, none⟩) hk u2).setCell (p := ⟨k, 3, none⟩) hk u3).setCell (p := ⟨k, 4, none⟩) hk u4
theorem unary_neg_float (n : Nat) : Op.unary .neg (.float .f64 n) = pure (.float .f64 (Op.negFloat .f64 n)) := rfl
/-- values of one kind -/
abbrev vInt (i : Int) : Vl := ⟨1, i, false, ⟨#[]⟩, 0⟩
abbrev vNum (n : Nat) : Vl := ⟨4, 0, false, ⟨#[]⟩, n⟩
abbrev vTruth (b : Bool) : Vl := ⟨2, 0, b, ⟨#[]⟩, 0⟩
abbrev vZero : Vl := ⟨0, 0, false, ⟨#[]⟩, 0⟩

theorem rIntV_any (i : Int) (w : World) : Calls Try.prog 41 #[.int .i64 i] w (VMk (agV (vInt i)) w) := by
  have hsf := fun (w : World) (a : Addr) (m : Mode) (b : Nat) => run_store Try.prog w a (.float .f64 b) m rfl
  go_enter Try.func41, Try.ntmps41
  go_wp2
  exact bodyPost_ret (v := agV (vInt i)) (by simp [results, Try.results41, go_sem]) rfl ⟨rfl, (Below.refl _ _).alloc (Nat.le_refl _) _⟩
theorem rTruthV_any (b : Bool) (w : World) : Calls Try.prog 68 #[.bool b] w (VMk (agV (vTruth b)) w) := by
  have hsf := fun (w : World) (a : Addr) (m : Mode) (b : Nat) => run_store Try.prog w a (.float .f64 b) m rfl
  go_enter Try.func68, Try.ntmps68
  go_wp2
  exact bodyPost_ret (v := agV (vTruth b)) (by simp [results, Try.results68, go_sem]) rfl ⟨rfl, (Below.refl _ _).alloc (Nat.le_refl _) _⟩
set_option maxHeartbeats 1000000 in
theorem rNumV_any (n : Nat) (w : World) : Calls Try.prog 40 #[.float .f64 n] w (VMk (agV (vNum (numW n))) w) := by
  have hsf := fun (w : World) (a : Addr) (m : Mode) (b : Nat) => run_store Try.prog w a (.float .f64 b) m rfl
  rcases hn : (FloatKind.f64.format.order n n != some .eq) with _ | _
  · have e : numW n = n := by unfold numW nanB; rw [hn]; rfl
    rw [e]; clear e
    go_enter Try.func40, Try.ntmps40
    go_wp2
    exact bodyPost_ret (v := agV (vNum n)) (by simp [results, Try.results40, go_sem]) rfl ⟨rfl, (Below.refl _ _).alloc (Nat.le_refl _) _⟩
  · have e : numW n = 9221120237041090561 := by unfold numW nanB; rw [hn]; rfl
    rw [e]; clear e
    have hq : ∀ W, Calls Try.prog 44 #[] W (VMk (.float .f64 9221120237041090561) W) := rNaN_any
    generalize (9221120237041090561 : Nat) = q at hq ⊢
    have HQ := Lib.hid hq
    clear hq
    go_enter Try.func40, Try.ntmps40
    go_wp2_with (go_at_call 44; refine (HQ.out _).mono ?_; rintro e w1 ⟨rfl, hb1⟩; obtain ⟨hc1, hf1⟩ := bcell hb1)
    refine bodyPost_ret (v := agV (vNum q)) (by simp [results, Try.results40, go_sem, hc1]) rfl ⟨rfl, below_set5 (((Below.refl _ _).alloc (Nat.le_refl _) _).trans (hb1.mono (by simp))) (Nat.le_refl _) _ _ _ _ _⟩
end Go.Proofs.Ytlnpolepgdoloaa
