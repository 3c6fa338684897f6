/- Layer 4: ValueOrders. -/
import Derived.Test.YtlnpolepgdoloaaVTwo
namespace Go.Proofs.Ytlnpolepgdoloaa
open Go.RowKit
set_option linter.unusedVariables false
set_option linter.unusedSimpArgs false
set_option maxRecDepth 20000

set_option maxHeartbeats 8000000 in
theorem ValueOrders_any (a c : Vl) (w : World) (hna : a.n < 18446744073709551616) (hnc : c.n < 18446744073709551616) : Calls Try.prog 4 #[agV a, agV c] w (VMk (.bool true) w) := by
  have e1 : ∀ W, Calls Try.prog 18 #[agV a, agV c] W (VMk (.int .i64 (ordV a c)) W) := fun W => Order_val a c W hna hnc
  have e2 : ∀ W, Calls Try.prog 19 #[agV a, agV c] W (VMk (.int .i64 (ordV a c)) W) := fun W => rOrder_val a c W hna hnc
  have e3 : ∀ W, Calls Try.prog 20 #[agV a, agV c] W (VMk (.bool (sameV a c)) W) := fun W => Same_val a c W
  have e4 : ∀ W, Calls Try.prog 21 #[agV a, agV c] W (VMk (.bool (sameV a c)) W) := fun W => rSame_val a c W
  clear hna hnc
  generalize ordV a c = p at e1 e2
  generalize sameV a c = q at e3 e4
  have hpp : (p == p) = true := beq_self_eq_true p
  have hqq : (q == q) = true := beq_self_eq_true q
  have hs := short2 w a c
  obtain ⟨f1, f2, f3⟩ := W2s_facts w a c
  have E1 := Lib.hid e1
  have E2 := Lib.hid e2
  have E3 := Lib.hid e3
  have E4 := Lib.hid e4
  have F1 := Lib.hid f1
  have F2 := Lib.hid f2
  have F3 := Lib.hid f3
  clear e1 e2 e3 e4 f1 f2 f3
  rcases hsh : shortS [a.s, c.s] with _ | _
  · rw [hsh] at hs
    have HS := Lib.hid hs
    clear hs hsh
    go_enter Try.func4, Try.ntmps4
    go_wp2_with fail
    refine HS.out.mono ?_
    rintro e w' ⟨rfl, rfl⟩
    go_wp2
    go_ret
    exact ⟨rfl, F3.out⟩
  · rw [hsh] at hs
    have HS := Lib.hid hs
    clear hs hsh
    go_enter Try.func4, Try.ntmps4
    go_wp2_with fail
    refine HS.out.mono ?_
    rintro e w' ⟨rfl, rfl⟩
    generalize W2s w a c = wc at *
    clear HS
    go_wp2_with fail
    generalize w.heap.size + 1 = b2 at *
    have hB0 : Below w.heap.size w wc := F3.out
    have HB0 := Lib.hid hB0
    clear hB0
    have hS0 : (wc.cell? ⟨w.heap.size, 0, none⟩ = some (.int .i64 a.k) ∧ wc.cell? ⟨w.heap.size, 1, none⟩ = some (.int .i64 a.i) ∧ wc.cell? ⟨w.heap.size, 2, none⟩ = some (.bool a.b) ∧ wc.cell? ⟨w.heap.size, 3, none⟩ = some (.string a.s) ∧ wc.cell? ⟨w.heap.size, 4, none⟩ = some (.float .f64 a.n)) ∧ (wc.cell? ⟨b2, 0, none⟩ = some (.int .i64 c.k) ∧ wc.cell? ⟨b2, 1, none⟩ = some (.int .i64 c.i) ∧ wc.cell? ⟨b2, 2, none⟩ = some (.bool c.b) ∧ wc.cell? ⟨b2, 3, none⟩ = some (.string c.s) ∧ wc.cell? ⟨b2, 4, none⟩ = some (.float .f64 c.n)) := ⟨F1.out, F2.out⟩
    have hk : ∀ W W' : World, (Bx W w.heap.size a ∧ Bx W b2 c) → Below W.heap.size W W' → (Bx W' w.heap.size a ∧ Bx W' b2 c) := fun W W' h hb => ⟨h.1.below hb, h.2.below hb⟩
    have HK := Lib.hid hk
    clear hk F1 F2
    go_region_held3 (fun W => (W.cell? ⟨w.heap.size, 0, none⟩ = some (.int .i64 a.k) ∧ W.cell? ⟨w.heap.size, 1, none⟩ = some (.int .i64 a.i) ∧ W.cell? ⟨w.heap.size, 2, none⟩ = some (.bool a.b) ∧ W.cell? ⟨w.heap.size, 3, none⟩ = some (.string a.s) ∧ W.cell? ⟨w.heap.size, 4, none⟩ = some (.float .f64 a.n)) ∧ (W.cell? ⟨b2, 0, none⟩ = some (.int .i64 c.k) ∧ W.cell? ⟨b2, 1, none⟩ = some (.int .i64 c.i) ∧ W.cell? ⟨b2, 2, none⟩ = some (.bool c.b) ∧ W.cell? ⟨b2, 3, none⟩ = some (.string c.s) ∧ W.cell? ⟨b2, 4, none⟩ = some (.float .f64 c.n))) (first | exact hS0 | exact HK.out _ _ (by assumption) hbA | exact HK.out _ _ (by assumption) hbB | exact HK.out _ _ (by assumption) hbC | exact HK.out _ _ (by assumption) hbD | exact HK.out _ _ (by assumption) hbE) (first
      | (go_at_call 18; refine (E1.out _).mono ?_; rintro e wA ⟨rfl, hbA⟩)
      | (go_at_call 19; refine (E2.out _).mono ?_; rintro e wB ⟨rfl, hbB⟩)
      | (go_at_call 20; refine (E3.out _).mono ?_; rintro e wC ⟨rfl, hbC⟩)
      | (go_at_call 21; refine (E4.out _).mono ?_; rintro e wD ⟨rfl, hbD⟩)
      | (go_at_call 17; refine (awake4_any _).mono ?_; rintro e wE ⟨rfl, hbE⟩))
    go_wp2
    go_ret
    have B1 := (HB0.out.drew).trans (hbA.mono HB0.out.size)
    have B2 := B1.trans (hbB.mono B1.size)
    have B3 := B2.trans (hbC.mono B2.size)
    have B4 := B3.trans (hbD.mono B3.size)
    exact ⟨rfl, B4.trans (hbE.mono B4.size)⟩
end Go.Proofs.Ytlnpolepgdoloaa
