/- Layer 4: ValueTotal. (Made by gen/genvtotal.py.) -/
import Derived.Test.YtlnpolepgdoloaaVTot
import Derived.Test.YtlnpolepgdoloaaVTwo
namespace Go.Proofs.Ytlnpolepgdoloaa
open Go.RowKit
set_option linter.unusedVariables false
set_option linter.unusedSimpArgs false
set_option maxRecDepth 20000

/-- boxes of three, and a row of all -/
def W3s (w : World) (a b c : Vl) : World := (((w.alloc (bxO a)).alloc (bxO b)).alloc (bxO c)).alloc (.cells #[.int .i64 a.k, .int .i64 a.i, .bool a.b, .string a.s, .float .f64 a.n, .int .i64 b.k, .int .i64 b.i, .bool b.b, .string b.s, .float .f64 b.n, .int .i64 c.k, .int .i64 c.i, .bool c.b, .string c.s, .float .f64 c.n] 24)
theorem W3s_facts (w : World) (a b c : Vl) : Bx (W3s w a b c) w.heap.size a ∧ Bx (W3s w a b c) (w.heap.size + 1) b ∧ Bx (W3s w a b c) (w.heap.size + 2) c ∧ Below w.heap.size w (W3s w a b c) := by
  refine ⟨(((Bx.new w a).alloc _).alloc _).alloc _, ?_, ?_, (vbox3 w _ _ _).alloc (by simp; omega) _⟩
  · have h := ((Bx.new (w.alloc (bxO a)) b).alloc (bxO c)).alloc (.cells #[.int .i64 a.k, .int .i64 a.i, .bool a.b, .string a.s, .float .f64 a.n, .int .i64 b.k, .int .i64 b.i, .bool b.b, .string b.s, .float .f64 b.n, .int .i64 c.k, .int .i64 c.i, .bool c.b, .string c.s, .float .f64 c.n] 24)
    have e : (w.alloc (bxO a)).heap.size = w.heap.size + 1 := by simp
    rw [e] at h
    exact h
  · have h := (Bx.new ((w.alloc (bxO a)).alloc (bxO b)) c).alloc (.cells #[.int .i64 a.k, .int .i64 a.i, .bool a.b, .string a.s, .float .f64 a.n, .int .i64 b.k, .int .i64 b.i, .bool b.b, .string b.s, .float .f64 b.n, .int .i64 c.k, .int .i64 c.i, .bool c.b, .string c.s, .float .f64 c.n] 24)
    have e : ((w.alloc (bxO a)).alloc (bxO b)).heap.size = w.heap.size + 2 := by simp
    rw [e] at h
    exact h
theorem short3 (w : World) (a b c : Vl) : Calls Try.prog 12 #[.slice (some ⟨w.heap.size + 3, 0, none⟩) 3 3] (W3s w a b c) (VGv (.bool (shortS [a.s, b.s, c.s])) (W3s w a b c)) := by
  have hh := heap_alloc_new (((w.alloc (bxO a)).alloc (bxO b)).alloc (bxO c)) (.cells #[.int .i64 a.k, .int .i64 a.i, .bool a.b, .string a.s, .float .f64 a.n, .int .i64 b.k, .int .i64 b.i, .bool b.b, .string b.s, .float .f64 b.n, .int .i64 c.k, .int .i64 c.i, .bool c.b, .string c.s, .float .f64 c.n] 24)
  have e : (((w.alloc (bxO a)).alloc (bxO b)).alloc (bxO c)).heap.size = w.heap.size + 3 := by simp
  rw [e] at hh
  refine short_any _ _ _ (Txs_row (W3s w a b c) (w.heap.size + 3) _ [a, b, c] (by simp) hh (fun k hk => ?_) 3 rfl)
  match k, hk with
  | 0, _ => rfl
  | 1, _ => rfl
  | 2, _ => rfl

set_option maxHeartbeats 8000000 in
theorem ValueTotal_any (a b c : Vl) (w : World) (hna : a.n < 18446744073709551616) (hnb : b.n < 18446744073709551616) (hnc : c.n < 18446744073709551616) : Calls Try.prog 9 #[agV a, agV b, agV c] w (VMk (.bool true) w) := by
  have o1 : ∀ W, Calls Try.prog 18 #[agV a, agV b] W (VMk (.int .i64 (ordV a b)) W) := fun W => Order_val a b W hna hnb
  have o2 : ∀ W, Calls Try.prog 18 #[agV b, agV c] W (VMk (.int .i64 (ordV b c)) W) := fun W => Order_val b c W hnb hnc
  have o3 : ∀ W, Calls Try.prog 18 #[agV a, agV c] W (VMk (.int .i64 (ordV a c)) W) := fun W => Order_val a c W hna hnc
  have o4 : ∀ W, Calls Try.prog 18 #[agV b, agV a] W (VMk (.int .i64 (-ordV a b)) W) := fun W => by rw [← ordV_swap a b]; exact Order_val b a W hnb hna
  have o5 : ∀ W, Calls Try.prog 18 #[agV a, agV a] W (VMk (.int .i64 0) W) := fun W => by have h := Order_val a a W hna hna; rwa [ordV_self] at h
  have g1 : ∀ W, Calls Try.prog 14 #[agV a] W (VMk (.bool (goodV a)) W) := fun W => rGood_val a W
  have g2 : ∀ W, Calls Try.prog 14 #[agV b] W (VMk (.bool (goodV b)) W) := fun W => rGood_val b W
  have s1 : goodV a = true → goodV b = true → ∀ W, Calls Try.prog 20 #[agV a, agV b] W (VMk (.bool (ordV a b == 0)) W) := fun ha hb W => by rw [ordV_zero a b ha hb hna hnb]; exact Same_val a b W
  obtain ⟨hx1, hx2⟩ := ordV_range a b
  have ht : ordV a b ≤ 0 → ordV b c ≤ 0 → ordV a c ≤ 0 ∧ (ordV a b < 0 → ordV a c < 0) := ordV_trans a b c
  clear hna hnb hnc
  generalize goodV a = ga at g1 s1
  generalize goodV b = gb at g2 s1
  generalize ordV a b = x at *
  generalize ordV b c = y at *
  generalize ordV a c = z at *
  have hs := short3 w a b c
  obtain ⟨f1, f2, f3, f4⟩ := W3s_facts w a b c
  have O1 := Lib.hid o1
  have O2 := Lib.hid o2
  have O3 := Lib.hid o3
  have O4 := Lib.hid o4
  have O5 := Lib.hid o5
  have G1 := Lib.hid g1
  have G2 := Lib.hid g2
  have S1 := Lib.hid s1
  have F1 := Lib.hid f1
  have F2 := Lib.hid f2
  have F3 := Lib.hid f3
  have F4 := Lib.hid f4
  have HT := Lib.hid ht
  clear o1 o2 o3 o4 o5 g1 g2 s1 f1 f2 f3 f4 ht
  rcases hsh : shortS [a.s, b.s, c.s] with _ | _
  · rw [hsh] at hs
    have HS := Lib.hid hs
    clear hs hsh
    go_enter Try.func9, Try.ntmps9
    go_wp2_with fail
    refine HS.out.mono ?_
    rintro e w' ⟨rfl, rfl⟩
    go_wp2
    go_ret
    exact ⟨rfl, F4.out⟩
  rw [hsh] at hs
  have HS := Lib.hid hs
  clear hs hsh
  go_enter Try.func9, Try.ntmps9
  go_wp2_with fail
  refine HS.out.mono ?_
  rintro e w' ⟨rfl, rfl⟩
  generalize W3s w a b c = wc at *
  clear HS
  go_wp2_with fail
  generalize hb3e : w.heap.size + 2 = b3 at *
  generalize hb2e : w.heap.size + 1 = b2 at *
  have hS0 : (wc.cell? ⟨w.heap.size, 0, none⟩ = some (.int .i64 a.k) ∧ wc.cell? ⟨w.heap.size, 1, none⟩ = some (.int .i64 a.i) ∧ wc.cell? ⟨w.heap.size, 2, none⟩ = some (.bool a.b) ∧ wc.cell? ⟨w.heap.size, 3, none⟩ = some (.string a.s) ∧ wc.cell? ⟨w.heap.size, 4, none⟩ = some (.float .f64 a.n)) ∧ (wc.cell? ⟨b2, 0, none⟩ = some (.int .i64 b.k) ∧ wc.cell? ⟨b2, 1, none⟩ = some (.int .i64 b.i) ∧ wc.cell? ⟨b2, 2, none⟩ = some (.bool b.b) ∧ wc.cell? ⟨b2, 3, none⟩ = some (.string b.s) ∧ wc.cell? ⟨b2, 4, none⟩ = some (.float .f64 b.n)) ∧ (wc.cell? ⟨b3, 0, none⟩ = some (.int .i64 c.k) ∧ wc.cell? ⟨b3, 1, none⟩ = some (.int .i64 c.i) ∧ wc.cell? ⟨b3, 2, none⟩ = some (.bool c.b) ∧ wc.cell? ⟨b3, 3, none⟩ = some (.string c.s) ∧ wc.cell? ⟨b3, 4, none⟩ = some (.float .f64 c.n)) := ⟨F1.out, F2.out, F3.out⟩
  have hk : ∀ W W' : World, (Bx W w.heap.size a ∧ Bx W b2 b ∧ Bx W b3 c) → Below W.heap.size W W' → (Bx W' w.heap.size a ∧ Bx W' b2 b ∧ Bx W' b3 c) := fun W W' h hb => ⟨h.1.below hb, h.2.1.below hb, h.2.2.below hb⟩
  have HK := Lib.hid hk
  clear hk
  clear hb3e hb2e
  go_region_held3 (fun W => (W.cell? ⟨w.heap.size, 0, none⟩ = some (.int .i64 a.k) ∧ W.cell? ⟨w.heap.size, 1, none⟩ = some (.int .i64 a.i) ∧ W.cell? ⟨w.heap.size, 2, none⟩ = some (.bool a.b) ∧ W.cell? ⟨w.heap.size, 3, none⟩ = some (.string a.s) ∧ W.cell? ⟨w.heap.size, 4, none⟩ = some (.float .f64 a.n)) ∧ (W.cell? ⟨b2, 0, none⟩ = some (.int .i64 b.k) ∧ W.cell? ⟨b2, 1, none⟩ = some (.int .i64 b.i) ∧ W.cell? ⟨b2, 2, none⟩ = some (.bool b.b) ∧ W.cell? ⟨b2, 3, none⟩ = some (.string b.s) ∧ W.cell? ⟨b2, 4, none⟩ = some (.float .f64 b.n)) ∧ (W.cell? ⟨b3, 0, none⟩ = some (.int .i64 c.k) ∧ W.cell? ⟨b3, 1, none⟩ = some (.int .i64 c.i) ∧ W.cell? ⟨b3, 2, none⟩ = some (.bool c.b) ∧ W.cell? ⟨b3, 3, none⟩ = some (.string c.s) ∧ W.cell? ⟨b3, 4, none⟩ = some (.float .f64 c.n))) (first | exact hS0 | exact HK.out _ _ (by assumption) hbA | exact HK.out _ _ (by assumption) hbB | exact HK.out _ _ (by assumption) hbC) (first
    | (go_at_call 18; ((with_reducible refine (O1.out _).mono ?_); rintro e wA ⟨rfl, hbA⟩))
    | (go_at_call 18; ((with_reducible refine (O2.out _).mono ?_); rintro e wB ⟨rfl, hbB⟩))
    | (go_at_call 18; ((with_reducible refine (O3.out _).mono ?_); rintro e wC ⟨rfl, hbC⟩)))
  have HH := Lib.hid (show Bx wC w.heap.size a ∧ Bx wC b2 b ∧ Bx wC b3 c by assumption)
  have hB1 := (F4.out.drew).trans (hbA.mono F4.out.size)
  have hB2 := hB1.trans (hbB.mono hB1.size)
  have F4 := Lib.hid (hB2.trans (hbC.mono hB2.size))
  clear hbA hbB hbC hB1 hB2 O1 O2 O3 F1 F2 F3 hS0
  go_wp2_with fail
  refine (O4.out _).mono ?_
  rintro e wD ⟨rfl, hb⟩
  have HH := Lib.hid (HK.out _ _ HH.out hb)
  have F4 := Lib.hid (F4.out.trans (hb.mono F4.out.size))
  obtain ⟨⟨a0, a1, a2, a3, a4⟩, ⟨c0, c1, c2, c3, c4⟩, -⟩ := HH.out
  clear hb
  go_wp2_with fail
  refine (O5.out _).mono ?_
  rintro e wE ⟨rfl, hb⟩
  clear a0 a1 a2 a3 a4 c0 c1 c2 c3 c4
  have HH := Lib.hid (HK.out _ _ HH.out hb)
  have F4 := Lib.hid (F4.out.trans (hb.mono F4.out.size))
  obtain ⟨⟨a0, a1, a2, a3, a4⟩, ⟨c0, c1, c2, c3, c4⟩, -⟩ := HH.out
  clear hb O4 O5
  have hcase : (decide (x ≤ 0) = false ∧ decide (x < 0) = false) ∨ (decide (x ≤ 0) = true ∧ decide (y ≤ 0) = false) ∨ (decide (x ≤ 0) = true ∧ decide (y ≤ 0) = true ∧ decide (0 < z) = false ∧ (decide (x < 0) = false ∨ decide (0 ≤ z) = false)) := by
    simp only [decide_eq_true_eq, decide_eq_false_iff_not]
    by_cases p1 : x ≤ 0
    · right
      by_cases p2 : y ≤ 0
      · right
        have h := HT.out p1 p2
        refine ⟨p1, p2, by omega, ?_⟩
        by_cases p3 : x < 0
        · right; have := h.2 p3; omega
        · left; exact p3
      · left; exact ⟨p1, p2⟩
    · left; omega
  clear HT hx1 hx2
  rcases hcase with ⟨d1, d2⟩ | ⟨d1, d2⟩ | ⟨d1, d2, d3, d4 | d4⟩
  · 
    go_wp2_with fail
    refine (G1.out _).mono ?_
    rintro e wF ⟨rfl, hb⟩
    clear a0 a1 a2 a3 a4 c0 c1 c2 c3 c4
    have HH := Lib.hid (HK.out _ _ HH.out hb)
    have F4 := Lib.hid (F4.out.trans (hb.mono F4.out.size))
    obtain ⟨⟨a0, a1, a2, a3, a4⟩, ⟨c0, c1, c2, c3, c4⟩, -⟩ := HH.out
    clear hb
    rcases ga with _ | _
    · go_wp2_with fail
      refine (awake4_any _).mono ?_
      rintro e wG ⟨rfl, hb⟩
      have F4 := Lib.hid (F4.out.trans (hb.mono F4.out.size))
      clear hb a0 a1 a2 a3 a4 c0 c1 c2 c3 c4
      go_wp2
      go_ret
      exact ⟨rfl, F4.out⟩
    go_wp2_with fail
    refine (G2.out _).mono ?_
    rintro e wG ⟨rfl, hb⟩
    clear a0 a1 a2 a3 a4 c0 c1 c2 c3 c4
    have HH := Lib.hid (HK.out _ _ HH.out hb)
    have F4 := Lib.hid (F4.out.trans (hb.mono F4.out.size))
    obtain ⟨⟨a0, a1, a2, a3, a4⟩, ⟨c0, c1, c2, c3, c4⟩, -⟩ := HH.out
    clear hb
    rcases gb with _ | _
    · go_wp2_with fail
      refine (awake4_any _).mono ?_
      rintro e wH ⟨rfl, hb⟩
      have F4 := Lib.hid (F4.out.trans (hb.mono F4.out.size))
      clear hb a0 a1 a2 a3 a4 c0 c1 c2 c3 c4
      go_wp2
      go_ret
      exact ⟨rfl, F4.out⟩
    have hqq : ((x == 0) == (x == 0)) = true := beq_self_eq_true _
    go_wp2_with fail
    refine (S1.out (by trivial) (by trivial) _).mono ?_
    rintro e wH ⟨rfl, hb⟩
    clear a0 a1 a2 a3 a4 c0 c1 c2 c3 c4
    have F4 := Lib.hid (F4.out.trans (hb.mono F4.out.size))
    clear hb
    go_wp2_with fail
    refine (awake4_any _).mono ?_
    rintro e wI ⟨rfl, hb⟩
    have F4 := Lib.hid (F4.out.trans (hb.mono F4.out.size))
    clear hb
    go_wp2
    go_ret
    exact ⟨rfl, F4.out⟩
  · rcases hlt : decide (x < 0) with _ | _
    all_goals
      go_wp2_with fail
      refine (G1.out _).mono ?_
      rintro e wF ⟨rfl, hb⟩
      clear a0 a1 a2 a3 a4 c0 c1 c2 c3 c4
      have HH := Lib.hid (HK.out _ _ HH.out hb)
      have F4 := Lib.hid (F4.out.trans (hb.mono F4.out.size))
      obtain ⟨⟨a0, a1, a2, a3, a4⟩, ⟨c0, c1, c2, c3, c4⟩, -⟩ := HH.out
      clear hb
      rcases ga with _ | _
      · go_wp2_with fail
        refine (awake4_any _).mono ?_
        rintro e wG ⟨rfl, hb⟩
        have F4 := Lib.hid (F4.out.trans (hb.mono F4.out.size))
        clear hb a0 a1 a2 a3 a4 c0 c1 c2 c3 c4
        go_wp2
        go_ret
        exact ⟨rfl, F4.out⟩
      go_wp2_with fail
      refine (G2.out _).mono ?_
      rintro e wG ⟨rfl, hb⟩
      clear a0 a1 a2 a3 a4 c0 c1 c2 c3 c4
      have HH := Lib.hid (HK.out _ _ HH.out hb)
      have F4 := Lib.hid (F4.out.trans (hb.mono F4.out.size))
      obtain ⟨⟨a0, a1, a2, a3, a4⟩, ⟨c0, c1, c2, c3, c4⟩, -⟩ := HH.out
      clear hb
      rcases gb with _ | _
      · go_wp2_with fail
        refine (awake4_any _).mono ?_
        rintro e wH ⟨rfl, hb⟩
        have F4 := Lib.hid (F4.out.trans (hb.mono F4.out.size))
        clear hb a0 a1 a2 a3 a4 c0 c1 c2 c3 c4
        go_wp2
        go_ret
        exact ⟨rfl, F4.out⟩
      have hqq : ((x == 0) == (x == 0)) = true := beq_self_eq_true _
      go_wp2_with fail
      refine (S1.out (by trivial) (by trivial) _).mono ?_
      rintro e wH ⟨rfl, hb⟩
      clear a0 a1 a2 a3 a4 c0 c1 c2 c3 c4
      have F4 := Lib.hid (F4.out.trans (hb.mono F4.out.size))
      clear hb
      go_wp2_with fail
      refine (awake4_any _).mono ?_
      rintro e wI ⟨rfl, hb⟩
      have F4 := Lib.hid (F4.out.trans (hb.mono F4.out.size))
      clear hb
      go_wp2
      go_ret
      exact ⟨rfl, F4.out⟩
  · 
    go_wp2_with fail
    refine (G1.out _).mono ?_
    rintro e wF ⟨rfl, hb⟩
    clear a0 a1 a2 a3 a4 c0 c1 c2 c3 c4
    have HH := Lib.hid (HK.out _ _ HH.out hb)
    have F4 := Lib.hid (F4.out.trans (hb.mono F4.out.size))
    obtain ⟨⟨a0, a1, a2, a3, a4⟩, ⟨c0, c1, c2, c3, c4⟩, -⟩ := HH.out
    clear hb
    rcases ga with _ | _
    · go_wp2_with fail
      refine (awake4_any _).mono ?_
      rintro e wG ⟨rfl, hb⟩
      have F4 := Lib.hid (F4.out.trans (hb.mono F4.out.size))
      clear hb a0 a1 a2 a3 a4 c0 c1 c2 c3 c4
      go_wp2
      go_ret
      exact ⟨rfl, F4.out⟩
    go_wp2_with fail
    refine (G2.out _).mono ?_
    rintro e wG ⟨rfl, hb⟩
    clear a0 a1 a2 a3 a4 c0 c1 c2 c3 c4
    have HH := Lib.hid (HK.out _ _ HH.out hb)
    have F4 := Lib.hid (F4.out.trans (hb.mono F4.out.size))
    obtain ⟨⟨a0, a1, a2, a3, a4⟩, ⟨c0, c1, c2, c3, c4⟩, -⟩ := HH.out
    clear hb
    rcases gb with _ | _
    · go_wp2_with fail
      refine (awake4_any _).mono ?_
      rintro e wH ⟨rfl, hb⟩
      have F4 := Lib.hid (F4.out.trans (hb.mono F4.out.size))
      clear hb a0 a1 a2 a3 a4 c0 c1 c2 c3 c4
      go_wp2
      go_ret
      exact ⟨rfl, F4.out⟩
    have hqq : ((x == 0) == (x == 0)) = true := beq_self_eq_true _
    go_wp2_with fail
    refine (S1.out (by trivial) (by trivial) _).mono ?_
    rintro e wH ⟨rfl, hb⟩
    clear a0 a1 a2 a3 a4 c0 c1 c2 c3 c4
    have F4 := Lib.hid (F4.out.trans (hb.mono F4.out.size))
    clear hb
    go_wp2_with fail
    refine (awake4_any _).mono ?_
    rintro e wI ⟨rfl, hb⟩
    have F4 := Lib.hid (F4.out.trans (hb.mono F4.out.size))
    clear hb
    go_wp2
    go_ret
    exact ⟨rfl, F4.out⟩
  · rcases hlt : decide (x < 0) with _ | _
    all_goals
      go_wp2_with fail
      refine (G1.out _).mono ?_
      rintro e wF ⟨rfl, hb⟩
      clear a0 a1 a2 a3 a4 c0 c1 c2 c3 c4
      have HH := Lib.hid (HK.out _ _ HH.out hb)
      have F4 := Lib.hid (F4.out.trans (hb.mono F4.out.size))
      obtain ⟨⟨a0, a1, a2, a3, a4⟩, ⟨c0, c1, c2, c3, c4⟩, -⟩ := HH.out
      clear hb
      rcases ga with _ | _
      · go_wp2_with fail
        refine (awake4_any _).mono ?_
        rintro e wG ⟨rfl, hb⟩
        have F4 := Lib.hid (F4.out.trans (hb.mono F4.out.size))
        clear hb a0 a1 a2 a3 a4 c0 c1 c2 c3 c4
        go_wp2
        go_ret
        exact ⟨rfl, F4.out⟩
      go_wp2_with fail
      refine (G2.out _).mono ?_
      rintro e wG ⟨rfl, hb⟩
      clear a0 a1 a2 a3 a4 c0 c1 c2 c3 c4
      have HH := Lib.hid (HK.out _ _ HH.out hb)
      have F4 := Lib.hid (F4.out.trans (hb.mono F4.out.size))
      obtain ⟨⟨a0, a1, a2, a3, a4⟩, ⟨c0, c1, c2, c3, c4⟩, -⟩ := HH.out
      clear hb
      rcases gb with _ | _
      · go_wp2_with fail
        refine (awake4_any _).mono ?_
        rintro e wH ⟨rfl, hb⟩
        have F4 := Lib.hid (F4.out.trans (hb.mono F4.out.size))
        clear hb a0 a1 a2 a3 a4 c0 c1 c2 c3 c4
        go_wp2
        go_ret
        exact ⟨rfl, F4.out⟩
      have hqq : ((x == 0) == (x == 0)) = true := beq_self_eq_true _
      go_wp2_with fail
      refine (S1.out (by trivial) (by trivial) _).mono ?_
      rintro e wH ⟨rfl, hb⟩
      clear a0 a1 a2 a3 a4 c0 c1 c2 c3 c4
      have F4 := Lib.hid (F4.out.trans (hb.mono F4.out.size))
      clear hb
      go_wp2_with fail
      refine (awake4_any _).mono ?_
      rintro e wI ⟨rfl, hb⟩
      have F4 := Lib.hid (F4.out.trans (hb.mono F4.out.size))
      clear hb
      go_wp2
      go_ret
      exact ⟨rfl, F4.out⟩
end Go.Proofs.Ytlnpolepgdoloaa
