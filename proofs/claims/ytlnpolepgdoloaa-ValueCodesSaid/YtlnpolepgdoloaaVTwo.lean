/- Layer 4: what the laws begin with: boxes and a row of values; ValueCompares. -/
import Derived.Test.YtlnpolepgdoloaaVAwake
import Derived.Test.YtlnpolepgdoloaaVREq
namespace Go.Proofs.Ytlnpolepgdoloaa
open Go.RowKit
set_option linter.unusedVariables false
set_option linter.unusedSimpArgs false
set_option maxRecDepth 20000

abbrev bxO (v : Vl) : Obj := .cells #[.int .i64 v.k, .int .i64 v.i, .bool v.b, .string v.s, .float .f64 v.n] 24
/-- boxes of two, and a row of both -/
def W2s (w : World) (a c : Vl) : World := ((w.alloc (bxO a)).alloc (bxO c)).alloc (.cells #[.int .i64 a.k, .int .i64 a.i, .bool a.b, .string a.s, .float .f64 a.n, .int .i64 c.k, .int .i64 c.i, .bool c.b, .string c.s, .float .f64 c.n] 24)
theorem W2s_facts (w : World) (a c : Vl) : Bx (W2s w a c) w.heap.size a ∧ Bx (W2s w a c) (w.heap.size + 1) c ∧ Below w.heap.size w (W2s w a c) := by
  refine ⟨((Bx.new w a).alloc _).alloc _, ?_, vbox3 w _ _ _⟩
  have h := (Bx.new (w.alloc (bxO a)) c).alloc (.cells #[.int .i64 a.k, .int .i64 a.i, .bool a.b, .string a.s, .float .f64 a.n, .int .i64 c.k, .int .i64 c.i, .bool c.b, .string c.s, .float .f64 c.n] 24)
  have e : (w.alloc (bxO a)).heap.size = w.heap.size + 1 := by simp
  rw [e] at h
  exact h
theorem short2 (w : World) (a c : Vl) : Calls Try.prog 12 #[.slice (some ⟨w.heap.size + 2, 0, none⟩) 2 2] (W2s w a c) (VGv (.bool (shortS [a.s, c.s])) (W2s w a c)) := by
  have hh := heap_alloc_new ((w.alloc (bxO a)).alloc (bxO c)) (.cells #[.int .i64 a.k, .int .i64 a.i, .bool a.b, .string a.s, .float .f64 a.n, .int .i64 c.k, .int .i64 c.i, .bool c.b, .string c.s, .float .f64 c.n] 24)
  have e : ((w.alloc (bxO a)).alloc (bxO c)).heap.size = w.heap.size + 2 := by simp
  rw [e] at hh
  refine short_any _ _ _ (Txs_row (W2s w a c) (w.heap.size + 2) _ [a, c] (by simp) hh (fun k hk => ?_) 2 rfl)
  match k, hk with
  | 0, _ => rfl
  | 1, _ => rfl

set_option maxHeartbeats 4000000 in
theorem ValueCompares_any (a c : Vl) (w : World) (hna : a.n < 18446744073709551616) (hnc : c.n < 18446744073709551616) : Calls Try.prog 5 #[agV a, agV c] w (VMk (.bool true) w) := by
  have e1 : ∀ W, Calls Try.prog 22 #[agV a, agV c] W (VMk (pairBE (eqV a c).1 (eqV a c).2) W) := fun W => Equal_val a c W
  have e2 : ∀ W, Calls Try.prog 23 #[agV a, agV c] W (VMk (pairBE (eqV a c).1 (eqV a c).2) W) := fun W => rEqual_val a c W
  have e3 : ∀ W, Calls Try.prog 24 #[agV a, agV c] W (VMk (pairBE (ltV a c).1 (ltV a c).2) W) := fun W => Less_val a c W hna hnc
  have e4 : ∀ W, Calls Try.prog 25 #[agV a, agV c] W (VMk (pairBE (ltV a c).1 (ltV a c).2) W) := fun W => rLess_val a c W
  clear hna hnc
  generalize eqV a c = p at e1 e2
  generalize ltV a c = q at e3 e4
  obtain ⟨p1, p2⟩ := p
  obtain ⟨q1, q2⟩ := q
  have hs := short2 w a c
  obtain ⟨f1, f2, f3⟩ := W2s_facts w a c
  have E1 := Lib.hid e1
  have E2 := Lib.hid e2
  have E3 := Lib.hid e3
  have E4 := Lib.hid e4
  have F1 := Lib.hid f1
  have F2 := Lib.hid f2
  have F3 := Lib.hid f3
  clear e1 e2 e3 e4 f1 f2 f3
  rcases hsh : shortS [a.s, c.s] with _ | _
  · rw [hsh] at hs
    have HS := Lib.hid hs
    clear hs hsh
    go_enter Try.func5, Try.ntmps5
    go_wp2_with fail
    refine HS.out.mono ?_
    rintro e w' ⟨rfl, rfl⟩
    go_wp2
    go_ret
    exact ⟨rfl, F3.out⟩
  · rw [hsh] at hs
    have HS := Lib.hid hs
    clear hs hsh
    go_enter Try.func5, Try.ntmps5
    go_wp2_with fail
    refine HS.out.mono ?_
    rintro e w' ⟨rfl, rfl⟩
    generalize W2s w a c = wc at *
    clear HS
    obtain ⟨a0, a1, a2, a3, a4⟩ := F1.out
    obtain ⟨c0, c1, c2, c3, c4⟩ := F2.out
    go_wp2_with fail
    refine (E1.out _).mono ?_
    rintro e wd ⟨rfl, hb⟩
    clear a0 a1 a2 a3 a4 c0 c1 c2 c3 c4
    have F1 := Lib.hid (F1.out.below hb)
    have F2 := Lib.hid (F2.out.below hb)
    have F3 := Lib.hid (F3.out.trans (hb.mono F3.out.size))
    obtain ⟨a0, a1, a2, a3, a4⟩ := F1.out
    obtain ⟨c0, c1, c2, c3, c4⟩ := F2.out
    clear hb
    go_wp2_with fail
    refine (E2.out _).mono ?_
    rintro e we ⟨rfl, hb⟩
    clear a0 a1 a2 a3 a4 c0 c1 c2 c3 c4
    have F1 := Lib.hid (F1.out.below hb)
    have F2 := Lib.hid (F2.out.below hb)
    have F3 := Lib.hid (F3.out.trans (hb.mono F3.out.size))
    obtain ⟨a0, a1, a2, a3, a4⟩ := F1.out
    obtain ⟨c0, c1, c2, c3, c4⟩ := F2.out
    clear hb
    go_wp2_with fail
    refine (E3.out _).mono ?_
    rintro e wf ⟨rfl, hb⟩
    clear a0 a1 a2 a3 a4 c0 c1 c2 c3 c4
    have F1 := Lib.hid (F1.out.below hb)
    have F2 := Lib.hid (F2.out.below hb)
    have F3 := Lib.hid (F3.out.trans (hb.mono F3.out.size))
    obtain ⟨a0, a1, a2, a3, a4⟩ := F1.out
    obtain ⟨c0, c1, c2, c3, c4⟩ := F2.out
    clear hb
    go_wp2_with fail
    refine (E4.out _).mono ?_
    rintro e wg ⟨rfl, hb⟩
    clear a0 a1 a2 a3 a4 c0 c1 c2 c3 c4
    have F3 := Lib.hid (F3.out.trans (hb.mono F3.out.size))
    clear hb
    go_wp2_with fail
    refine (awake4_any _).mono ?_
    rintro e wh ⟨rfl, hb⟩
    have F3 := Lib.hid (F3.out.trans (hb.mono F3.out.size))
    clear hb
    go_wp2
    go_ret
    exact ⟨rfl, F3.out⟩
end Go.Proofs.Ytlnpolepgdoloaa
