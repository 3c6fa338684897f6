/- Layer 4: ValueGood. (Made by gen/genvgoodlaw.py.) -/
import Derived.Test.YtlnpolepgdoloaaVTwo
import Derived.Test.YtlnpolepgdoloaaVFits
namespace Go.Proofs.Ytlnpolepgdoloaa
open Go.RowKit
set_option linter.unusedVariables false
set_option linter.unusedSimpArgs false
set_option maxRecDepth 20000

/-- a field lies in block b -/
def Fx (W : World) (b : Nat) (nm : ByteArray) (fk : Int) (ev : Value) (f : Vl) : Prop := (W.cell? ⟨b, 0, none⟩ = some (.string nm) ∧ W.cell? ⟨b, 1, none⟩ = some (.int .i64 fk) ∧ W.cell? ⟨b, 2, none⟩ = some (ev) ∧ W.cell? ⟨b, 3, none⟩ = some (.int .i64 f.k) ∧ W.cell? ⟨b, 4, none⟩ = some (.int .i64 f.i) ∧ W.cell? ⟨b, 5, none⟩ = some (.bool f.b) ∧ W.cell? ⟨b, 6, none⟩ = some (.string f.s) ∧ W.cell? ⟨b, 7, none⟩ = some (.float .f64 f.n))
theorem Fx.below {w w' : World} {b : Nat} {nm : ByteArray} {fk : Int} {ev : Value} {f : Vl} (h : Fx w b nm fk ev f) (hb : Below w.heap.size w w') : Fx w' b nm fk ev f := by
  have hl : b < w.heap.size := World.block_lt_of_cell? w _ h.1
  obtain ⟨h0, h1, h2, h3, h4, h5, h6, h7⟩ := h
  exact ⟨(hb.cell (p := ⟨b, 0, none⟩) hl).trans h0, (hb.cell (p := ⟨b, 1, none⟩) hl).trans h1, (hb.cell (p := ⟨b, 2, none⟩) hl).trans h2, (hb.cell (p := ⟨b, 3, none⟩) hl).trans h3, (hb.cell (p := ⟨b, 4, none⟩) hl).trans h4, (hb.cell (p := ⟨b, 5, none⟩) hl).trans h5, (hb.cell (p := ⟨b, 6, none⟩) hl).trans h6, (hb.cell (p := ⟨b, 7, none⟩) hl).trans h7⟩
/-- boxes of a value and a field, a row of the value -/
def WGs (w : World) (v : Vl) (nm : ByteArray) (fk : Int) (ev : Value) (f : Vl) : World := ((w.alloc (bxO v)).alloc (.cells #[.string nm, .int .i64 fk, ev, .int .i64 f.k, .int .i64 f.i, .bool f.b, .string f.s, .float .f64 f.n] 27)).alloc (.cells #[.int .i64 v.k, .int .i64 v.i, .bool v.b, .string v.s, .float .f64 v.n] 24)
theorem WGs_facts (w : World) (v : Vl) (nm : ByteArray) (fk : Int) (ev : Value) (f : Vl) : Bx (WGs w v nm fk ev f) w.heap.size v ∧ Fx (WGs w v nm fk ev f) (w.heap.size + 1) nm fk ev f ∧ Below w.heap.size w (WGs w v nm fk ev f) := by
  refine ⟨((Bx.new w v).alloc _).alloc _, ?_, vbox3 w _ _ _⟩
  have h := heap_alloc_new (w.alloc (bxO v)) (.cells #[.string nm, .int .i64 fk, ev, .int .i64 f.k, .int .i64 f.i, .bool f.b, .string f.s, .float .f64 f.n] 27)
  have e : (w.alloc (bxO v)).heap.size = w.heap.size + 1 := by simp
  rw [e] at h
  have hF : Fx ((w.alloc (bxO v)).alloc (.cells #[.string nm, .int .i64 fk, ev, .int .i64 f.k, .int .i64 f.i, .bool f.b, .string f.s, .float .f64 f.n] 27)) (w.heap.size + 1) nm fk ev f :=
    ⟨(cell_of_row _ _ 0 _ _ (0, 0) h).trans rfl, (cell_of_row _ _ 1 _ _ (0, 0) h).trans rfl, (cell_of_row _ _ 2 _ _ (0, 0) h).trans rfl, (cell_of_row _ _ 3 _ _ (0, 0) h).trans rfl, (cell_of_row _ _ 4 _ _ (0, 0) h).trans rfl, (cell_of_row _ _ 5 _ _ (0, 0) h).trans rfl, (cell_of_row _ _ 6 _ _ (0, 0) h).trans rfl, (cell_of_row _ _ 7 _ _ (0, 0) h).trans rfl⟩
  exact hF.below ((Below.refl _ _).alloc (Nat.le_refl _) _)
theorem short1 (w : World) (v : Vl) (nm : ByteArray) (fk : Int) (ev : Value) (f : Vl) : Calls Try.prog 12 #[.slice (some ⟨w.heap.size + 2, 0, none⟩) 1 1] (WGs w v nm fk ev f) (VGv (.bool (shortS [v.s])) (WGs w v nm fk ev f)) := by
  have hh := heap_alloc_new ((w.alloc (bxO v)).alloc (.cells #[.string nm, .int .i64 fk, ev, .int .i64 f.k, .int .i64 f.i, .bool f.b, .string f.s, .float .f64 f.n] 27)) (.cells #[.int .i64 v.k, .int .i64 v.i, .bool v.b, .string v.s, .float .f64 v.n] 24)
  have e : ((w.alloc (bxO v)).alloc (.cells #[.string nm, .int .i64 fk, ev, .int .i64 f.k, .int .i64 f.i, .bool f.b, .string f.s, .float .f64 f.n] 27)).heap.size = w.heap.size + 2 := by simp
  rw [e] at hh
  refine short_any _ _ _ (Txs_row (WGs w v nm fk ev f) (w.heap.size + 2) _ [v] (by simp) hh (fun k hk => ?_) 1 rfl)
  match k, hk with
  | 0, _ => rfl

set_option maxHeartbeats 8000000 in
theorem ValueGood_any (v : Vl) (nm : ByteArray) (fk : Int) (ev : Value) (f : Vl) (ss : List ByteArray) (w : World) (hv : Ss w ev ss) : Calls Try.prog 3 #[agV v, agF nm fk ev f] w (VMk (.bool true) w) := by
  have e1 : ∀ W, Calls Try.prog 13 #[agV v] W (VMk (.bool (goodV v)) W) := fun W => Good_val v W
  have e2 : ∀ W, Calls Try.prog 14 #[agV v] W (VMk (.bool (goodV v)) W) := fun W => rGood_val v W
  have e3 : ∀ W, Below w.heap.size w W → Calls Try.prog 15 #[agV v, agF nm fk ev f] W (VMk (.int .i64 (fitsV v fk ss)) W) := fun W hb => Fits_val v nm fk ev f ss W (hv.below hb (Nat.le_refl _))
  have e4 : ∀ W, Below w.heap.size w W → Calls Try.prog 16 #[agV v, agF nm fk ev f] W (VMk (.int .i64 (fitsV v fk ss)) W) := fun W hb => rFits_val v nm fk ev f ss W (hv.below hb (Nat.le_refl _))
  generalize goodV v = q at e1 e2
  generalize fitsV v fk ss = p at e3 e4
  have hpp : (p == p) = true := beq_self_eq_true p
  have hqq : (q == q) = true := beq_self_eq_true q
  have hs := short1 w v nm fk ev f
  obtain ⟨f1, f2, f3⟩ := WGs_facts w v nm fk ev f
  obtain ⟨A, c, rfl, hm, -⟩ := hv.open
  unfold maxLen at hm
  have E1 := Lib.hid e1
  have E2 := Lib.hid e2
  have E3 := Lib.hid e3
  have E4 := Lib.hid e4
  have F1 := Lib.hid f1
  have F2 := Lib.hid f2
  have F3 := Lib.hid f3
  clear e1 e2 e3 e4 f1 f2 f3 hv
  rcases hsh : shortS [v.s] with _ | _
  · rw [hsh] at hs
    have HS := Lib.hid hs
    clear hs hsh
    go_enter Try.func3, Try.ntmps3
    go_wp2_with fail
    refine HS.out.mono ?_
    rintro e w' ⟨rfl, rfl⟩
    go_wp2
    go_ret
    exact ⟨rfl, F3.out⟩
  rw [hsh] at hs
  have HS := Lib.hid hs
  clear hs hsh
  by_cases hl : 100 < ss.length
  · have hl' : (100 : Int) < (ss.length : Int) := by omega
    clear hl
    go_enter Try.func3, Try.ntmps3
    go_wp2_with fail
    refine HS.out.mono ?_
    rintro e w' ⟨rfl, rfl⟩
    obtain ⟨c0, c1, c2, c3, c4, c5, c6, c7⟩ := F2.out
    generalize WGs w v nm fk (.slice A ss.length c) f = wc at *
    go_wp2
    go_ret
    exact ⟨rfl, F3.out⟩
  · have hl' : (ss.length : Int) ≤ 100 := by omega
    clear hl
    go_enter Try.func3, Try.ntmps3
    go_wp2_with fail
    refine HS.out.mono ?_
    rintro e w' ⟨rfl, rfl⟩
    obtain ⟨c0, c1, c2, c3, c4, c5, c6, c7⟩ := F2.out
    generalize WGs w v nm fk (.slice A ss.length c) f = wc at *
    clear HS
    go_wp2_with fail
    clear c0 c1 c2 c3 c4 c5 c6 c7
    generalize w.heap.size + 1 = b2 at *
    have hS0 : Below w.heap.size w wc.drew ∧ (wc.cell? ⟨w.heap.size, 0, none⟩ = some (.int .i64 v.k) ∧ wc.cell? ⟨w.heap.size, 1, none⟩ = some (.int .i64 v.i) ∧ wc.cell? ⟨w.heap.size, 2, none⟩ = some (.bool v.b) ∧ wc.cell? ⟨w.heap.size, 3, none⟩ = some (.string v.s) ∧ wc.cell? ⟨w.heap.size, 4, none⟩ = some (.float .f64 v.n)) ∧ (wc.cell? ⟨b2, 0, none⟩ = some (.string nm) ∧ wc.cell? ⟨b2, 1, none⟩ = some (.int .i64 fk) ∧ wc.cell? ⟨b2, 2, none⟩ = some (.slice A ss.length c) ∧ wc.cell? ⟨b2, 3, none⟩ = some (.int .i64 f.k) ∧ wc.cell? ⟨b2, 4, none⟩ = some (.int .i64 f.i) ∧ wc.cell? ⟨b2, 5, none⟩ = some (.bool f.b) ∧ wc.cell? ⟨b2, 6, none⟩ = some (.string f.s) ∧ wc.cell? ⟨b2, 7, none⟩ = some (.float .f64 f.n)) := ⟨F3.out.drew, F1.out, F2.out⟩
    have hk : ∀ W W' : World, (Below w.heap.size w W ∧ Bx W w.heap.size v ∧ Fx W b2 nm fk (.slice A ss.length c) f) → Below W.heap.size W W' → (Below w.heap.size w W' ∧ Bx W' w.heap.size v ∧ Fx W' b2 nm fk (.slice A ss.length c) f) := fun W W' h hb => ⟨h.1.trans (hb.mono h.1.size), h.2.1.below hb, h.2.2.below hb⟩
    have HK := Lib.hid hk
    clear hk F1 F2
    go_region_held3 (fun W => Below w.heap.size w W ∧ (W.cell? ⟨w.heap.size, 0, none⟩ = some (.int .i64 v.k) ∧ W.cell? ⟨w.heap.size, 1, none⟩ = some (.int .i64 v.i) ∧ W.cell? ⟨w.heap.size, 2, none⟩ = some (.bool v.b) ∧ W.cell? ⟨w.heap.size, 3, none⟩ = some (.string v.s) ∧ W.cell? ⟨w.heap.size, 4, none⟩ = some (.float .f64 v.n)) ∧ (W.cell? ⟨b2, 0, none⟩ = some (.string nm) ∧ W.cell? ⟨b2, 1, none⟩ = some (.int .i64 fk) ∧ W.cell? ⟨b2, 2, none⟩ = some (.slice A ss.length c) ∧ W.cell? ⟨b2, 3, none⟩ = some (.int .i64 f.k) ∧ W.cell? ⟨b2, 4, none⟩ = some (.int .i64 f.i) ∧ W.cell? ⟨b2, 5, none⟩ = some (.bool f.b) ∧ W.cell? ⟨b2, 6, none⟩ = some (.string f.s) ∧ W.cell? ⟨b2, 7, none⟩ = some (.float .f64 f.n))) (first | exact hS0 | exact HK.out _ _ (by assumption) hbA | exact HK.out _ _ (by assumption) hbB | exact HK.out _ _ (by assumption) hbC | exact HK.out _ _ (by assumption) hbD | exact HK.out _ _ (by assumption) hbE) (first
      | (go_at_call 13; refine (E1.out _).mono ?_; rintro e wA ⟨rfl, hbA⟩)
      | (go_at_call 14; refine (E2.out _).mono ?_; rintro e wB ⟨rfl, hbB⟩)
      | (go_at_call 15; refine (E3.out _ (And.left (by assumption))).mono ?_; rintro e wC ⟨rfl, hbC⟩)
      | (go_at_call 16; refine (E4.out _ (And.left (by assumption))).mono ?_; rintro e wD ⟨rfl, hbD⟩)
      | (go_at_call 17; refine (awake4_any _).mono ?_; rintro e wE ⟨rfl, hbE⟩))
    go_wp2
    go_ret
    have B1 := (F3.out.drew).trans (hbA.mono F3.out.size)
    have B2 := B1.trans (hbB.mono B1.size)
    have B3 := B2.trans (hbC.mono B2.size)
    have B4 := B3.trans (hbD.mono B3.size)
    exact ⟨rfl, B4.trans (hbE.mono B4.size)⟩
end Go.Proofs.Ytlnpolepgdoloaa
