/- Layer 4: have values short texts. -/
import Derived.Test.YtlnpolepgdoloaaVSame
namespace Go.Proofs.Ytlnpolepgdoloaa
open Go.RowKit
set_option linter.unusedVariables false
set_option linter.unusedSimpArgs false
set_option maxRecDepth 20000

/-- the slice value v's values have these texts -/
def Txs (w : World) (v : Value) (ss : List ByteArray) : Prop :=
  ∃ A c, v = .slice A ss.length c ∧ ss.length ≤ 1000 ∧ ∀ k (hk : k < ss.length), ∃ ad : Addr, A = some ad ∧ w.cell? ⟨(ad.add (k * 5)).block, (ad.add (k * 5)).off + 3, none⟩ = some (.string ss[k])
def shortS (ss : List ByteArray) : Bool := ss.all fun s => decide (s.size ≤ 1000)
theorem shortS_take (ss : List ByteArray) (k : Nat) (hk : k < ss.length) : shortS (ss.take (k + 1)) = (shortS (ss.take k) && decide (ss[k].size ≤ 1000)) := by
  unfold shortS; rw [List.take_succ_eq_append_getElem hk, List.all_append]; simp

set_option maxHeartbeats 1000000 in
theorem short_any (v : Value) (ss : List ByteArray) (w : World) (hv : Txs w v ss) : Calls Try.prog 12 #[v] w (VGv (.bool (shortS ss)) w) := by
  obtain ⟨A, c, rfl, hm, hx⟩ := hv
  have HX := Lib.hid hx
  clear hx
  go_enter Try.func12, Try.ntmps12
  go_wp2
  go_loop [3] (fun i => ∃ k : Nat, k ≤ ss.length ∧ i = .int .i64 k ∧ shortS (ss.take k) = true) (fun i => ss.length - (intOf i).toNat)
  case atStart => exact ⟨0, Nat.zero_le _, rfl, rfl⟩
  case round =>
    obtain ⟨k, hk, rfl, hno⟩ := hrel
    by_cases hlt : k < ss.length
    · obtain ⟨ad, rfl, hcell⟩ := HX.out k hlt
      by_cases hb : ss[k].size ≤ 1000
      · have hnx : shortS (ss.take (k + 1)) = true := by rw [shortS_take ss k hlt, hno]; simpa using hb
        have HN := Lib.hid hnx
        clear hnx hno
        go_wp2
        go_round
        case rel => exact ⟨k + 1, by omega, by go_num, HN.out⟩
        case measure => simp [intOf]; omega
      · have hin : shortS ss = false := by
          rw [← Bool.not_eq_true]; intro h
          unfold shortS at h
          rw [List.all_eq_true] at h
          have := h _ (List.getElem_mem hlt)
          simp at this; omega
        have HI := Lib.hid hin
        clear hin hno
        go_wp2
        go_ret
        exact ⟨ret_bool HI.out.symm, rfl⟩
    · obtain rfl : k = ss.length := by omega
      rw [List.take_length] at hno
      have HN := Lib.hid hno
      clear hno HX
      go_wp2
      go_ret
      exact ⟨ret_bool HN.out.symm, rfl⟩

/-- the rows of values as they are handed to short -/
abbrev cell5 (v : Vl) : List Value := [.int .i64 v.k, .int .i64 v.i, .bool v.b, .string v.s, .float .f64 v.n]
theorem Txs_row (w : World) (b : Nat) (cs : Array Value) (vs : List Vl) (hl : vs.length ≤ 1000) (h : w.heap[b]? = some (.cells cs 24 (0, 0))) (hc : ∀ k (hk : k < vs.length), cs[k * 5 + 3]? = some (.string vs[k].s)) (n : Nat) (hn : n = vs.length) :
    Txs w (.slice (some ⟨b, 0, none⟩) n n) (vs.map Vl.s) := by
  subst hn
  refine ⟨some ⟨b, 0, none⟩, vs.length, by rw [List.length_map], by rw [List.length_map]; exact hl, fun k hk => ?_⟩
  rw [List.length_map] at hk
  refine ⟨⟨b, 0, none⟩, rfl, ?_⟩
  rw [Addr.add_lit, List.getElem_map]
  rw [cell_of_row w b (0 + k * 5 + 3) _ _ (0, 0) h, Nat.zero_add]
  exact hc k hk
/-- a value lies in block b -/
def Bx (W : World) (b : Nat) (v : Vl) : Prop := W.cell? ⟨b, 0, none⟩ = some (.int .i64 v.k) ∧ W.cell? ⟨b, 1, none⟩ = some (.int .i64 v.i) ∧ W.cell? ⟨b, 2, none⟩ = some (.bool v.b) ∧ W.cell? ⟨b, 3, none⟩ = some (.string v.s) ∧ W.cell? ⟨b, 4, none⟩ = some (.float .f64 v.n)
theorem Bx.new (w : World) (v : Vl) : Bx (w.alloc (.cells #[.int .i64 v.k, .int .i64 v.i, .bool v.b, .string v.s, .float .f64 v.n] 24)) w.heap.size v := by
  have h := heap_alloc_new w (.cells #[.int .i64 v.k, .int .i64 v.i, .bool v.b, .string v.s, .float .f64 v.n] 24)
  exact ⟨(cell_of_row _ _ 0 _ _ (0, 0) h).trans rfl, (cell_of_row _ _ 1 _ _ (0, 0) h).trans rfl, (cell_of_row _ _ 2 _ _ (0, 0) h).trans rfl, (cell_of_row _ _ 3 _ _ (0, 0) h).trans rfl, (cell_of_row _ _ 4 _ _ (0, 0) h).trans rfl⟩
theorem Bx.below {w w' : World} {b : Nat} {v : Vl} (h : Bx w b v) (hb : Below w.heap.size w w') : Bx w' b v :=
  have hl : b < w.heap.size := World.block_lt_of_cell? w _ h.1
  ⟨(hb.cell (p := ⟨b, 0, none⟩) hl).trans h.1, (hb.cell (p := ⟨b, 1, none⟩) hl).trans h.2.1, (hb.cell (p := ⟨b, 2, none⟩) hl).trans h.2.2.1, (hb.cell (p := ⟨b, 3, none⟩) hl).trans h.2.2.2.1, (hb.cell (p := ⟨b, 4, none⟩) hl).trans h.2.2.2.2⟩
theorem Bx.alloc {w : World} {b : Nat} {v : Vl} (h : Bx w b v) (o : Obj) : Bx (w.alloc o) b v := h.below ((Below.refl _ _).alloc (Nat.le_refl _) o)
end Go.Proofs.Ytlnpolepgdoloaa
