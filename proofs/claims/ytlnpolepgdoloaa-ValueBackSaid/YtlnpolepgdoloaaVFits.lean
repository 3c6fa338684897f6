/- Layer 4: Fits, by the program and by the document. -/
import Derived.Test.YtlnpolepgdoloaaVGood
import Derived.Test.YtlnpolepgdoloaaVRGood
namespace Go.Proofs.Ytlnpolepgdoloaa
open Go.RowKit
set_option linter.unusedVariables false
set_option linter.unusedSimpArgs false
set_option maxRecDepth 20000

/-- the slice value v reads as texts -/
def Ss (w : World) (v : Value) (ss : List ByteArray) : Prop := Rd w v (ss.map Value.string)
theorem Ss.below {w w' : World} {v : Value} {ss : List ByteArray} {B : Nat} (h : Ss w v ss) (hb : Below B w w') (hB : w.heap.size ≤ B) : Ss w' v ss := Rd.below h hb hB
theorem Ss.open {w : World} {v : Value} {ss : List ByteArray} (h : Ss w v ss) : ∃ A c, v = .slice A ss.length c ∧ ss.length ≤ maxLen ∧ (∀ k (hk : k < ss.length), ∃ ad : Addr, A = some ad ∧ ad.block < w.heap.size ∧ w.cell? (ad.add k) = some (.string ss[k])) := by
  obtain ⟨A, c, hv, hc, hm, hn, hx⟩ := h
  simp only [List.length_map] at hv hc
  refine ⟨A, c, hv, by omega, fun k hk => ?_⟩
  have hne : ss.map Value.string ≠ [] := by intro h0; rw [List.map_eq_nil_iff] at h0; rw [h0] at hk; simp at hk
  obtain ⟨ad, ha, hl, hr⟩ := hx hne
  exact ⟨ad, ha, hl, hr k _ (by simp [hk])⟩

/-- is a text one of them -/
def inS (ss : List ByteArray) (s : ByteArray) : Bool := ss.any fun x => s.toList == x.toList
theorem inS_take (ss : List ByteArray) (s : ByteArray) (k : Nat) (hk : k < ss.length) : inS (ss.take (k + 1)) s = (inS (ss.take k) s || (s.toList == ss[k].toList)) := by
  unfold inS; rw [List.take_succ_eq_append_getElem hk, List.any_append]; simp
theorem inS_mem (ss : List ByteArray) (s : ByteArray) (k : Nat) (hk : k < ss.length) (h : (s.toList == ss[k].toList) = true) : inS ss s = true := by
  unfold inS; rw [List.any_eq_true]; exact ⟨ss[k], List.getElem_mem hk, h⟩

/-- the place of a text among others -/
def Place (ss : List ByteArray) (s : ByteArray) (w : World) (e : Ending) (w' : World) : Prop := ∃ r : Int, e = .returned (.int .i64 r) ∧ decide (0 ≤ r) = inS ss s ∧ w = w'

set_option maxHeartbeats 1000000 in
theorem vIndex_any (v : Value) (ss : List ByteArray) (s : ByteArray) (w : World) (hv : Ss w v ss) : Calls Try.prog 81 #[v, .string s] w (Place ss s w) := by
  obtain ⟨A, c, rfl, hm, hx⟩ := hv.open
  unfold maxLen at hm
  have HX := Lib.hid hx
  clear hx hv
  go_enter Try.func81, Try.ntmps81
  go_wp2
  go_loop [8] (fun i => ∃ k : Nat, k ≤ ss.length ∧ i = .int .i64 k ∧ inS (ss.take k) s = false) (fun i => ss.length - (intOf i).toNat)
  case atStart => exact ⟨0, Nat.zero_le _, rfl, rfl⟩
  case round =>
    obtain ⟨k, hk, rfl, hno⟩ := hrel
    by_cases hlt : k < ss.length
    · obtain ⟨ad, rfl, hbl, hcell⟩ := HX.out k hlt
      rcases heq : (s.toList == ss[k].toList) with _ | _
      · have hnx : inS (ss.take (k + 1)) s = false := by rw [inS_take ss s k hlt, hno, heq]; rfl
        have HN := Lib.hid hnx
        clear hnx hno
        go_wp2
        go_round
        case rel => exact ⟨k + 1, by omega, by go_num, HN.out⟩
        case measure => simp [intOf]; omega
      · have hin : inS ss s = true := inS_mem ss s k hlt heq
        have HI := Lib.hid hin
        clear hin hno
        go_wp2
        go_ret
        exact ⟨(k : Int), rfl, by rw [HI.out]; simp, rfl⟩
    · obtain rfl : k = ss.length := by omega
      rw [List.take_length] at hno
      have HN := Lib.hid hno
      clear hno HX
      go_wp2
      go_ret
      exact ⟨-1, rfl, by rw [HN.out]; rfl, rfl⟩

theorem vContains_any (v : Value) (ss : List ByteArray) (s : ByteArray) (w : World) (hv : Ss w v ss) : Calls Try.prog 43 #[v, .string s] w (VGv (.bool (inS ss s)) w) := by
  have hi : ∀ W, W = w → Calls Try.prog 81 #[v, .string s] W (Place ss s W) := fun W h => by rw [h]; exact vIndex_any v ss s w hv
  clear hv
  go_enter Try.func43, Try.ntmps43
  go_wp2_with (go_at_call 81; refine (hi _ rfl).mono ?_; rintro e w' ⟨r, rfl, hr, rfl⟩; have HR := Lib.hid hr; clear hr)
  go_ret
  exact ⟨ret_bool HR.out, rfl⟩

/-- a field of kind fk that has texts ev; nm, f: its name, its first value -/
abbrev agF (nm : ByteArray) (fk : Int) (ev : Value) (f : Vl) : Value := .agg #[.string nm, .int .i64 fk, ev, .int .i64 f.k, .int .i64 f.i, .bool f.b, .string f.s, .float .f64 f.n]
/-- 4.1: Fits -/
def fitsV (v : Vl) (fk : Int) (ss : List ByteArray) : Int := if goodV v && (v.k == fk) then (if (v.k == 3) && !ss.isEmpty && !inS ss v.s then 60 else 0) else 40

set_option maxHeartbeats 1000000 in
theorem Fits_val (v : Vl) (nm : ByteArray) (fk : Int) (ev : Value) (f : Vl) (ss : List ByteArray) (w : World) (hv : Ss w ev ss) : Calls Try.prog 15 #[agV v, agF nm fk ev f] w (VMk (.int .i64 (fitsV v fk ss)) w) := by
  have hg : ∀ W, Calls Try.prog 13 #[agV v] W (VMk (.bool (goodV v)) W) := fun W => Good_val v W
  have hcn : ∀ W, Below w.heap.size w W → Calls Try.prog 43 #[ev, .string v.s] W (VGv (.bool (inS ss v.s)) W) := fun W hb => vContains_any ev ss v.s W (hv.below hb (Nat.le_refl _))
  obtain ⟨A, c, rfl, hm, -⟩ := hv.open
  unfold maxLen at hm
  unfold fitsV
  generalize goodV v = gv at hg ⊢
  have HG := Lib.hid hg
  have HCN := Lib.hid hcn
  clear hg hcn hv
  rcases gv with _ | _
  · simp only [Bool.false_and, Bool.false_eq_true, if_false]
    go_enter Try.func15, Try.ntmps15
    go_wp2_with (go_at_call 13; refine (HG.out _).mono ?_; rintro e w1 ⟨rfl, hb1⟩; obtain ⟨hc1, hf1⟩ := bcell hb1)
    go_ret
    exact ⟨rfl, (vbox2 w _ _).trans (hb1.mono (by simp; omega))⟩
  rcases hk : (v.k == fk) with _ | _
  · have hk2 : (v.k != fk) = true := by rw [bne, hk]; rfl
    simp only [Bool.true_and, Bool.false_eq_true, if_false]
    go_enter Try.func15, Try.ntmps15
    go_wp2_with (go_at_call 13; refine (HG.out _).mono ?_; rintro e w1 ⟨rfl, hb1⟩; obtain ⟨hc1, hf1⟩ := bcell hb1)
    go_ret
    exact ⟨rfl, (vbox2 w _ _).trans (hb1.mono (by simp; omega))⟩
  have hk2 : (v.k != fk) = false := by rw [bne, hk]; rfl
  simp only [Bool.true_and, if_true]
  rcases h3 : (v.k == 3) with _ | _
  · simp only [Bool.false_and, Bool.false_eq_true, if_false]
    go_enter Try.func15, Try.ntmps15
    go_wp2_with (go_at_call 13; refine (HG.out _).mono ?_; rintro e w1 ⟨rfl, hb1⟩; obtain ⟨hc1, hf1⟩ := bcell hb1)
    go_ret
    exact ⟨rfl, (vbox2 w _ _).trans (hb1.mono (by simp; omega))⟩
  simp only [Bool.true_and]
  by_cases hl : 0 < ss.length
  · have he : ss.isEmpty = false := by cases ss; simp at hl; rfl
    simp only [he, Bool.not_false, Bool.true_and]
    have hl' : decide (0 < ss.length) = true := by simpa using hl
    clear hl he
    generalize inS ss v.s = ib at HCN ⊢
    rcases ib with _ | _
    all_goals
      simp only [Bool.not_false, Bool.not_true, Bool.false_eq_true, if_true, if_false]
      go_enter Try.func15, Try.ntmps15
      go_wp2_with (first
        | (go_at_call 13; refine (HG.out _).mono ?_; rintro e w1 ⟨rfl, hb1⟩; obtain ⟨hc1, hf1⟩ := bcell hb1; have HB := (vbox2 w _ _).trans (hb1.mono (by simp; omega)))
        | (go_at_call 43; refine (HCN.out _ HB).mono ?_; rintro e w2 ⟨rfl, rfl⟩))
      go_ret
      exact ⟨rfl, HB⟩
  · have he : ss.isEmpty = true := by cases ss; rfl; simp at hl
    simp only [he, Bool.not_true, Bool.false_and, Bool.false_eq_true, if_false]
    have hl' : decide (0 < ss.length) = false := by simpa using hl
    clear hl he
    go_enter Try.func15, Try.ntmps15
    go_wp2_with (go_at_call 13; refine (HG.out _).mono ?_; rintro e w1 ⟨rfl, hb1⟩; obtain ⟨hc1, hf1⟩ := bcell hb1)
    go_ret
    exact ⟨rfl, (vbox2 w _ _).trans (hb1.mono (by simp; omega))⟩

theorem inS_take2 (ss : List ByteArray) (s : ByteArray) (k : Nat) (hk : k < ss.length) (h : (ss[k].toList == s.toList) = false) (h0 : inS (ss.take k) s = false) : inS (ss.take (k + 1)) s = false := by
  rw [inS_take ss s k hk, h0, Bool.false_or]
  rw [beq_eq_false_iff_ne] at h ⊢
  exact fun e => h e.symm
theorem inS_mem2 (ss : List ByteArray) (s : ByteArray) (k : Nat) (hk : k < ss.length) (h : (ss[k].toList == s.toList) = true) : inS ss s = true := by
  refine inS_mem ss s k hk ?_
  rw [beq_iff_eq] at h ⊢
  exact h.symm

set_option maxHeartbeats 1000000 in
theorem rFits_val (v : Vl) (nm : ByteArray) (fk : Int) (ev : Value) (f : Vl) (ss : List ByteArray) (w : World) (hv : Ss w ev ss) : Calls Try.prog 16 #[agV v, agF nm fk ev f] w (VMk (.int .i64 (fitsV v fk ss)) w) := by
  have hg : ∀ W, Calls Try.prog 14 #[agV v] W (VMk (.bool (goodV v)) W) := fun W => rGood_val v W
  have hss : ∀ W, Below w.heap.size w W → Ss W ev ss := fun W hb => hv.below hb (Nat.le_refl _)
  obtain ⟨A, c, rfl, hm, -⟩ := hv.open
  unfold maxLen at hm
  unfold fitsV
  generalize goodV v = gv at hg ⊢
  have HG := Lib.hid hg
  have HSS := Lib.hid hss
  clear hg hss hv
  rcases gv with _ | _
  · simp only [Bool.false_and, Bool.false_eq_true, if_false]
    go_enter Try.func16, Try.ntmps16
    go_wp2_with (go_at_call 14; refine (HG.out _).mono ?_; rintro e w1 ⟨rfl, hb1⟩; obtain ⟨hc1, hf1⟩ := bcell hb1)
    go_ret
    exact ⟨rfl, (vbox2 w _ _).trans (hb1.mono (by simp; omega))⟩
  rcases hk : (v.k == fk) with _ | _
  · have hk2 : (v.k != fk) = true := by rw [bne, hk]; rfl
    simp only [Bool.true_and, Bool.false_eq_true, if_false]
    go_enter Try.func16, Try.ntmps16
    go_wp2_with (go_at_call 14; refine (HG.out _).mono ?_; rintro e w1 ⟨rfl, hb1⟩; obtain ⟨hc1, hf1⟩ := bcell hb1)
    go_ret
    exact ⟨rfl, (vbox2 w _ _).trans (hb1.mono (by simp; omega))⟩
  have hk2 : (v.k != fk) = false := by rw [bne, hk]; rfl
  simp only [Bool.true_and, if_true]
  by_cases hl : 0 < ss.length
  case neg =>
    have he : ss.isEmpty = true := by cases ss; rfl; simp at hl
    simp only [he, Bool.not_true, Bool.and_false, Bool.false_and, Bool.false_eq_true, if_false]
    obtain rfl : ss = [] := by cases ss; rfl; simp at hl
    clear hl he
    go_enter Try.func16, Try.ntmps16
    go_wp2_with (go_at_call 14; refine (HG.out _).mono ?_; rintro e w1 ⟨rfl, hb1⟩; obtain ⟨hc1, hf1⟩ := bcell hb1)
    go_ret
    exact ⟨rfl, (vbox2 w _ _).trans (hb1.mono (by simp; omega))⟩
  have he : ss.isEmpty = false := by cases ss; simp at hl; rfl
  have hl' : ((ss.length : Int) == 0) = false := by simp; intro h0; rw [h0] at hl; simp at hl
  simp only [he, Bool.not_false, Bool.and_true]
  clear hl he
  rcases h3 : (v.k == 3) with _ | _
  · have h3' : (v.k != 3) = true := by rw [bne, h3]; rfl
    simp only [Bool.false_and, Bool.false_eq_true, if_false]
    go_enter Try.func16, Try.ntmps16
    go_wp2_with (go_at_call 14; refine (HG.out _).mono ?_; rintro e w1 ⟨rfl, hb1⟩; obtain ⟨hc1, hf1⟩ := bcell hb1)
    go_ret
    exact ⟨rfl, (vbox2 w _ _).trans (hb1.mono (by simp; omega))⟩
  · have h3' : (v.k != 3) = false := by rw [bne, h3]; rfl
    simp only [Bool.true_and]
    generalize hr : (if (!inS ss v.s) = true then (60 : Int) else 0) = r
    have HR := Lib.hid hr
    clear hr
    go_enter Try.func16, Try.ntmps16
    go_wp2_with (go_at_call 14; refine (HG.out _).mono ?_; rintro e w1 ⟨rfl, hb1⟩; obtain ⟨hc1, hf1⟩ := bcell hb1; have HB := (vbox2 w _ _).trans (hb1.mono (by simp; omega)))
    go_loopw [5] (fun i wr => ∃ (k n : Nat), k ≤ ss.length ∧ i = .int .i64 k ∧ inS (ss.take k) v.s = false ∧ wr = w1.drewN n) (fun i _ => ss.length - (intOf i).toNat)
    case atStart => exact ⟨0, 0, Nat.zero_le _, rfl, rfl, rfl⟩
    case round =>
      obtain ⟨k, n, hk9, rfl, hno, rfl⟩ := hrel
      by_cases hlt : k < ss.length
      · obtain ⟨A', c', e, -, hx⟩ := (HSS.out w1 HB).open
        injection e with e e2 e3
        subst e
        clear e2 e3
        obtain ⟨ad, rfl, hbl, hcell⟩ := hx k hlt
        clear hx
        rcases heq : (ss[k].toList == v.s.toList) with _ | _
        · have hnx : inS (ss.take (k + 1)) v.s = false := inS_take2 ss v.s k hlt heq hno
          have HN := Lib.hid hnx
          clear hnx hno
          go_wp2
          go_quiet (fail)
          go_wp2
          go_roundw
          case rel => exact ⟨k + 1, _, by omega, by go_num, HN.out, rfl⟩
          case measure => simp [intOf]; omega
        · have hin : inS ss v.s = true := inS_mem2 ss v.s k hlt heq
          have hr := HR.out
          rw [hin] at hr
          simp only [Bool.not_true, Bool.false_eq_true, if_false] at hr
          subst hr
          clear hin hno HR
          go_wp2
          go_quiet (fail)
          go_wp2
          go_ret
          exact ⟨rfl, below_drewN (below_drewN HB _) _⟩
      · obtain rfl : k = ss.length := by omega
        rw [List.take_length] at hno
        have hr := HR.out
        rw [hno] at hr
        simp only [Bool.not_false, if_true] at hr
        subst hr
        clear hno HR
        go_wp2
        go_ret
        exact ⟨rfl, below_drewN HB _⟩
end Go.Proofs.Ytlnpolepgdoloaa
