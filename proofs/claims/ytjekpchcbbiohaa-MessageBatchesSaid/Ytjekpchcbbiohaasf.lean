/- sf: GDec GAw BSame GLaw1 GArgs (made by shake.py). -/
import Derived.Test.Ytjekpchcbbiohaase
namespace Go.Proofs.Ytjekpchcbbiohaa
open Go.RowKit
set_option linter.unusedVariables false
set_option linter.unusedSimpArgs false
set_option maxRecDepth 20000

def DecP (x : Msg × Int) (w : World) (e : Ending) (w' : World) : Prop := ∃ P, e = .returned (.tuple #[agM x.1 P, .int .i64 x.2]) ∧ MsgK w' x.1 P ∧ Below w.heap.size w w'
abbrev P0 : Plc := ⟨(none, 0), (none, 0), (none, 0), (none, 0)⟩
theorem msgK0 (w : World) : MsgK w msg0 P0 := ⟨Bs.nil w, RowM.none _ _ _, RowM.none _ _ _, RowM.none _ _ _⟩
abbrev KpB (B : Nat) (w2 W : World) : Prop := w2.heap.size ≤ W.heap.size ∧ ∀ k, B ≤ k → k < w2.heap.size → W.heap[k]? = w2.heap[k]?
theorem keep_alloc {B : Nat} (w2 : World) (o : Obj) : KpB B w2 (w2.alloc o) := ⟨(alloc1B w2 o).size, fun k _ h2 => (alloc1B w2 o).block k h2⟩
theorem keep_only {B g : Nat} {w2 W W' : World} (h : KpB B w2 W) (ho : Only g W W') (hg : g < B) : KpB B w2 W' :=
  ⟨Nat.le_trans h.1 ho.size, fun k h1 h2 => (ho.block k (Nat.lt_of_lt_of_le h2 h.1) (by intro e; injection e with e; omega)).trans (h.2 k h1 h2)⟩
theorem keep_below {B : Nat} {w2 W W' : World} (h : KpB B w2 W) (hb : Below W.heap.size W W') : KpB B w2 W' :=
  ⟨Nat.le_trans h.1 hb.size, fun k h1 h2 => (hb.block k (Nat.lt_of_lt_of_le h2 h.1)).trans (h.2 k h1 h2)⟩
theorem decP0 (w w' : World) (n : Int) (h : Below w.heap.size w w') : DecP (msg0, n) w (.returned (.tuple #[agM msg0 P0, .int .i64 n])) w' := ⟨P0, rfl, msgK0 w', h⟩
set_option maxHeartbeats 4000000 in
theorem gDecode_of (v : Value) (l : List UInt8) (w : World) (hv : Bs w v l) (x : Msg × List UInt8 × Int) (en : Int) (z : Bool) (hl : l.length ≤ 100000000) (he : endE x.2.1 x.2.2 = en)
    (hM : ¬ 16777216 < l.length → ∀ g W, RdR W g l 0 → Calls Try.prog 23 #[.pointer (some ⟨g, 0, none⟩)] W (MsgP g x W))
    (hC : ∀ P W, MsgK W x.1 P → Calls Try.prog 10 #[agM x.1 P] W (Ans (.int .i64 (if z = true then 0 else 120)) W)) :
    Calls Try.prog 11 #[v] w (DecP (if 16777216 < l.length then (msg0, 11) else if (decide (en = 0) && z) = true then (x.1, 0) else (msg0, 12)) w) := by
  obtain ⟨A, c, rfl, -⟩ := hv.open
  have x1 := heap_alloc_new w (.cells msZ 30)
  have hb0 := alloc1B w (.cells msZ 30)
  have HX := Lib.hid x1
  have HB := Lib.hid hb0
  by_cases h1 : 16777216 < l.length
  · rw [if_pos h1]
    have hI : (16777216 : Int) < (l.length : Int) := by omega
    go_enter Try.func11, Try.ntmps11
    go_wp2_with (first
      | (refine wpList_storeAll rfl 30 _ _ rfl w.heap.size _ _ rfl rfl HX.out rfl (by kernel_rfl) (by kernel_rfl) ?_; intro w3 hz hh ho; have HY := Lib.hid hh; have HB := Lib.hid (onlyBelow HB.out ho (Nat.le_refl _) (Nat.le_refl _)); clear hz hh ho))
    refine bodyPost_ret (results_cell2 rfl _ _ w.heap.size 30 _ (0, 0) _ rfl HY.out Try.underlying30 rfl (by kernel_rfl)) rfl ?_
    exact decP0 w _ 11 HB.out
  · rw [if_neg h1]
    have hI : ¬ (16777216 : Int) < (l.length : Int) := by omega
    have HM := Lib.hid (hM h1)
    have HC := Lib.hid hC
    have HV := Lib.hid hv
    have HNW := Lib.hid (fun W (h : Bs W (.slice A l.length c) l) => New_any _ l W h (by omega))
    have HE := Lib.hid he
    have HL0 := Lib.hid (show w.heap.size < (w.alloc (.cells msZ 30)).heap.size from (Array.getElem?_eq_some_iff.1 x1).1)
    clear x1 hb0 hM hC hv he
    obtain ⟨m, r2, e2⟩ := x
    simp only at *
    by_cases h0 : en = 0
    · subst h0
      cases z
      · go_enter Try.func11, Try.ntmps11
        go_wp2_with (first
          | (go_at_call 22; refine (HNW.out _ (HV.out.below HB.out (Nat.le_refl _))).mono ?_; rintro e w1 ⟨g, rfl, hg, hr, hb⟩; have HX := Lib.hid (heapB HX.out hb); have HB1 := Lib.hid (bel2M HB.out hb); have HR1 := Lib.hid hr; have HG := Lib.hid (show w.heap.size < g from Nat.lt_of_lt_of_le HL0.out hg); have HG1 := Lib.hid hr.lt; clear hg hr hb)
          | (go_at_call 23; refine (HM.out _ _ HR1.out).mono ?_; rintro e w2 ⟨P, rfl, hk, hr, ho⟩; have HX := Lib.hid (onlyHeap ho HX.out (by have := HG.out; omega)); have HB2 := Lib.hid (onlyBelow HB1.out ho (Nat.le_of_lt HG.out) (Nat.le_refl _)); have HK := Lib.hid hk; have HR2 := Lib.hid hr; have HGL := Lib.hid hr.lt; clear hk hr ho)
          | (go_at_call 24; refine (End_any g r2 e2 _ (RdR.below HR2.out (alloc1B _ _))).mono ?_; rintro e w4 ⟨rfl, hr, ho⟩; have HBX := Lib.hid (onlyHeap ho (heap_alloc_new w2 (.cells (msC m P) 30)) (by have := HGL.out; omega)); have HX := Lib.hid (onlyHeap ho (heapB HX.out (alloc1B w2 _)) (by have := HG.out; omega)); have HB4 := Lib.hid (onlyBelow (bel2M HB2.out (alloc1B w2 _)) ho (Nat.le_of_lt HG.out) (Nat.le_refl _)); have HP4 := Lib.hid (keep_only (keep_alloc w2 _) ho HG1.out); rw [HE.out] at hr; have HR4 := Lib.hid hr; clear hr ho)
          | (go_at_call 25; refine (Err_any g _ _ _ HR4.out).mono ?_; rintro e w5 ⟨rfl, rfl⟩; have m0 := rowCell HBX.out 0 (.int .i64 m.k) rfl; have m1 := rowCell HBX.out 1 (.int .i64 m.v) rfl; have m2 := rowCell HBX.out 2 (.int .i64 m.s) rfl; have m3 := rowCell HBX.out 3 (.int .i64 m.c) rfl; have m4 := rowCell HBX.out 4 (.int .i64 m.t) rfl; have m5 := rowCell HBX.out 5 (.string (strB m.d)) rfl; have m6 := rowCell HBX.out 6 (.slice P.x.1 m.x.length P.x.2) rfl; have m7 := rowCell HBX.out 7 (.int .i64 m.r.1) rfl; have m8 := rowCell HBX.out 8 (.int .i64 m.r.2) rfl; have m9 := rowCell HBX.out 9 (.slice P.b.1 m.b.length P.b.2) rfl; have m10 := rowCell HBX.out 10 (.slice P.p.1 m.p.length P.p.2) rfl; have m11 := rowCell HBX.out 11 (.slice P.q.1 m.q.length P.q.2) rfl)
          | (go_at_call 10; refine (HC.out P _ (HK.out _ HP4.out.1 HP4.out.2)).mono ?_; rintro e w6 ⟨rfl, hb⟩; have HX := Lib.hid (heapB HX.out hb); have HBX := Lib.hid (heapB HBX.out hb); have HP6 := Lib.hid (keep_below HP4.out hb); have HB6 := Lib.hid (bel2M HB4.out hb); clear hb)
          | (refine wpList_storeAll rfl 30 _ _ rfl w.heap.size _ _ rfl rfl HX.out rfl (by kernel_rfl) (by kernel_rfl) ?_; intro w7 hz hh ho; have HY := Lib.hid hh; have HO7 := Lib.hid ho; have HB7 := Lib.hid (onlyBelow HB6.out ho (Nat.le_refl _) (Nat.le_refl _)); clear hz hh ho))
        refine bodyPost_ret (results_cell2 rfl _ _ w.heap.size 30 _ (0, 0) _ rfl HY.out Try.underlying30 rfl (by kernel_rfl)) rfl ?_
        exact decP0 w _ 12 HB7.out
      · go_enter Try.func11, Try.ntmps11
        go_wp2_with (first
          | (go_at_call 22; refine (HNW.out _ (HV.out.below HB.out (Nat.le_refl _))).mono ?_; rintro e w1 ⟨g, rfl, hg, hr, hb⟩; have HX := Lib.hid (heapB HX.out hb); have HB1 := Lib.hid (bel2M HB.out hb); have HR1 := Lib.hid hr; have HG := Lib.hid (show w.heap.size < g from Nat.lt_of_lt_of_le HL0.out hg); have HG1 := Lib.hid hr.lt; clear hg hr hb)
          | (go_at_call 23; refine (HM.out _ _ HR1.out).mono ?_; rintro e w2 ⟨P, rfl, hk, hr, ho⟩; have HX := Lib.hid (onlyHeap ho HX.out (by have := HG.out; omega)); have HB2 := Lib.hid (onlyBelow HB1.out ho (Nat.le_of_lt HG.out) (Nat.le_refl _)); have HK := Lib.hid hk; have HR2 := Lib.hid hr; have HGL := Lib.hid hr.lt; clear hk hr ho)
          | (go_at_call 24; refine (End_any g r2 e2 _ (RdR.below HR2.out (alloc1B _ _))).mono ?_; rintro e w4 ⟨rfl, hr, ho⟩; have HBX := Lib.hid (onlyHeap ho (heap_alloc_new w2 (.cells (msC m P) 30)) (by have := HGL.out; omega)); have HX := Lib.hid (onlyHeap ho (heapB HX.out (alloc1B w2 _)) (by have := HG.out; omega)); have HB4 := Lib.hid (onlyBelow (bel2M HB2.out (alloc1B w2 _)) ho (Nat.le_of_lt HG.out) (Nat.le_refl _)); have HP4 := Lib.hid (keep_only (keep_alloc w2 _) ho HG1.out); rw [HE.out] at hr; have HR4 := Lib.hid hr; clear hr ho)
          | (go_at_call 25; refine (Err_any g _ _ _ HR4.out).mono ?_; rintro e w5 ⟨rfl, rfl⟩; have m0 := rowCell HBX.out 0 (.int .i64 m.k) rfl; have m1 := rowCell HBX.out 1 (.int .i64 m.v) rfl; have m2 := rowCell HBX.out 2 (.int .i64 m.s) rfl; have m3 := rowCell HBX.out 3 (.int .i64 m.c) rfl; have m4 := rowCell HBX.out 4 (.int .i64 m.t) rfl; have m5 := rowCell HBX.out 5 (.string (strB m.d)) rfl; have m6 := rowCell HBX.out 6 (.slice P.x.1 m.x.length P.x.2) rfl; have m7 := rowCell HBX.out 7 (.int .i64 m.r.1) rfl; have m8 := rowCell HBX.out 8 (.int .i64 m.r.2) rfl; have m9 := rowCell HBX.out 9 (.slice P.b.1 m.b.length P.b.2) rfl; have m10 := rowCell HBX.out 10 (.slice P.p.1 m.p.length P.p.2) rfl; have m11 := rowCell HBX.out 11 (.slice P.q.1 m.q.length P.q.2) rfl)
          | (go_at_call 10; refine (HC.out P _ (HK.out _ HP4.out.1 HP4.out.2)).mono ?_; rintro e w6 ⟨rfl, hb⟩; have HX := Lib.hid (heapB HX.out hb); have HBX := Lib.hid (heapB HBX.out hb); have HP6 := Lib.hid (keep_below HP4.out hb); have HB6 := Lib.hid (bel2M HB4.out hb); clear hb)
          | (refine wpList_storeAll rfl 30 _ _ rfl w.heap.size _ _ rfl rfl HX.out rfl (by kernel_rfl) (by kernel_rfl) ?_; intro w7 hz hh ho; have HY := Lib.hid hh; have HO7 := Lib.hid ho; have HB7 := Lib.hid (onlyBelow HB6.out ho (Nat.le_refl _) (Nat.le_refl _)); clear hz hh ho)
          | (refine wpList_load_mid rfl 30 _ rfl w2.heap.size 0 rfl _ _ (heap_all HBX.out) Try.underlying30 rfl (by kernel_rfl) ?_))
        refine bodyPost_ret (results_cell2 rfl _ _ w.heap.size 30 _ (0, 0) _ rfl HY.out Try.underlying30 rfl (by kernel_rfl)) rfl ?_
        have hk7 := keep_only HP6.out HO7.out (Nat.lt_of_lt_of_le HG.out (Nat.le_of_lt HG1.out))
        exact ⟨P, rfl, HK.out _ hk7.1 hk7.2, HB7.out⟩
    · have hne : (en != 0) = true := by simpa using h0
      rw [if_neg (by simp [h0])]
      go_enter Try.func11, Try.ntmps11
      go_wp2_with (first
        | (go_at_call 22; refine (HNW.out _ (HV.out.below HB.out (Nat.le_refl _))).mono ?_; rintro e w1 ⟨g, rfl, hg, hr, hb⟩; have HX := Lib.hid (heapB HX.out hb); have HB1 := Lib.hid (bel2M HB.out hb); have HR1 := Lib.hid hr; have HG := Lib.hid (show w.heap.size < g from Nat.lt_of_lt_of_le HL0.out hg); have HG1 := Lib.hid hr.lt; clear hg hr hb)
        | (go_at_call 23; refine (HM.out _ _ HR1.out).mono ?_; rintro e w2 ⟨P, rfl, hk, hr, ho⟩; have HX := Lib.hid (onlyHeap ho HX.out (by have := HG.out; omega)); have HB2 := Lib.hid (onlyBelow HB1.out ho (Nat.le_of_lt HG.out) (Nat.le_refl _)); have HK := Lib.hid hk; have HR2 := Lib.hid hr; have HGL := Lib.hid hr.lt; clear hk hr ho)
        | (go_at_call 24; refine (End_any g r2 e2 _ (RdR.below HR2.out (alloc1B _ _))).mono ?_; rintro e w4 ⟨rfl, hr, ho⟩; have HBX := Lib.hid (onlyHeap ho (heap_alloc_new w2 (.cells (msC m P) 30)) (by have := HGL.out; omega)); have HX := Lib.hid (onlyHeap ho (heapB HX.out (alloc1B w2 _)) (by have := HG.out; omega)); have HB4 := Lib.hid (onlyBelow (bel2M HB2.out (alloc1B w2 _)) ho (Nat.le_of_lt HG.out) (Nat.le_refl _)); have HP4 := Lib.hid (keep_only (keep_alloc w2 _) ho HG1.out); rw [HE.out] at hr; have HR4 := Lib.hid hr; clear hr ho)
        | (go_at_call 25; refine (Err_any g _ _ _ HR4.out).mono ?_; rintro e w5 ⟨rfl, rfl⟩)
        | (refine wpList_storeAll rfl 30 _ _ rfl w.heap.size _ _ rfl rfl HX.out rfl (by kernel_rfl) (by kernel_rfl) ?_; intro w7 hz hh ho; have HY := Lib.hid hh; have HO7 := Lib.hid ho; have HB7 := Lib.hid (onlyBelow HB4.out ho (Nat.le_refl _) (Nat.le_refl _)); clear hz hh ho))
      refine bodyPost_ret (results_cell2 rfl _ _ w.heap.size 30 _ (0, 0) _ rfl HY.out Try.underlying30 rfl (by kernel_rfl)) rfl ?_
      exact decP0 w _ 12 HB7.out

theorem gDecode_any (v : Value) (l : List UInt8) (w : World) (hv : Bs w v l) (hl : l.length ≤ 100000000) : Calls Try.prog 11 #[v] w (DecP (decM l) w) := by
  have h := gDecode_of v l w hv (readM l 0) _ (checkM (readM l 0).1) hl rfl (fun hn g W hr => gGetM_any g l 0 W hr (by unfold Far; omega)) (fun P W hk => gCheck_any _ P W hk)
  unfold decM gotM
  exact h
abbrev m9 (v s : Int) : Msg := ⟨9, v, s, 0, 0, [], [], (0, 0), [], [], []⟩
abbrev m3 : Msg := ⟨3, 0, 0, 0, 0, [], [], (0, 0), [], [], []⟩
theorem msgKn (w : World) (k v s : Int) : MsgK w ⟨k, v, s, 0, 0, [], [], (0, 0), [], [], []⟩ P0 := ⟨Bs.nil w, RowM.none _ _ _, RowM.none _ _ _, RowM.none _ _ _⟩
theorem aw_dec : (decM []).2 = 12 := by kernel_rfl
theorem aw_enc : (encM (m9 0 3)).length = 16 := by rfl
theorem aw_c3 : errM m3 = 120 := by rfl
theorem aw_c9 : errM (m9 1 0) = 120 := by rfl
theorem aw_sm : SmMsg (m9 0 3) := ⟨by decide, by decide, ⟨by decide, (fun e he => by cases he), by decide⟩, ⟨by decide, (fun e he => by cases he), by decide⟩, ⟨by decide, (fun e he => by cases he), by decide⟩, by decide⟩
set_option maxHeartbeats 2000000 in
theorem awake12_any (w : World) : Calls Try.prog 14 #[] w (AskB true w) := by
  have HD := Lib.hid (fun W => show Calls Try.prog 11 #[.slice none 0 0] W (fun e w' => ∃ m P, e = .returned (.tuple #[agM m P, .int .i64 12]) ∧ Below W.heap.size W w') from by
    refine (gDecode_any (.slice none 0 0) [] W (Bs.nil W) (by simp)).mono fun e w' h => ?_
    obtain ⟨P, h1, -, h2⟩ := h
    rw [aw_dec] at h1
    exact ⟨_, P, h1, h2⟩)
  have HE := Lib.hid (fun W => show Calls Try.prog 9 #[agM (m9 0 3) P0] W (fun e w' => ∃ A c, e = .returned (.slice A 16 c) ∧ Below W.heap.size W w') from by
    refine (gEncode_any (m9 0 3) P0 W (msgKn W 9 0 3) fun _ => aw_sm).mono fun e w' h => ?_
    obtain ⟨v, h1, h2, h3⟩ := h
    obtain ⟨A, c, hv, -⟩ := (own_bs h2).open
    rw [aw_enc] at hv
    exact ⟨A, c, by rw [h1, hv], h3⟩)
  have HC3 := Lib.hid (fun W => show Calls Try.prog 10 #[agM m3 P0] W (Ans (.int .i64 120) W) from by have := gCheck_any m3 P0 W (msgKn W 3 0 0); rw [aw_c3] at this; exact this)
  have HC9 := Lib.hid (fun W => show Calls Try.prog 10 #[agM (m9 1 0) P0] W (Ans (.int .i64 120) W) from by have := gCheck_any (m9 1 0) P0 W (msgKn W 9 1 0); rw [aw_c9] at this; exact this)
  have HB := Lib.hid (Below.refl w.heap.size w)
  go_enter Try.func14, Try.ntmps14
  go_wp2_with (first
    | (go_at_call 11; refine (HD.out _).mono ?_; rintro e w1 ⟨m, P, rfl, hb⟩; have HB := Lib.hid (bel2M HB.out hb); clear hb)
    | (go_at_call 9; refine (HE.out _).mono ?_; rintro e w2 ⟨A, c, rfl, hb⟩; have HB := Lib.hid (bel2M (bel2M HB.out (alloc1B _ _)) hb); clear hb)
    | (go_at_call_of 10 (Value.int .i64 3); refine (HC3.out _).mono ?_; rintro e w3 ⟨rfl, hb⟩; have HB := Lib.hid (bel2M HB.out hb); clear hb)
    | (go_at_call 10; refine (HC9.out _).mono ?_; rintro e w4 ⟨rfl, hb⟩; have HB := Lib.hid (bel2M HB.out hb); clear hb))
  go_ret
  exact ⟨rfl, HB.out⟩

end Go.Proofs.Ytjekpchcbbiohaa

namespace Go.Proofs.Ytjekpchcbbiohaa
open Go.RowKit Go.ChangeShapes Go.WideShapes Go.ChangeAt
set_option linter.unusedVariables false
set_option linter.unusedSimpArgs false
set_option maxRecDepth 20000

theorem rSame3_any (e f : Int × List UInt8) (bv cv : Value) (w : World) (hb : Bs w bv e.2) (hc : Bs w cv f.2) : Calls Try.prog 31 #[agE e.1 bv, agE f.1 cv] w (AskB (decide (e = f)) w) := by
  obtain ⟨A, c, rfl, -⟩ := hb.open
  obtain ⟨D, d, rfl, -⟩ := hc.open
  obtain ⟨s, l⟩ := e
  obtain ⟨t, m⟩ := f
  simp only at hb hc ⊢
  obtain ⟨x1, x2, x3⟩ := box2B w #[.int .i64 s, .slice A l.length c] #[.int .i64 t, .slice D m.length d] 45 45
  have HS := Lib.hid (fun W (h : Below w.heap.size w W) => Same_any _ _ l m W (hb.below h (Nat.le_refl _)) (hc.below h (Nat.le_refl _)))
  have HB := Lib.hid x3
  have HX1 := Lib.hid x1
  have HX2 := Lib.hid x2
  clear x1 x2 x3 hb hc
  by_cases hst : s = t
  · have e1 : (s == t) = true := by simpa using hst
    have hd : decide ((s, l) = (t, m)) = decide (l = m) := by simp [hst]
    rw [hd]
    have HE := Lib.hid (show (l == m) = decide (l = m) by rw [Bool.eq_iff_iff]; simp)
    clear hst hd
    go_enter Try.func31, Try.ntmps31
    go_wp2_with (go_at_call 13; refine (HS.out _ HB.out).mono ?_; rintro e w1 ⟨rfl, rfl⟩)
    go_ret
    exact ⟨by rw [← HE.out]; rfl, HB.out⟩
  · have e1 : (s == t) = false := by simpa using hst
    have hd : decide ((s, l) = (t, m)) = false := by simp [hst]
    rw [hd]
    clear hst hd
    go_enter Try.func31, Try.ntmps31
    go_wp2
    go_ret
    exact ⟨rfl, HB.out⟩
abbrev SA4 (p1 p2 p3 p4 : Addr) (v1 v2 v3 v4 : Value) : World → Prop := fun W => W.cell? p1 = some v1 ∧ W.cell? p2 = some v2 ∧ W.cell? p3 = some v3 ∧ W.cell? p4 = some v4
theorem SA4.below {p1 p2 p3 p4 : Addr} {v1 v2 v3 v4 : Value} {W W' : World} (h : SA4 p1 p2 p3 p4 v1 v2 v3 v4 W) (hb : Below W.heap.size W W') : SA4 p1 p2 p3 p4 v1 v2 v3 v4 W' := ⟨cellB h.1 hb, cellB h.2.1 hb, cellB h.2.2.1 hb, cellB h.2.2.2 hb⟩
set_option maxHeartbeats 1000000 in
theorem rAll3_any (ls ms : List (Int × List UInt8)) (A : Option Addr) (c : Nat) (D : Option Addr) (d : Nat) (w : World) (hl : EnvK w A c ls) (hm : EnvK w D d ms) : Calls Try.prog 18 #[.slice A ls.length c, .slice D ms.length d] w (AskB (decide (ls = ms)) w) := by
  have key : ∀ x, decide (ls = ms) = x → Calls Try.prog 18 #[.slice A ls.length c, .slice D ms.length d] w (AskB x w) → Calls Try.prog 18 #[.slice A ls.length c, .slice D ms.length d] w (AskB (decide (ls = ms)) w) := fun x h hc => by rw [h]; exact hc
  have hm1 : ls.length ≤ maxLen := Nat.le_trans hl.1 hl.2.1
  unfold maxLen at hm1
  by_cases hn : ls.length = ms.length
  case neg =>
    have e1 : ((ls.length : Int) != (ms.length : Int)) = true := by simp; omega
    refine key false (by simp; intro h; exact hn (by rw [h])) ?_
    clear hn hl hm key
    go_enter Try.func18, Try.ntmps18
    go_wp2
    go_ret
    exact ⟨rfl, Below.refl _ _⟩
  have e1 : ((ls.length : Int) != (ms.length : Int)) = false := by simp; omega
  have HL := Lib.hid hl.2.2.2
  have HM := Lib.hid hm.2.2.2
  have HY := Lib.hid (fun (h : ls.take ls.length = ms.take ls.length) => show decide (ls = ms) = true by rw [List.take_length, hn, List.take_length] at h; simpa using h)
  have HN := Lib.hid (fun (k : Nat) (h1 : k < ls.length) (h2 : k < ms.length) (h : ls[k] ≠ ms[k]) => show decide (ls = ms) = false by simp; rintro rfl; exact h rfl)
  have HT := Lib.hid (fun (k : Nat) (h1 : k < ls.length) (h2 : k < ms.length) (h : ls[k] = ms[k]) (ht : ls.take k = ms.take k) => show ls.take (k + 1) = ms.take (k + 1) by rw [List.take_succ_eq_append_getElem h1, List.take_succ_eq_append_getElem h2, h, ht])
  have HNL := Lib.hid hn
  clear key hl hm hn
  generalize decide (ls = ms) = res at *
  go_enter Try.func18, Try.ntmps18
  go_wp2
  clear e1
  go_loopw [5] (fun i wr => ∃ k : Nat, k ≤ ls.length ∧ i = .int .i64 k ∧ ls.take k = ms.take k ∧ Below w.heap.size w wr) (fun i _ => ls.length - (intOf i).toNat)
  case atStart => exact ⟨0, Nat.zero_le _, rfl, rfl, Below.refl _ _⟩
  case round =>
    obtain ⟨k, hk, rfl, htk, hbel⟩ := hrel
    have HTK := Lib.hid htk
    have HBE := Lib.hid hbel
    clear htk hbel
    by_cases hlt : k < ls.length
    · have hlt2 : k < ms.length := by have := HNL.out; omega
      have hltI : (k : Int) < (ls.length : Int) := by omega
      have hltJ : (k : Int) < (ms.length : Int) := by omega
      obtain ⟨ad, rfl, hbl, hq⟩ := HL.out k hlt
      obtain ⟨ae, rfl, hbe, hr⟩ := HM.out k hlt2
      obtain ⟨c1, bv, c2, hbv⟩ := hq.below HBE.out (by rw [block_add]; exact hbl)
      obtain ⟨c3, bw, c4, hbw⟩ := hr.below HBE.out (by rw [block_add]; exact hbe)
      have HT1 := Lib.hid (HT.out k hlt hlt2)
      have HN1 := Lib.hid (HN.out k hlt hlt2)
      clear hq hr
      generalize ls[k] = x at *
      generalize ms[k] = y at *
      have HS := Lib.hid (show SA4 (ad.add (k * 2)) ⟨(ad.add (k * 2)).block, (ad.add (k * 2)).off + 1, none⟩ (ae.add (k * 2)) ⟨(ae.add (k * 2)).block, (ae.add (k * 2)).off + 1, none⟩ (.int .i64 x.1) bv (.int .i64 y.1) bw wr from ⟨c1, c2, c3, c4⟩)
      have HC := Lib.hid (fun W (h : Below wr.heap.size wr W) => rSame3_any x y bv bw W (hbv.below h (Nat.le_refl _)) (hbw.below h (Nat.le_refl _)))
      have HDR := Lib.hid (show Below wr.heap.size wr wr.drew from (Below.refl _ _).drew)
      clear c1 c2 c3 c4 hbv hbw
      by_cases hxy : x = y
      · rw [decide_eq_true hxy] at HC
        have HXY := Lib.hid hxy
        clear hxy
        go_upto_region 6 with fail
        go_region_held3 (SA4 (ad.add (k * 2)) ⟨(ad.add (k * 2)).block, (ad.add (k * 2)).off + 1, none⟩ (ae.add (k * 2)) ⟨(ae.add (k * 2)).block, (ae.add (k * 2)).off + 1, none⟩ (.int .i64 x.1) bv (.int .i64 y.1) bw) (first | exact HS.out.below HDR.out | exact HS.out.below HB2.out) (first
          | (go_at_call 31; refine (HC.out _ HDR.out).mono ?_; rintro e w2 ⟨rfl, hb2⟩; have HB2 := Lib.hid (bel2M HDR.out hb2); clear hb2))
        go_wp2
        go_roundw
        case rel => exact ⟨k + 1, by omega, by go_num, HT1.out HXY.out HTK.out, bel2M HBE.out HB2.out⟩
        case measure => simp [intOf]; omega
      · rw [decide_eq_false hxy] at HC
        have HF := Lib.hid (HN1.out hxy)
        clear hxy
        go_upto_region 6 with fail
        go_region_held3 (SA4 (ad.add (k * 2)) ⟨(ad.add (k * 2)).block, (ad.add (k * 2)).off + 1, none⟩ (ae.add (k * 2)) ⟨(ae.add (k * 2)).block, (ae.add (k * 2)).off + 1, none⟩ (.int .i64 x.1) bv (.int .i64 y.1) bw) (first | exact HS.out.below HDR.out | exact HS.out.below HB2.out) (first
          | (go_at_call 31; refine (HC.out _ HDR.out).mono ?_; rintro e w2 ⟨rfl, hb2⟩; have HB2 := Lib.hid (bel2M HDR.out hb2); clear hb2))
        go_wp2
        go_ret
        exact ⟨by rw [HF.out]; rfl, bel2M HBE.out HB2.out⟩
    · obtain rfl : k = ls.length := by omega
      have hltI : ¬ ((ls.length : Nat) : Int) < (ls.length : Int) := by omega
      have HF := Lib.hid (HY.out HTK.out)
      go_wp2
      go_ret
      exact ⟨by rw [HF.out]; rfl, HBE.out⟩
end Go.Proofs.Ytjekpchcbbiohaa

namespace Go.Proofs.Ytjekpchcbbiohaa
open Go.RowKit
set_option linter.unusedVariables false
set_option linter.unusedSimpArgs false
set_option maxRecDepth 20000

theorem envW_inj {e f : Int × List UInt8} (he : in64B e.1) (hf : in64B f.1) (h : envW e = envW f) : e = f := by
  have hl := congrArg List.length h
  rw [envW_length, envW_length] at hl
  unfold envW at h
  obtain ⟨h1, h2⟩ := List.append_inj h (by rw [i8B_length, i8B_length])
  unfold partB at h2
  obtain ⟨-, h3⟩ := List.append_inj h2 (by rw [be_length, be_length])
  exact Prod.ext (i8B_inj he hf h1) h3
theorem map_injG {α β : Type} {P : α → Prop} {f : α → β} (hf : ∀ a b, P a → P b → f a = f b → a = b) : ∀ (l m : List α), (∀ a ∈ l, P a) → (∀ a ∈ m, P a) → l.map f = m.map f → l = m
  | [], [], _, _, _ => rfl
  | [], b :: m, _, _, h => by simp at h
  | a :: l, [], _, _, h => by simp at h
  | a :: l, b :: m, h1, h2, h => by
    rw [List.map_cons, List.map_cons] at h
    injection h with h3 h4
    rw [hf a b (h1 a (by simp)) (h2 b (by simp)) h3, map_injG hf l m (fun x hx => h1 x (by simp [hx])) (fun x hx => h2 x (by simp [hx])) h4]
theorem batB_inj {l m : List (Int × List UInt8)} (hl : briefE l = true) (hm : briefE m = true) (h1 : ∀ e ∈ l, in64B e.1) (h2 : ∀ e ∈ m, in64B e.1) (h : batB l = batB m) : l = m := by
  obtain ⟨a1, a2, -⟩ := bat_le hl
  obtain ⟨b1, b2, -⟩ := bat_le hm
  exact map_injG (P := fun e => in64B e.1) (fun a b ha hb => envW_inj ha hb) l m h1 h2 (encT_inj (by omega) (fun x hx => by have := a2 x hx; omega) (by omega) (fun x hx => by have := b2 x hx; omega) h).2
theorem batB_eq {l m : List (Int × List UInt8)} (hl : briefE l = true) (hm : briefE m = true) (h1 : ∀ e ∈ l, in64B e.1) (h2 : ∀ e ∈ m, in64B e.1) : ((strB (batB l)).toList == (strB (batB m)).toList) = decide (l = m) := by
  rw [strB_list, strB_list]
  by_cases h : l = m
  · subst h
    simp
  · have : batB l ≠ batB m := fun hb => h (batB_inj hl hm h1 h2 hb)
    rw [decide_eq_false h]
    simpa using this
set_option maxHeartbeats 2000000 in
theorem MessageBatches_any (l m : List (Int × List UInt8)) (A : Option Addr) (c : Nat) (D : Option Addr) (d : Nat) (w : World) (hl : EnvK w A c l) (hm : EnvK w D d m) (h1 : ∀ e ∈ l, in64B e.1) (h2 : ∀ e ∈ m, in64B e.1) : Calls Try.prog 6 #[.slice A l.length c, .slice D m.length d] w (Yes w) := by
  have HF1 := Lib.hid (fun W (hb : Below w.heap.size w W) => brief_any A c l W (hl.below hb))
  have HF2 := Lib.hid (fun W (hb : Below w.heap.size w W) => brief_any D d m W (hm.below hb))
  have HW := Lib.hid (fun W => awake12_any W)
  have HB := Lib.hid (Below.refl w.heap.size w)
  rcases hbl : briefE l with _ | _
  · rw [hbl] at HF1
    go_enter Try.func6, Try.ntmps6
    go_wp2_with (go_at_call 15; refine (HF1.out _ HB.out).mono ?_; rintro e w1 ⟨rfl, hb⟩; have HB1 := Lib.hid (bel2M HB.out hb); clear hb)
    go_ret
    exact ⟨rfl, HB1.out⟩
  rw [hbl] at HF1
  rcases hbm : briefE m with _ | _
  · rw [hbm] at HF2
    go_enter Try.func6, Try.ntmps6
    go_wp2_with (first
      | (go_at_call 15; refine (HF1.out _ HB.out).mono ?_; rintro e w1 ⟨rfl, hb⟩; have HB := Lib.hid (bel2M HB.out hb); clear hb HF1)
      | (go_at_call 15; refine (HF2.out _ HB.out).mono ?_; rintro e w2 ⟨rfl, hb⟩; have HB := Lib.hid (bel2M HB.out hb); clear hb))
    go_ret
    exact ⟨rfl, HB.out⟩
  rw [hbm] at HF2
  have HP1 := Lib.hid (fun W (hb : Below w.heap.size w W) => gBatch_any A c l W (hl.below hb) hbl)
  have HP2 := Lib.hid (fun W (hb : Below w.heap.size w W) => gBatch_any D d m W (hm.below hb) hbm)
  have HR := Lib.hid (fun W (hb : Below w.heap.size w W) => rBatch_any A c l W (hl.below hb) hbl)
  have hq := batB_eq hbl hbm h1 h2
  have HA := Lib.hid (fun W (hb : Below w.heap.size w W) => rAll3_any l m A c D d W (hl.below hb) (hm.below hb))
  have hself : ((strB (batB l)).toList == (strB (batB l)).toList) = true := by simp
  rcases hlm : decide (l = m) with _ | _
  · rw [hlm] at hq HA
    clear hlm hbl hbm hl hm h1 h2
    go_enter Try.func6, Try.ntmps6
    go_wp2_with (first
      | (go_at_call 15; refine (HF1.out _ HB.out).mono ?_; rintro e w1 ⟨rfl, hb⟩; have HB := Lib.hid (bel2M HB.out hb); clear hb HF1)
      | (go_at_call 15; refine (HF2.out _ HB.out).mono ?_; rintro e w2 ⟨rfl, hb⟩; have HB := Lib.hid (bel2M HB.out hb); clear hb)
      | (go_at_call_of 16 (Value.slice A l.length c); refine (HP1.out _ HB.out).mono ?_; rintro e w3 ⟨rfl, hb⟩; have HB := Lib.hid (bel2M HB.out hb); clear hb)
      | (go_at_call 16; refine (HP2.out _ HB.out).mono ?_; rintro e w4 ⟨rfl, hb⟩; have HB := Lib.hid (bel2M HB.out hb); clear hb)
      | (go_at_call 17; refine (HR.out _ HB.out).mono ?_; rintro e w5 ⟨rfl, hb⟩; have HB := Lib.hid (bel2M HB.out hb); clear hb)
      | (go_at_call 18; refine (HA.out _ HB.out).mono ?_; rintro e w6 ⟨rfl, hb⟩; have HB := Lib.hid (bel2M HB.out hb); clear hb)
      | (go_at_call 14; refine (HW.out _).mono ?_; rintro e w7 ⟨rfl, hb⟩; have HB := Lib.hid (bel2M HB.out hb); clear hb))
    go_ret
    exact ⟨rfl, HB.out⟩
  · rw [hlm] at hq HA
    clear hlm hbl hbm hl hm h1 h2
    go_enter Try.func6, Try.ntmps6
    go_wp2_with (first
      | (go_at_call 15; refine (HF1.out _ HB.out).mono ?_; rintro e w1 ⟨rfl, hb⟩; have HB := Lib.hid (bel2M HB.out hb); clear hb HF1)
      | (go_at_call 15; refine (HF2.out _ HB.out).mono ?_; rintro e w2 ⟨rfl, hb⟩; have HB := Lib.hid (bel2M HB.out hb); clear hb)
      | (go_at_call_of 16 (Value.slice A l.length c); refine (HP1.out _ HB.out).mono ?_; rintro e w3 ⟨rfl, hb⟩; have HB := Lib.hid (bel2M HB.out hb); clear hb)
      | (go_at_call 16; refine (HP2.out _ HB.out).mono ?_; rintro e w4 ⟨rfl, hb⟩; have HB := Lib.hid (bel2M HB.out hb); clear hb)
      | (go_at_call 17; refine (HR.out _ HB.out).mono ?_; rintro e w5 ⟨rfl, hb⟩; have HB := Lib.hid (bel2M HB.out hb); clear hb)
      | (go_at_call 18; refine (HA.out _ HB.out).mono ?_; rintro e w6 ⟨rfl, hb⟩; have HB := Lib.hid (bel2M HB.out hb); clear hb)
      | (go_at_call 14; refine (HW.out _).mono ?_; rintro e w7 ⟨rfl, hb⟩; have HB := Lib.hid (bel2M HB.out hb); clear hb))
    go_ret
    exact ⟨rfl, HB.out⟩

end Go.Proofs.Ytjekpchcbbiohaa

namespace Go.Proofs.Ytjekpchcbbiohaa
open Go.RowKit Go.ChangeShapes Go.WideShapes Go.ChangeAt
set_option linter.unusedVariables false
set_option linter.unusedSimpArgs false
set_option maxRecDepth 20000
section
variable {H : Type} {enc : TypeId × Value → H} {W : World} {sp : Nat → Bool} {hd : Bool} {base : Nat} {v : Value} {d : DataW H} {ps : List MemPlace}
theorem open_envs (hv : Value.okWide Try.prog W .any base 27 v) (h : DataW.Trod enc Try.prog W 0 sp hd 27 v d ps) : ∃ (l : List (Int × List UInt8)) (A : Option Addr) (c : Nat), v = .slice A l.length c ∧ EnvK W A c l ∧ ∀ z ∈ l, in64B z.1 := by
  obtain ⟨A, len, cap, rfl⟩ := okWide_slice Try.underlying27 hv
  obtain ⟨fuel, hf⟩ := h
  obtain ⟨l, A2, c2, e, h1, h2⟩ := row_ofM (W := W) ⟨(0, [])⟩ EnvP (fun z => in64B z.1) Try.underlying27 (by kernel_rfl) (fun p x h => World.block_lt_of_cell? _ _ h.1) part_env (by simpa [Value.cells] using hf)
  exact ⟨l, A2, c2, e, h1, h2⟩
end
end Go.Proofs.Ytjekpchcbbiohaa
