/- pd: LTwin LTwinD LObj LObjD LBlk LNew LPush LApp LAppD LCut LAw LPck LUnp LLaw1 (made by shake.py). -/
import Derived.Deep.CutRange
import Derived.Test.Ytggbopgchlgidaapc
namespace Go.Proofs.Ytggbopgchlgidaa
open Go.RowKit
set_option linter.unusedVariables false
set_option linter.unusedSimpArgs false
set_option maxRecDepth 20000

theorem flatT_odd (E : List Tri) (k : Nat) (hk : k < E.length) : (flatT E)[k * 2 + 1]? = some E[k].2.2 := by
  obtain ⟨f1, f2⟩ := flatE_get (E.map fun p => (p.1, p.2.2)) k (by simpa using hk)
  simpa [flatT] using f2
structure CbI (N : Nat) (A : Option Addr) (n cap : Nat) (L : List (Int × List UInt8)) (bx zx : Array Value) (D : Option Addr) (d : Nat) (rs : List (Int × Int)) (w : World) (k : Nat) (E : List Tri) (W : World) : Prop where
  e : pairsT E = L
  len : E.length = n
  row : W.ownsRow (N + 2) 82 2 (.slice A n cap) n (flatT E)
  old : ∀ j (hj : j < E.length), Bs W E[j].2.2 E[j].2.1 ∧ (E[j].2.1 ≠ [] → ∀ i, E[j].2.2.ownBlock = some i → i ≠ N ∧ i ≠ N + 1 ∧ (Value.slice A n cap).ownBlock ≠ some i ∧ (j < k → N ≤ i))
  bel : Below N w W
  box : W.heap[N]? = some (.cells bx 33 (0, 0))
  zb : W.heap[N + 1]? = some (.cells zx 33 (0, 0))
  res : ∃ B, W.ownsRow B 86 2 (.slice D rs.length d) rs.length (rs.flatMap rsC) ∧ N + 2 ≤ B ∧ (∀ i, (Value.slice A n cap).ownBlock = some i → i < B)
theorem own_leL {w : World} {base base' size n : Nat} {e : TypeId} {v : Value} {xs : List Value} (h : w.ownsRow base e size v n xs) (hb : base' ≤ base) : w.ownsRow base' e size v n xs := by
  obtain ⟨h1, h2 | ⟨g, cap, cur, h3, h4, h5⟩⟩ := h
  · exact ⟨h1, .inl h2⟩
  · exact ⟨h1, .inr ⟨g, cap, cur, h3, Nat.le_trans hb h4, h5⟩⟩
theorem CbI.keep {N : Nat} {A : Option Addr} {n cap : Nat} {L : List (Int × List UInt8)} {bx zx : Array Value} {D : Option Addr} {d : Nat} {rs : List (Int × Int)} {w : World} {k : Nat} {E : List Tri} {W W' : World} (h : CbI N A n cap L bx zx D d rs w k E W) (hb : Below W.heap.size W W') : CbI N A n cap L bx zx D d rs w k E W' where
  e := h.e
  len := h.len
  row := own_keep h.row fun i hi => hb.block i (h.row.lt i hi).2
  old := fun j hj => ⟨(h.old j hj).1.below hb (Nat.le_refl _), (h.old j hj).2⟩
  bel := h.bel.trans (hb.mono (by have := (Array.getElem?_eq_some_iff.1 h.box).1; omega))
  box := heapB h.box hb
  zb := heapB h.zb hb
  res := by
    obtain ⟨B, h1, h2⟩ := h.res
    exact ⟨B, own_keep h1 fun i hi => hb.block i (h1.lt i hi).2, h2⟩
theorem CbI.put {N g : Nat} {n cap : Nat} {L : List (Int × List UInt8)} {bx zx : Array Value} {D : Option Addr} {d : Nat} {rs : List (Int × Int)} {w : World} {k : Nat} {E : List Tri} {W : World} (h : CbI N (some ⟨g, 0, none⟩) n cap L bx zx D d rs w k E W) (hk : k < E.length) {y : Value} (hy : Bs W y E[k].2.1) {M : Nat} (hn : E[k].2.1 ≠ [] → ∀ i, y.ownBlock = some i → M ≤ i) (hM : N + 2 ≤ M ∧ g < M) :
    CbI N (some ⟨g, 0, none⟩) n cap L bx zx D d rs w (k + 1) (E.set k (E[k].1, E[k].2.1, y)) (W.setCell ⟨g, k * 2 + 1, none⟩ y) := by
  have hg : ∀ i, i ≠ g → (W.setCell ⟨g, k * 2 + 1, none⟩ y).heap[i]? = W.heap[i]? := fun i hi => Go.Deep.blk_setCell_other _ _ _ _ hi
  have hgN : N + 2 ≤ g := (h.row.lt g rfl).1
  have hz : W.heap.size ≤ (W.setCell ⟨g, k * 2 + 1, none⟩ y).heap.size := by simp
  refine ⟨by rw [pairsT_set _ _ hk]; exact h.e, by rw [List.length_set]; exact h.len, ?_, fun j hj => ?_, h.bel.setCell (p := ⟨g, k * 2 + 1, none⟩) (by show N ≤ g; omega) _, (hg N (by omega)).trans h.box, (hg (N + 1) (by omega)).trans h.zb, ?_⟩
  · rw [flatT_set E k hk]
    exact (h.row.stored _ _).1
  · have hj' : j < E.length := by rw [List.length_set] at hj; exact hj
    by_cases hjk : k = j
    · subst hjk
      simp only [List.getElem_set_self]
      refine ⟨hy.keep hz fun hne i hi => hg i (by have := hn hne i hi; omega), fun hne i hi => ?_⟩
      have := hn hne i hi
      exact ⟨by omega, by omega, fun e => by injection e with e; simp only at e; omega, fun _ => by omega⟩
    · simp only [List.getElem_set_ne hjk]
      obtain ⟨h1, h2⟩ := h.old j hj'
      refine ⟨h1.keep hz fun hne i hi => hg i fun e => (h2 hne i hi).2.2.1 (by rw [e]; rfl), fun hne i hi => ?_⟩
      obtain ⟨e1, e2, e3, e4⟩ := h2 hne i hi
      exact ⟨e1, e2, e3, fun hlt => e4 (by omega)⟩
  · obtain ⟨B, h1, h2, h3⟩ := h.res
    exact ⟨B, own_keep h1 fun i hi => hg i fun e => by have := h3 g rfl; have := (h1.lt i hi).1; omega, h2, h3⟩
theorem CbI.done {N : Nat} {A : Option Addr} {n cap : Nat} {L : List (Int × List UInt8)} {bx zx : Array Value} {D : Option Addr} {d : Nat} {rs : List (Int × Int)} {w : World} {E : List Tri} {W : World} (h : CbI N A n cap L bx zx D d rs w n E W) : RowC (fun i => N + 2 ≤ i) W 2 (EnvC (fun i => N + 2 ≤ i)) A cap L ∧ RowC (fun i => N + 2 ≤ i) W 2 ResP D d rs := by
  constructor
  · obtain ⟨A', c', e1, h1⟩ := rowC_tri (C := fun i => N + 2 ≤ i) h.row (fun i hi => hi) fun p hp => by
      obtain ⟨j, hj, rfl⟩ := List.getElem_of_mem hp
      refine ⟨(h.old j hj).1, fun hne i hi => ?_⟩
      obtain ⟨e1, e2, e3, e4⟩ := (h.old j hj).2 hne i hi
      have := e4 (by rw [← h.len]; exact hj)
      show N + 2 ≤ i
      omega
    rw [h.e] at h1
    injection e1 with e2 e3 e4
    subst e2 e4
    exact h1
  · obtain ⟨B, h1, h2, -⟩ := h.res
    obtain ⟨A', c', e1, h3⟩ := rowC_res (C := fun i => N + 2 ≤ i) h1 (fun i hi => Nat.le_trans h2 hi)
    injection e1 with e2 e3 e4
    subst e2 e4
    exact h3
theorem rows4 {W : World} {N : Nat} {x0 x1 x2 x3 : Value} {t : TypeId} (h : W.heap[N]? = some (.cells #[x0, x1, x2, x3] t (0, 0))) : W.cell? ⟨N, 0, none⟩ = some x0 ∧ W.cell? ⟨N, 1, none⟩ = some x1 ∧ W.cell? ⟨N, 2, none⟩ = some x2 ∧ W.cell? ⟨N, 3, none⟩ = some x3 ∧ ∀ j, W.frozen? ⟨N, j, none⟩ = false :=
  ⟨rowCell h 0 _ rfl, rowCell h 1 _ rfl, rowCell h 2 _ rfl, rowCell h 3 _ rfl, fun j => by simp [World.frozen?, h]⟩
set_option maxHeartbeats 2000000 in
theorem cloneB_any (b : Blk) (A : Option Addr) (c : Nat) (D : Option Addr) (d : Nat) (w : World) (h : BlkK w b A c D d) (hf : FewQ b) : Calls Try.prog 42 #[agB b A c D d] w (TwB b w) := by
  obtain ⟨x1, x2, x3⟩ := box2B w #[.int .i64 b.h, .string (strB b.prev), .slice A b.reqs.length c, .slice D b.ress.length d] #[.int .i64 0, .string ⟨#[]⟩, .slice none 0 0, .slice none 0 0] 33 33
  obtain ⟨E, hE, hEl, hrow, hbs⟩ := env_tri h.q
  have hq20 := hf.q
  have hr20 := hf.r
  have HB0 := Lib.hid x3
  have HD := Lib.hid hf.d
  have HCE := Lib.hid (fun W (hb : Below w.heap.size w W) => cloneEv_any A E.length c (flatT E) W (hrow.below hb) (triC_one E hbs) (by omega))
  have HCR := Lib.hid (fun W (hb : Below w.heap.size w W) => cloneRs_any D b.ress.length d (b.ress.flatMap rsC) W ((res_rows h.r).below hb) (rsC_one _) (by omega))
  have HBS := Lib.hid hbs
  have HE := Lib.hid hE
  have HEL := Lib.hid hEl
  rw [hEl] at HCE
  generalize hw0 : ((w.alloc (.cells #[.int .i64 b.h, .string (strB b.prev), .slice A b.reqs.length c, .slice D b.ress.length d] 33)).alloc (.cells #[.int .i64 0, .string ⟨#[]⟩, .slice none 0 0, .slice none 0 0] 33)) = w0 at *
  have HW0 := Lib.hid hw0
  have HX1 := Lib.hid x1
  have HK := Lib.hid (show ∀ W, Below w0.heap.size w0 W → (fun W => W.cell? ⟨w.heap.size, 2, none⟩ = some (.slice A b.reqs.length c) ∧ W.cell? ⟨w.heap.size, 3, none⟩ = some (.slice D b.ress.length d)) W from fun W h => ⟨cellB (rowCell x1 2 _ rfl) h, cellB (rowCell x1 3 _ rfl) h⟩)
  have HX2 := Lib.hid x2
  have HQ20 := Lib.hid hq20
  have HN2 := Lib.hid (show w.heap.size + 1 < w0.heap.size from (Array.getElem?_eq_some_iff.1 x2).1)
  clear x1 x2 x3 hw0 hE hEl hrow hbs h hf hq20 hr20
  go_enter Try.func42, Try.ntmps42
  go_upto_region 1 with fail
  rw [HW0.out]
  go_cut [7] from 5 to 12 (fun s7 wx => ∃ A1 c1 A2 c2 B, s7 = .slice A1 b.reqs.length c1 ∧ wx.ownsRow (w.heap.size + 2) 82 2 (.slice A1 b.reqs.length c1) b.reqs.length (flatT E) ∧ wx.ownsRow B 86 2 (.slice A2 b.ress.length c2) b.ress.length (b.ress.flatMap rsC) ∧ w.heap.size + 2 ≤ B ∧ (∀ g, (Value.slice A1 b.reqs.length c1).ownBlock = some g → g < B) ∧ Below w.heap.size w wx ∧ wx.heap[w.heap.size]? = some (.cells #[.int .i64 b.h, .string (strB b.prev), .slice A1 b.reqs.length c1, .slice A2 b.ress.length c2] 33 (0, 0)) ∧ wx.heap[w.heap.size + 1]? = some (.cells #[.int .i64 0, .string ⟨#[]⟩, .slice none 0 0, .slice none 0 0] 33 (0, 0)))
  case first =>
    have HBC := Lib.hid (show Below w0.heap.size w0 w0.drew from (Below.refl _ _).drew)
    obtain ⟨p2, p3⟩ := HK.out _ HBC.out
    go_region_with (first
      | (go_at_call 69; refine (HCE.out _ (bel2M HB0.out HBC.out)).mono ?_; rintro e w1 ⟨v1, rfl, ho1, hb1⟩; obtain ⟨A1, c1, rfl⟩ := own_slice ho1; have HO1 := Lib.hid ho1; have HS1 := Lib.hid HBC.out.size; replace HBC := Lib.hid (bel2M HBC.out hb1); clear ho1 hb1; obtain ⟨p2, p3⟩ := HK.out _ HBC.out)
      | (go_at_call 70; refine (HCR.out _ (bel2M HB0.out HBC.out)).mono ?_; rintro e w2 ⟨v2, rfl, ho2, hb2⟩; obtain ⟨A2, c2, rfl⟩ := own_slice ho2; have HO2 := Lib.hid ho2; have HB2 := Lib.hid hb2; have HS2 := Lib.hid HBC.out.size; replace HBC := Lib.hid (bel2M HBC.out hb2); clear ho2 hb2; obtain ⟨z0, z1, z2, z3, z4⟩ := rows4 (heapB HX1.out HBC.out)))
    all_goals
      go_wp2_with fail
      go_meet
      have hz1 := HS1.out
      have hz2 := HS2.out
      have hz3 := HB2.out.size
      have hN2 := HN2.out
      refine ⟨A1, c1, A2, c2, _, rfl, ?_, own_keep HO2.out (fun k hk => ?_), by omega, fun g hg => (HO1.out.lt g hg).2, ?_, box_set2 (heapB HX1.out HBC.out) _ _, ?_⟩
      · refine own_keep (own_keep (own_leL HO1.out (by omega)) fun k hk => HB2.out.block k (HO1.out.lt k hk).2) fun k hk => ?_
        have := (HO1.out.lt k hk).1
        rw [Go.Deep.blk_setCell_other _ _ _ _ (show k ≠ w.heap.size by omega), Go.Deep.blk_setCell_other _ _ _ _ (show k ≠ w.heap.size by omega)]
      · have := (HO2.out.lt k hk).1
        rw [Go.Deep.blk_setCell_other _ _ _ _ (show k ≠ w.heap.size by omega), Go.Deep.blk_setCell_other _ _ _ _ (show k ≠ w.heap.size by omega)]
      · exact ((bel2M HB0.out HBC.out).setCell (p := ⟨w.heap.size, 2, none⟩) (Nat.le_refl _) _).setCell (p := ⟨w.heap.size, 3, none⟩) (Nat.le_refl _) _
      · rw [Go.Deep.blk_setCell_other _ _ _ _ (show w.heap.size + 1 ≠ w.heap.size by omega), Go.Deep.blk_setCell_other _ _ _ _ (show w.heap.size + 1 ≠ w.heap.size by omega)]
        exact heapB HX2.out HBC.out
  case rest =>
    obtain ⟨A1, cA, A2, c2, B, rfl, r1, r2, hB, hgB, hbel, hbox, hzb⟩ := hcut
    have hI0 : CbI w.heap.size A1 b.reqs.length cA b.reqs #[.int .i64 b.h, .string (strB b.prev), .slice A1 b.reqs.length cA, .slice A2 b.ress.length c2] #[.int .i64 0, .string ⟨#[]⟩, .slice none 0 0, .slice none 0 0] A2 c2 b.ress w 0 E wc :=
      ⟨HE.out, HEL.out, r1, fun j hj => ⟨(HBS.out _ (List.getElem_mem hj)).below hbel (Nat.le_refl _), fun hne i hi => by
        have h1 := (HBS.out _ (List.getElem_mem hj)).lt hne i hi
        exact ⟨by omega, by omega, fun e => by have := (r1.lt i e).1; omega, fun h => absurd h (Nat.not_lt_zero _)⟩⟩, hbel, hbox, hzb, ⟨B, r2, hB, hgB⟩⟩
    have HI0 := Lib.hid hI0
    obtain ⟨b0, b1, b2, b3, b4⟩ := rows4 hbox
    have hn63 : b.reqs.length ≤ 20 := HQ20.out
    clear HCE HCR HK HX1 HX2 hI0 r1 r2 hbel hbox hzb hgB hB
    go_wp2
    go_loopw [16] (fun i wr => ∃ (k : Nat) (F : List Tri), k ≤ b.reqs.length ∧ i = .int .i64 k ∧ CbI w.heap.size A1 b.reqs.length cA b.reqs #[.int .i64 b.h, .string (strB b.prev), .slice A1 b.reqs.length cA, .slice A2 b.ress.length c2] #[.int .i64 0, .string ⟨#[]⟩, .slice none 0 0, .slice none 0 0] A2 c2 b.ress w k F wr) (fun i _ => b.reqs.length - (intOf i).toNat)
    case atStart => exact ⟨0, E, Nat.zero_le _, rfl, HI0.out⟩
    case round =>
      obtain ⟨k, F, hk, rfl, hI⟩ := hrel
      have HI := Lib.hid hI
      clear hI
      by_cases hlt : k < b.reqs.length
      · have hltI : (k : Int) < (b.reqs.length : Int) := by omega
        have hkF : k < F.length := by rw [HI.out.len]; exact hlt
        obtain ⟨g, rfl⟩ : ∃ g, A1 = some ⟨g, 0, none⟩ := by
          rcases HI.out.row.2 with ⟨-, h0⟩ | ⟨g, cap, cur, e, -⟩
          · omega
          · injection e with e; exact ⟨g, e⟩
        obtain ⟨y0, y1, y2, y3, y4⟩ := rows4 HI.out.box
        obtain ⟨f1, f2⟩ := flatE_get (F.map fun p => (p.1, p.2.2)) k (by simpa using hkF)
        have hb1 := (HI.out.old k hkF).1
        have hlen : F[k].2.1.length ≤ 500 := by
          have := HD.out (F[k].1, F[k].2.1) (by rw [← HI.out.e]; exact List.mem_map_of_mem (f := fun p : Tri => (p.1, p.2.1)) (List.getElem_mem hkF))
          exact this
        have c0 : wr.cell? ⟨g, k * 2, none⟩ = some (.int .i64 F[k].1) := by
          rw [HI.out.row.cellAt _ (by omega)]
          simpa [flatT] using f1
        have c1 : wr.cell? ⟨g, k * 2 + 1, none⟩ = some F[k].2.2 := by
          rw [HI.out.row.cellAt _ (by omega)]
          simpa [flatT] using f2
        generalize hFk : F[k] = fk at *
        obtain ⟨s1, l1, bv1⟩ := fk
        simp only at hb1 hlen c0 c1
        have HCL := Lib.hid (fun W (hb : Below wr.heap.size wr W) => Clone_own bv1 l1 W (hb1.below hb (Nat.le_refl _)) (by omega))
        have HB1 := Lib.hid hb1
        obtain ⟨A4, c4, rfl, -⟩ := hb1.open
        clear f1 f2
        go_upto_region 5 with fail
        have hgN : w.heap.size + 2 ≤ g ∧ g < wr.heap.size := HI.out.row.lt g rfl
        have HGN := Lib.hid hgN
        have HA := Lib.hid ((Below.refl wr.heap.size wr).alloc (Nat.le_refl _) (.cells #[.int .i64 s1, .slice A4 l1.length c4] 82))
        have HX4 := Lib.hid (heap_alloc_new wr (.cells #[.int .i64 s1, .slice A4 l1.length c4] 82))
        have HFK := Lib.hid hFk
        have HKF := Lib.hid hkF
        generalize hwa : wr.alloc (.cells #[.int .i64 s1, .slice A4 l1.length c4] 82) = wa at *
        have HS := Lib.hid (show ∀ W, Below wa.heap.size wa W → (fun W => W.cell? ⟨w.heap.size, 2, none⟩ = some (.slice (some ⟨g, 0, none⟩) b.reqs.length cA) ∧ W.cell? ⟨wr.heap.size, 1, none⟩ = some (.slice A4 l1.length c4)) W from fun W h => ⟨cellB (cellB y2 HA.out) h, cellB (rowCell HX4.out 1 _ rfl) h⟩)
        clear hwa hFk hb1 hlen y0 y1 y2 y3 y4 c0 c1 hgN
        have HBC := Lib.hid (show Below wa.heap.size wa wa.drew from (Below.refl _ _).drew)
        go_region_held3 (fun W => W.cell? ⟨w.heap.size, 2, none⟩ = some (.slice (some ⟨g, 0, none⟩) b.reqs.length cA) ∧ W.cell? ⟨wr.heap.size, 1, none⟩ = some (.slice A4 l1.length c4)) (first | exact HS.out _ HBC.out | exact ⟨setOtherB (HS.out _ HBC.out).1 (by have := HGN.out; show w.heap.size ≠ g; omega), setOtherB (HS.out _ HBC.out).2 (by have := HGN.out; show wr.heap.size ≠ g; omega)⟩) (first
          | (go_at_call 71; refine (HCL.out _ (bel2M HA.out HBC.out)).mono ?_; rintro e w4 ⟨v4, rfl, ho4, hb4⟩; obtain ⟨A5, c5, rfl⟩ := own_slice ho4; have HO4 := Lib.hid ho4; have HS4 := Lib.hid (bel2M HA.out HBC.out).size; replace HBC := Lib.hid (bel2M HBC.out hb4); clear ho4 hb4; have HI4 := Lib.hid (HI.out.keep (bel2M HA.out HBC.out)); have q1 := HI4.out.row.frozenAt (k * 2 + 1); have q2 := (HI4.out.row.cellAt (k * 2 + 1) (by have := hlt; omega)).trans ((flatT_odd F k HKF.out).trans (by rw [HFK.out]))))
        go_wp2
        go_roundw
        case rel =>
          refine ⟨k + 1, F.set k (F[k].1, F[k].2.1, .slice A5 l1.length c5), by omega, by go_num, ?_⟩
          have hz := HA.out.size
          have hgn := HGN.out
          refine HI4.out.put hkF (by rw [HFK.out]; exact own_bs HO4.out) (M := wr.heap.size) (fun _ i hi => by have h0 := (HO4.out.lt i hi).1; have h1 : wr.heap.size ≤ wa.drew.heap.size := hz; omega) (by omega)
        case measure => simp [intOf]; omega
      · obtain rfl : k = b.reqs.length := by omega
        have hltI : ¬ (b.reqs.length : Int) < (b.reqs.length : Int) := by omega
        obtain ⟨y0, y1, y2, y3, y4⟩ := rows4 HI.out.box
        obtain ⟨z0, z1, z2, z3, z4⟩ := rows4 HI.out.zb
        obtain ⟨hd1, hd2⟩ := HI.out.done
        go_wp2
        have hz := HI.out.zb
        have hzl := (Array.getElem?_eq_some_iff.1 hz).1
        refine bodyPost_ret (v := agB b A1 cA A2 c2) (by simp [results, Try.results42, go_sem, z0, z1, z2, z3, hzl]) rfl ⟨A1, cA, A2, c2, rfl, ?_, ?_⟩
        · have hk : KeptC (fun i => w.heap.size + 2 ≤ i) (fun i => w.heap.size ≤ i) wr ((((wr.setCell ⟨w.heap.size + 1, 0, none⟩ (.int .i64 b.h)).setCell ⟨w.heap.size + 1, 1, none⟩ (.string (strB b.prev))).setCell ⟨w.heap.size + 1, 2, none⟩ (.slice A1 b.reqs.length cA)).setCell ⟨w.heap.size + 1, 3, none⟩ (.slice A2 b.ress.length c2)) := fun i _ hi => by
            have hne : i ≠ w.heap.size + 1 := by simp only at hi; omega
            exact ⟨by rw [Go.Deep.blk_setCell_other _ _ _ _ hne, Go.Deep.blk_setCell_other _ _ _ _ hne, Go.Deep.blk_setCell_other _ _ _ _ hne, Go.Deep.blk_setCell_other _ _ _ _ hne], by simp only at hi ⊢; omega⟩
          exact BlkC.keep ⟨hd1, hd2⟩ (by simp) hk
        · exact (((HI.out.bel.setCell (p := ⟨w.heap.size + 1, 0, none⟩) (Nat.le_succ _) _).setCell (p := ⟨w.heap.size + 1, 1, none⟩) (Nat.le_succ _) _).setCell (p := ⟨w.heap.size + 1, 2, none⟩) (Nat.le_succ _) _).setCell (p := ⟨w.heap.size + 1, 3, none⟩) (Nat.le_succ _) _

structure TwI (l : List (Int × List UInt8)) (w : World) (k : Nat) (v : Value) (E : List Tri) (W : World) : Prop where
  e : pairsT E = l.take k
  row : W.ownsRow w.heap.size 82 2 v k (flatT E)
  old : ∀ p ∈ E, Bs W p.2.2 p.2.1 ∧ (p.2.1 ≠ [] → ∀ i, p.2.2.ownBlock = some i → w.heap.size ≤ i ∧ v.ownBlock ≠ some i)
  bel : Below w.heap.size w W
theorem flatT_push (E : List Tri) (s : Int) (l : List UInt8) (y : Value) : flatT E ++ [.int .i64 s, y] = flatT (E ++ [(s, l, y)]) := (flatT_snoc E (s, l, y)).symm
theorem TwI.push {l : List (Int × List UInt8)} {w wr w2 w4 : World} {k : Nat} {v v4 y : Value} {E : List Tri} {s1 : Int} {l1 : List UInt8} (h : TwI l w k v E wr) (ht : l.take (k + 1) = l.take k ++ [(s1, l1)]) (hb2 : Below wr.heap.size wr w2) (hy : Bs w2 y l1) (hyn : l1 ≠ [] → ∀ i, y.ownBlock = some i → wr.heap.size ≤ i)
    (ho : w4.ownsRow w.heap.size 82 2 v4 (k + 1) (flatT E ++ [.int .i64 s1, y])) (hg : w2.grownBy w4 v.ownBlock) (hr : v4.ownBlock = v.ownBlock ∨ v4.ownBlock = some w2.heap.size) : TwI l w (k + 1) v4 (E ++ [(s1, l1, y)]) w4 where
  e := by rw [ht]; simp only [pairsT, List.map_append, List.map_cons, List.map_nil]; rw [show E.map (fun p => (p.1, p.2.1)) = pairsT E from rfl, h.e]
  row := by rw [← flatT_push]; exact ho
  old := fun p hp => by
    have hz2 := hb2.size
    have hall : Bs w2 p.2.2 p.2.1 ∧ (p.2.1 ≠ [] → ∀ i, p.2.2.ownBlock = some i → w.heap.size ≤ i ∧ v.ownBlock ≠ some i ∧ i < w2.heap.size) := by
      rcases List.mem_append.1 hp with hp | hp
      · obtain ⟨h1, h2⟩ := h.old p hp
        refine ⟨h1.below hb2 (Nat.le_refl _), fun hne i hi => ⟨(h2 hne i hi).1, (h2 hne i hi).2, ?_⟩⟩
        have := h1.lt hne i hi
        omega
      · rw [List.mem_singleton.1 hp]
        refine ⟨hy, fun hne i hi => ?_⟩
        have h1 := hyn hne i hi
        have h2 := h.bel.size
        exact ⟨by omega, fun e => by have := (h.row.lt i e).2; omega, hy.lt hne i hi⟩
    refine ⟨hall.1.keep hg.size fun hne i hi => hg.block i (hall.2 hne i hi).2.2 (fun e => (hall.2 hne i hi).2.1 e.symm), fun hne i hi => ⟨(hall.2 hne i hi).1, fun e => ?_⟩⟩
    rcases hr with hr | hr
    · exact (hall.2 hne i hi).2.1 (hr ▸ e)
    · rw [e] at hr
      injection hr with hr
      have := (hall.2 hne i hi).2.2
      omega
  bel := (h.bel.trans (hb2.mono h.bel.size)).grown hg (Nat.le_trans h.bel.size hb2.size) (fun i hi => (h.row.lt i hi).1)

def TellL (v : Value) (w : World) (e : Ending) (w' : World) : Prop := e = .returned v ∧ Below w.heap.size w w'
theorem rows2 {W : World} {N : Nat} {x0 x1 : Value} {t : TypeId} (h : W.heap[N]? = some (.cells #[x0, x1] t (0, 0))) : W.cell? ⟨N, 0, none⟩ = some x0 ∧ W.cell? ⟨N, 1, none⟩ = some x1 ∧ (∀ j, W.frozen? ⟨N, j, none⟩ = false) ∧ N < W.heap.size :=
  ⟨rowCell h 0 _ rfl, rowCell h 1 _ rfl, fun j => by simp [World.frozen?, h], (Array.getElem?_eq_some_iff.1 h).1⟩
section
variable {S : Nat → Prop} {w : World} {g : Nat} {L : Ldg} {v : Value} {qs : List KB}
theorem has_any (g : Nat) (w : World) : Calls Try.prog 43 #[.pointer (some ⟨g, 0, none⟩)] w (Says (.pointer (some ⟨g, 0, none⟩)) w) := by
  go_enter Try.func43, Try.ntmps43
  go_wp2
  go_ret
  exact ⟨rfl, rfl⟩
theorem LgR.rowP (h : LgP S w g L v qs) : w.cell? ⟨g, 0, none⟩ = some (.int .i64 L.base) ∧ w.cell? ⟨g, 1, none⟩ = some (.string (strB L.dig)) ∧ w.cell? ⟨g, 2, none⟩ = some v ∧ w.cell? ⟨g, 3, none⟩ = some (.bool true) ∧ ∀ j, w.frozen? ⟨g, j, none⟩ = false := rows4 h.head
set_option maxHeartbeats 1000000 in
theorem lHeight_any (h : LgP S w g L v qs) {K : Nat} (hg : GoodL K L) : Calls Try.prog 18 #[.pointer (some ⟨g, 0, none⟩)] w (TellL (.int .i64 (topL L)) w) := by
  obtain ⟨A, cp, rfl, -, -, -⟩ := h.open
  obtain ⟨z0, z1, z2, z3, z4⟩ := h.rowP
  have hb := hg.b
  have hlen := h.len
  unfold topL at hb ⊢
  rw [← hlen] at hb ⊢
  obtain ⟨hb1, hb2⟩ := hb
  have HH := Lib.hid (fun W => has_any g W)
  have hsum : IntKind.i64.wrap (L.base + (qs.length : Int)) = L.base + (qs.length : Int) := by rw [IntKind.wrap_i64]; omega
  clear h hg hlen
  go_enter Try.func18, Try.ntmps18
  go_wp2_with (first | (go_at_call 43; refine (HH.out _).mono ?_; rintro e w1 ⟨rfl, hww⟩; rw [hww]; clear hww w1))
  go_region_held3 (fun W => W.cell? ⟨g, 0, none⟩ = some (.int .i64 L.base) ∧ W.cell? ⟨g, 2, none⟩ = some (.slice A qs.length cp)) (first | exact ⟨z0, z2⟩) (fail)
  go_wp2
  go_ret
  exact ⟨rfl, (Below.refl _ _).drew⟩
set_option maxHeartbeats 1000000 in
theorem lAt_any (h : LgP S w g L v qs) {K : Nat} (hg : GoodL K L) {j : Nat} (hj : j < qs.length) : Calls Try.prog 47 #[.pointer (some ⟨g, 0, none⟩), .int .i64 (L.base + (j : Int) + 1)] w (TellL (agB qs[j].b qs[j].A qs[j].c qs[j].D qs[j].d) w) := by
  have hl := h.lt
  obtain ⟨A, cp, rfl, -, -, hx⟩ := h.open
  obtain ⟨z0, z1, z2, z3, z4⟩ := h.rowP
  obtain ⟨ad, rfl, c0, c1, c2, c3, -⟩ := hx j hj
  have hb := hg.b
  have hlen := h.len
  unfold topL at hb
  obtain ⟨hb1, hb2⟩ := hb
  have hs1 : IntKind.i64.wrap (L.base + (j : Int) + 1 - L.base) = (j : Int) + 1 := by rw [IntKind.wrap_i64]; omega
  have hs2 : IntKind.i64.wrap ((j : Int)) = (j : Int) := by rw [IntKind.wrap_i64]; omega
  have hjI : (j : Int) < (qs.length : Int) := by omega
  have hjq : j < qs.length := hj
  have hB0 := alloc1B w (.cells #[.int .i64 0, .string ⟨#[]⟩, .slice none 0 0, .slice none 0 0] 33)
  have y0 := cellB z0 hB0
  have y2 := cellB z2 hB0
  have d0 := cellB c0 hB0
  have d1 := cellB c1 hB0
  have d2 := cellB c2 hB0
  have d3 := cellB c3 hB0
  obtain ⟨x0, x1, x2, x3, x4⟩ := rows4 (heap_alloc_new w (.cells #[.int .i64 0, .string ⟨#[]⟩, .slice none 0 0, .slice none 0 0] 33))
  have HBC := Lib.hid (show Below w.heap.size w (w.alloc (.cells #[.int .i64 0, .string ⟨#[]⟩, .slice none 0 0, .slice none 0 0] 33)).drew from hB0.drew)
  clear hx h hg hB0 hlen
  generalize qs[j] = q at *
  go_enter Try.func47, Try.ntmps47
  go_upto_region 1 with fail
  go_region
  go_wp2
  have hzl : w.heap.size < (w.alloc (.cells #[.int .i64 0, .string ⟨#[]⟩, .slice none 0 0, .slice none 0 0] 33)).heap.size := by simp
  refine bodyPost_ret (v := agB q.b q.A q.c q.D q.d) (by simp [results, Try.results47, go_sem, x0, x1, x2, x3, hzl]) rfl ⟨rfl, ?_⟩
  exact (alloc1B w _).drew
abbrev agM (h : Int) (d : List UInt8) : Value := .agg #[.int .i64 h, .string (strB d)]
set_option maxHeartbeats 1000000 in
theorem lMarkAt_any (h : LgP S w g L v qs) {K : Nat} (hg : GoodL K L) (hK : K ≤ 10000000) {n : Nat} (hn : n ≤ qs.length) : Calls Try.prog 44 #[.pointer (some ⟨g, 0, none⟩), .int .i64 (L.base + (n : Int))] w (TellL (agM (L.base + (n : Int)) (atL L n)) w) := by
  have hl := h.lt
  obtain ⟨z0, z1, z2, z3, z4⟩ := h.rowP
  have hB0 := alloc1B w (.cells #[.int .i64 0, .string ⟨#[]⟩] 72)
  have hm0 := heap_alloc_new w (.cells #[.int .i64 0, .string ⟨#[]⟩] 72)
  have hzl : w.heap.size < (w.alloc (.cells #[.int .i64 0, .string ⟨#[]⟩] 72)).heap.size := by simp
  have y0 := cellB z0 hB0
  have y1 := cellB z1 hB0
  have HB0 := Lib.hid hB0
  have HM0 := Lib.hid hm0
  have HH := Lib.hid (fun W (hb : Below w.heap.size w W) => h.below hb)
  rcases n with _ | j
  · have e0 : L.base + ((0 : Nat) : Int) = L.base := by omega
    rw [e0, atL_nil]
    obtain ⟨x0, x1⟩ : (w.alloc (.cells #[.int .i64 0, .string ⟨#[]⟩] 72)).cell? ⟨w.heap.size, 0, none⟩ = some (.int .i64 0) ∧ (w.alloc (.cells #[.int .i64 0, .string ⟨#[]⟩] 72)).cell? ⟨w.heap.size, 1, none⟩ = some (.string ⟨#[]⟩) := ⟨rowCell hm0 0 _ rfl, rowCell hm0 1 _ rfl⟩
    clear h hg hB0 hm0 e0
    go_enter Try.func44, Try.ntmps44
    go_wp2
    refine bodyPost_ret (v := agM L.base L.dig) (by simp [results, Try.results44, go_sem, x0, x1, hzl]) rfl ⟨rfl, ?_⟩
    exact alloc1B w _
  · have hj : j < qs.length := hn
    obtain ⟨hj', hjb⟩ := h.at hj
    rw [show L.base + ((j + 1 : Nat) : Int) = L.base + (j : Int) + 1 by omega, atL_succ hj', ← hjb]
    have e1 : (L.base + (j : Int) + 1 == L.base) = false := by simp; omega
    obtain ⟨hq1, -, -, hq2, -⟩ := hg.q _ (List.getElem_mem hj')
    rw [← hjb] at hq1 hq2
    have HAT := Lib.hid (fun W (hb : Below w.heap.size w W) => lAt_any (h.below hb) hg hj)
    obtain ⟨A, cp, -, -, -, hx⟩ := h.open
    obtain ⟨-, -, -, -, -, -, hk⟩ := hx j hj
    have HHD := Lib.hid (fun W (hb : Below w.heap.size w W) => bHeader_any qs[j].b qs[j].A qs[j].c qs[j].D qs[j].d W (hk.below hb) hq1)
    have hrt := hq1.root
    have HDG := Lib.hid (fun W => bDigest_any qs[j].b.h qs[j].b.prev ((leavesB qs[j].b).length : Nat) (rootB qs[j].b) W (by omega) (by omega))
    rw [show digB qs[j].b.h qs[j].b.prev ((leavesB qs[j].b).length : Nat) (rootB qs[j].b) = hdrL qs[j].b from rfl] at HDG
    unfold HdP at HHD
    clear h hg hB0 hm0 hk hx hrt hq1 hq2 hjb
    generalize hdrL qs[j].b = dd at *
    generalize rootB qs[j].b = rt at *
    generalize (leavesB qs[j].b).length = nn at *
    generalize qs[j] = q at *
    go_enter Try.func44, Try.ntmps44
    go_wp2_with (first
      | (go_at_call 47; refine (HAT.out _ HB0.out).mono ?_; rintro e w1 ⟨rfl, hb1⟩; have HB1 := Lib.hid (bel2M HB0.out hb1); have HM1 := Lib.hid (heapB HM0.out hb1); clear hb1)
      | (go_at_call 73; refine (HHD.out _ HB1.out).mono ?_; rintro e w2 ⟨rfl, hb2⟩; have HB2 := Lib.hid (bel2M HB1.out hb2); have HM2 := Lib.hid (heapB HM1.out hb2); clear hb2)
      | (go_at_call 72; refine (HDG.out _).mono ?_; rintro e w3 ⟨rfl, hb3⟩; have HB3 := Lib.hid (bel2M HB2.out hb3); have HM3 := Lib.hid (heapB HM2.out hb3); clear hb3; obtain ⟨x0, x1, x4, hzl3⟩ := rows2 HM3.out))
    refine bodyPost_ret (v := agM (L.base + (j : Int) + 1) dd) (by simp [results, Try.results44, go_sem, x0, x1, hzl3]) rfl ⟨rfl, ?_⟩
    exact (HB3.out.setCell (p := ⟨w.heap.size, 0, none⟩) (Nat.le_refl _) _).setCell (p := ⟨w.heap.size, 1, none⟩) (Nat.le_refl _) _
set_option maxHeartbeats 1000000 in
theorem lHead_any (h : LgP S w g L v qs) {K : Nat} (hg : GoodL K L) (hK : K ≤ 10000000) : Calls Try.prog 19 #[.pointer (some ⟨g, 0, none⟩)] w (TellL (.string (strB (headL L))) w) := by
  have hlen := h.len
  have HH := Lib.hid (fun W => has_any g W)
  have HHT := Lib.hid (lHeight_any h hg)
  have HMA := Lib.hid (fun W (hb : Below w.heap.size w W) => lMarkAt_any (h.below hb) hg hK (Nat.le_refl qs.length))
  rw [hlen] at HMA
  rw [show L.base + (L.bl.length : Int) = topL L from rfl, show atL L L.bl.length = headL L from rfl] at HMA
  clear h hg hlen
  have hfd := fun (w : World) => show (Instr.field 72 (agM (topL L) (headL L)) 1).run Try.prog w = .ok (.string (strB (headL L))) w by kernel_rfl
  generalize topL L = tp at *
  generalize headL L = hd at *
  go_enter Try.func19, Try.ntmps19
  go_wp2_with (first
    | (go_at_call 43; refine (HH.out _).mono ?_; rintro e w1 ⟨rfl, hww⟩; rw [hww]; clear hww w1)
    | (go_at_call 18; refine HHT.out.mono ?_; rintro e w1 ⟨rfl, hb1⟩; have HB1 := Lib.hid hb1; clear hb1)
    | (go_at_call 44; refine (HMA.out _ HB1.out).mono ?_; rintro e w2 ⟨rfl, hb2⟩; have HB2 := Lib.hid (bel2M HB1.out hb2); clear hb2))
  go_ret
  exact ⟨rfl, HB2.out⟩
set_option maxHeartbeats 1000000 in
theorem lBase_any (h : LgP S w g L v qs) : Calls Try.prog 22 #[.pointer (some ⟨g, 0, none⟩)] w (TellL (.tuple #[.int .i64 L.base, .string (strB L.dig)]) w) := by
  obtain ⟨z0, z1, z2, z3, z4⟩ := h.rowP
  have HH := Lib.hid (fun W => has_any g W)
  clear h
  go_enter Try.func22, Try.ntmps22
  go_wp2_with (first
    | (go_at_call 43; refine (HH.out _).mono ?_; rintro e w1 ⟨rfl, hww⟩; rw [hww]; clear hww w1))
  go_region_held3 (fun W => W.cell? ⟨g, 0, none⟩ = some (.int .i64 L.base) ∧ W.cell? ⟨g, 1, none⟩ = some (.string (strB L.dig))) (first | exact ⟨z0, z1⟩) (fail)
  go_wp2
  exact bodyPost_ret (v := .tuple #[.int .i64 L.base, .string (strB L.dig)]) (by simp [results, Try.results22, go_sem]) rfl ⟨rfl, (Below.refl _ _).drew⟩
end

section
variable {S : Nat → Prop} {w : World} {g : Nat} {L : Ldg} {v : Value} {qs : List KB}
end

def BlT (b : Blk) (e : Int) (w : World) (x : Ending) (w' : World) : Prop := ∃ A c D d, x = .returned (.tuple #[agB b A c D d, .int .i64 e]) ∧ BlkK w' b A c D d ∧ Below w.heap.size w w'
theorem blk0_k (w : World) : BlkK w blk0 none 0 none 0 := ⟨RowM.none _ _ _, RowM.none _ _ _⟩
theorem blkE_zero {L : Ldg} {x : Int} (h : blkE L x = 0) : ∃ (j : Nat) (hj : j < L.bl.length), x = L.base + (j : Int) + 1 ∧ blkL L x = L.bl[j] := by
  have h' := h
  unfold blkE at h'
  by_cases hx : x ≤ L.base ∨ topL L < x
  · rw [if_pos hx] at h'; exact absurd h' (by decide)
  unfold topL at hx
  have hj : (x - L.base - 1).toNat < L.bl.length := by omega
  refine ⟨(x - L.base - 1).toNat, hj, by omega, ?_⟩
  unfold blkL
  rw [if_pos h, List.getElem?_eq_getElem hj]
  rfl
theorem blkE_one {L : Ldg} {x : Int} (h : x ≤ L.base ∨ topL L < x) : blkE L x = 4 ∧ blkL L x = blk0 := by
  have h1 : blkE L x = 4 := if_pos h
  refine ⟨h1, ?_⟩
  unfold blkL
  rw [h1, if_neg (by decide)]
section
variable {S : Nat → Prop} {w : World} {g : Nat} {L : Ldg} {v : Value} {qs : List KB}
set_option maxHeartbeats 1000000 in
theorem lBlock_any (h : LgP S w g L v qs) {K : Nat} (hg : GoodL K L) (x : Int) : Calls Try.prog 24 #[.pointer (some ⟨g, 0, none⟩), .int .i64 x] w (BlT (blkL L x) (blkE L x) w) := by
  obtain ⟨z0, z1, z2, z3, z4⟩ := h.rowP
  have hl := h.lt
  have HH := Lib.hid (fun W => has_any g W)
  have HHT := Lib.hid (fun W (hb : Below w.heap.size w W) => lHeight_any (h.below hb) hg)
  have hB0 := alloc1B w (.cells #[.int .i64 0, .string ⟨#[]⟩, .slice none 0 0, .slice none 0 0] 33)
  have hx0 := heap_alloc_new w (.cells #[.int .i64 0, .string ⟨#[]⟩, .slice none 0 0, .slice none 0 0] 33)
  have y0 := cellB z0 hB0
  obtain ⟨x0, x1, x2, x3, x4⟩ := rows4 hx0
  have HX0 := Lib.hid hx0
  have HB0 := Lib.hid hB0
  by_cases h1 : x ≤ L.base
  · obtain ⟨e1, e2⟩ := blkE_one (.inl h1)
    rw [e1, e2]
    have hzl := (Array.getElem?_eq_some_iff.1 hx0).1
    clear h hg hB0 hx0 e1 e2
    go_enter Try.func24, Try.ntmps24
    go_wp2_with (first | (go_at_call 43; refine (HH.out _).mono ?_; rintro e w1 ⟨rfl, hww⟩; rw [hww]; clear hww w1))
    refine bodyPost_ret (v := .tuple #[agB blk0 none 0 none 0, .int .i64 4]) (by simp [results, Try.results24, go_sem, x0, x1, x2, x3, hzl]; exact ⟨rfl, rfl, rfl, rfl⟩) rfl ⟨none, 0, none, 0, rfl, blk0_k _, ?_⟩
    exact alloc1B w _
  by_cases h2 : topL L < x
  · obtain ⟨e1, e2⟩ := blkE_one (.inr h2)
    rw [e1, e2]
    have h1I : ¬ x ≤ L.base := h1
    clear h hg hB0 hx0 e1 e2 x0 x1 x2 x3 x4
    generalize topL L = tp at *
    go_enter Try.func24, Try.ntmps24
    go_wp2_with (first
      | (go_at_call 43; refine (HH.out _).mono ?_; rintro e w1 ⟨rfl, hww⟩; rw [hww]; clear hww w1)
      | (go_at_call 18; refine (HHT.out _ HB0.out).mono ?_; rintro e w1 ⟨rfl, hb1⟩; have HB1 := Lib.hid (bel2M HB0.out hb1); have HX1 := Lib.hid (heapB HX0.out hb1); clear hb1; obtain ⟨x0, x1, x2, x3, x4⟩ := rows4 HX1.out))
    have hzl := (Array.getElem?_eq_some_iff.1 HX1.out).1
    refine bodyPost_ret (v := .tuple #[agB blk0 none 0 none 0, .int .i64 4]) (by simp [results, Try.results24, go_sem, x0, x1, x2, x3, hzl]; exact ⟨rfl, rfl, rfl, rfl⟩) rfl ⟨none, 0, none, 0, rfl, blk0_k _, ?_⟩
    exact (((HB1.out.setCell (p := ⟨w.heap.size, 0, none⟩) (Nat.le_refl _) _).setCell (p := ⟨w.heap.size, 1, none⟩) (Nat.le_refl _) _).setCell (p := ⟨w.heap.size, 2, none⟩) (Nat.le_refl _) _).setCell (p := ⟨w.heap.size, 3, none⟩) (Nat.le_refl _) _
  have h0 : blkE L x = 0 := if_neg (by omega)
  obtain ⟨j, hj', rfl, hbj⟩ := blkE_zero h0
  have hj : j < qs.length := by rw [h.len]; exact hj'
  obtain ⟨_, hjb⟩ := h.at hj
  rw [h0, hbj, ← hjb]
  obtain ⟨hq1, -, -, hq2, -⟩ := hg.q _ (List.getElem_mem hj')
  rw [← hjb] at hq1
  have HAT := Lib.hid (fun W (hb : Below w.heap.size w W) => lAt_any (h.below hb) hg hj)
  obtain ⟨A, cp, -, -, -, hx⟩ := h.open
  obtain ⟨-, -, -, -, -, -, hk⟩ := hx j hj
  have HCL := Lib.hid (fun W (hb : Below w.heap.size w W) => cloneB_any qs[j].b qs[j].A qs[j].c qs[j].D qs[j].d W (hk.below hb) hq1)
  have h1I : ¬ (L.base + (j : Int) + 1) ≤ L.base := h1
  clear h hg hB0 hx0 x0 x1 x2 x3 x4 hk hx hq1 hq2 hbj h0 hjb
  generalize topL L = tp at *
  generalize qs[j] = q at *
  go_enter Try.func24, Try.ntmps24
  go_wp2_with (first
    | (go_at_call 43; refine (HH.out _).mono ?_; rintro e w1 ⟨rfl, hww⟩; rw [hww]; clear hww w1)
    | (go_at_call 18; refine (HHT.out _ HB0.out).mono ?_; rintro e w1 ⟨rfl, hb1⟩; have HB1 := Lib.hid (bel2M HB0.out hb1); have HX1 := Lib.hid (heapB HX0.out hb1); clear hb1)
    | (go_at_call 47; refine (HAT.out _ HB1.out).mono ?_; rintro e w2 ⟨rfl, hb2⟩; have HB2 := Lib.hid (bel2M HB1.out hb2); have HX2 := Lib.hid (heapB HX1.out hb2); clear hb2)
    | (go_at_call 42; refine (HCL.out _ HB2.out).mono ?_; rintro e w3 ⟨A3, c3, D3, d3, rfl, hk3, hb3⟩; have HB3 := Lib.hid (bel2M HB2.out hb3); have HX3 := Lib.hid (heapB HX2.out hb3); have HK3 := Lib.hid hk3; have HZ := Lib.hid (Array.getElem?_eq_some_iff.1 HX2.out).1; clear hb3 hk3; obtain ⟨x0, x1, x2, x3, x4⟩ := rows4 HX3.out))
  have hzl := (Array.getElem?_eq_some_iff.1 HX3.out).1
  have hz2 := HZ.out
  refine bodyPost_ret (v := .tuple #[agB q.b A3 c3 D3 d3, .int .i64 0]) (by simp [results, Try.results24, go_sem, x0, x1, x2, x3, hzl]) rfl ⟨A3, c3, D3, d3, rfl, ?_, ?_⟩
  · refine (HK3.out.keep (C' := fun _ => True) (by simp) fun i _ hi => ⟨?_, trivial⟩).k
    have hi' : w2.heap.size ≤ i := hi
    have hne : i ≠ w.heap.size := by omega
    rw [Go.Deep.blk_setCell_other _ _ _ _ hne, Go.Deep.blk_setCell_other _ _ _ _ hne, Go.Deep.blk_setCell_other _ _ _ _ hne, Go.Deep.blk_setCell_other _ _ _ _ hne]
  · exact (((HB3.out.setCell (p := ⟨w.heap.size, 0, none⟩) (Nat.le_refl _) _).setCell (p := ⟨w.heap.size, 1, none⟩) (Nat.le_refl _) _).setCell (p := ⟨w.heap.size, 2, none⟩) (Nat.le_refl _) _).setCell (p := ⟨w.heap.size, 3, none⟩) (Nat.le_refl _) _
end

def firstL : List UInt8 := encT 6 []
theorem firstL_len : firstL.length ≤ 100 := by
  unfold firstL
  rw [encT_length]
  simp [partsB]
def L0 : Ldg := ⟨0, firstL, []⟩
theorem L0_good : GoodL 5000 L0 := ⟨⟨by decide, by decide⟩, by simp [L0], by have := firstL_len; show firstL.length ≤ 5000; omega, fun x hx => absurd hx (by simp [L0])⟩
theorem LgR.fresh {cs : Ldg → Value → Array Value} {t : TypeId} {S : Nat → Prop} {w : World} {g : Nat} {L : Ldg} (h : w.heap[g]? = some (.cells (cs L (.slice none 0 0)) t (0, 0))) (hl : L.bl = []) (hS : S g) : LgR cs t S w g L (.slice none 0 0) [] :=
  ⟨by rw [hl]; rfl, h, World.ownsRow_nil _ _ _ _, fun q hq => absurd hq (by simp), hS, fun k hk => by cases hk⟩
def NwP (L : Ldg) (w : World) (e : Ending) (w' : World) : Prop := ∃ g, e = .returned (.pointer (some ⟨g, 0, none⟩)) ∧ LgP (fun k => w.heap.size ≤ k) w' g L (.slice none 0 0) [] ∧ Below w.heap.size w w'
theorem fromMark_any (h : Int) (d : List UInt8) (w : World) : Calls Try.prog 33 #[agM h d] w (NwP ⟨h, d, []⟩ w) := by
  have hb1 := alloc1B w (.cells #[.int .i64 h, .string (strB d)] 72)
  have hz1 : (w.alloc (.cells #[.int .i64 h, .string (strB d)] 72)).heap.size = w.heap.size + 1 := World.size_alloc _ _
  obtain ⟨x0, x1, -, -⟩ := rows2 (heap_alloc_new w (.cells #[.int .i64 h, .string (strB d)] 72))
  have hn := heap_alloc_new (w.alloc (.cells #[.int .i64 h, .string (strB d)] 72)) (.cells #[.int .i64 h, .string (strB d), .slice none 0 0, .bool true] 77)
  have hb2 := alloc1B (w.alloc (.cells #[.int .i64 h, .string (strB d)] 72)) (.cells #[.int .i64 h, .string (strB d), .slice none 0 0, .bool true] 77)
  have HN := Lib.hid hn
  have HB := Lib.hid (bel2M hb1 hb2)
  clear hn hb1 hb2
  go_enter Try.func33, Try.ntmps33
  go_wp2
  go_ret
  rw [hz1] at HN
  exact ⟨_, rfl, LgR.fresh (cs := csLP) (L := ⟨h, d, []⟩) HN.out rfl (Nat.le_succ _), HB.out⟩
theorem mayBe_any (h : Int) (w : World) : Calls Try.prog 41 #[.int .i64 h] w (Says (.bool (decide (0 ≤ h ∧ h ≤ 1099511627776))) w) := by
  by_cases h1 : 0 ≤ h
  · by_cases h2 : h ≤ 1099511627776
    · rw [decide_eq_true (And.intro h1 h2)]
      go_enter Try.func41, Try.ntmps41
      go_wp2
      go_ret
      exact ⟨rfl, rfl⟩
    · rw [decide_eq_false (fun h => h2 h.2)]
      go_enter Try.func41, Try.ntmps41
      go_wp2
      go_ret
      exact ⟨rfl, rfl⟩
  · rw [decide_eq_false (fun h => h1 h.1)]
    go_enter Try.func41, Try.ntmps41
    go_wp2
    go_ret
    exact ⟨rfl, rfl⟩
theorem lNew_any (w : World) : Calls Try.prog 10 #[] w (NwP L0 w) := by
  have HM := Lib.hid (fun W => fromMark_any 0 firstL W)
  have HO := Lib.hid (Of_any 6 (.slice none 0 0) [] w (Bss.nil _) (by simp) (by simp) (by have := firstL_len; unfold firstL at this; omega))
  rw [show encT 6 [] = firstL from rfl] at HO
  unfold L0
  generalize firstL = fl at *
  go_enter Try.func10, Try.ntmps10
  go_wp2_with (first
    | (go_at_call 34; refine HO.out.mono ?_; rintro e w1 ⟨rfl, hb1⟩; have HB1 := Lib.hid hb1; clear hb1)
    | (go_at_call 33; refine (HM.out _).mono ?_; rintro e w2 ⟨g, rfl, hg, hb2⟩; have HB2 := Lib.hid (bel2M HB1.out hb2); have HG := Lib.hid (LgR.mono hg (S' := fun k => w.heap.size ≤ k) (fun k _ hk => Nat.le_trans HB1.out.size hk)); clear hb2 hg))
  go_ret
  exact ⟨g, rfl, HG.out, HB2.out⟩
theorem rFirst_any (w : World) : Calls Try.prog 35 #[] w (Tells firstL w) := by
  have HO := Lib.hid (rOf_any 6 (.slice none 0 0) [] w (Bss.nil _) (by simp) (by simp) (by have := firstL_len; unfold firstL at this; omega))
  rw [show encT 6 [] = firstL from rfl] at HO
  generalize firstL = fl at *
  go_enter Try.func35, Try.ntmps35
  go_wp2_with (first
    | (go_at_call 65; refine HO.out.mono ?_; rintro e w1 ⟨rfl, hb1⟩; have HB1 := Lib.hid hb1; clear hb1))
  go_ret
  exact ⟨rfl, HB1.out⟩

theorem kbC_one (l : List KB) : ∀ u ∈ l.flatMap kbC, u.oneCell' = true := fun u hu => by
  obtain ⟨q, -, hq⟩ := List.mem_flatMap.1 hu
  simp only [kbC, List.mem_cons, List.not_mem_nil, or_false] at hq
  rcases hq with rfl | rfl | rfl | rfl <;> rfl
theorem kbC_one1 (q : KB) : ∀ u ∈ kbC q, u.oneCell' = true := fun u hu => kbC_one [q] u (by simpa using hu)
theorem built4 {w : World} {H : Nat} {q : KB} {t : TypeId} (h : w.heap[H]? = some (.cells #[.int .i64 q.b.h, .string (strB q.b.prev), .slice q.A q.b.reqs.length q.c, .slice q.D q.b.ress.length q.d] t (0, 0))) : RowMs w 4 (.slice (some ⟨H, 0, none⟩) 1 1) 1 (kbC q) := by
  refine ⟨some ⟨H, 0, none⟩, 1, rfl, rfl, fun h => (by cases h), fun a ha j u hj => ?_⟩
  injection ha with ha
  subst ha
  rw [Addr.add_lit, Nat.zero_add]
  match j, hj with
  | 0, hj => injection hj with hj; subst hj; exact rowCell h 0 _ rfl
  | 1, hj => injection hj with hj; subst hj; exact rowCell h 1 _ rfl
  | 2, hj => injection hj with hj; subst hj; exact rowCell h 2 _ rfl
  | 3, hj => injection hj with hj; subst hj; exact rowCell h 3 _ rfl
section
variable {cs : Ldg → Value → Array Value} {t : TypeId} {S : Nat → Prop} {g : Nat} {L : Ldg} {v : Value} {qs : List KB}
theorem set_cells {w : World} {g i : Nat} {cur : Array Value} {t : TypeId} {u : Value} (h : w.heap[g]? = some (.cells cur t (0, 0))) : (w.setCell ⟨g, i, none⟩ u).heap[g]? = some (.cells (cur.setIfInBounds i u) t (0, 0)) := heap_setCell_same w g i cur t u h
theorem LgR.push {w W2 w4 : World} {L' : Ldg} {v4 : Value} {q : KB} {i : Nat} (h : LgR cs t (fun k => k < w.heap.size ∧ S k) W2 g L v qs) (hS : ∀ k, w.heap.size ≤ k → S k) (hz : w.heap.size ≤ W2.heap.size) (hq : BlkC (fun k => w.heap.size ≤ k) W2 q.b q.A q.c q.D q.d)
    (hown : w4.ownsRow 0 33 4 v4 (qs.length + 1) (qs.flatMap kbC ++ kbC q)) (hgr : W2.grownBy w4 v.ownBlock) (hr : v4.ownBlock = v.ownBlock ∨ v4.ownBlock = some W2.heap.size)
    (hcs : (cs L v).setIfInBounds i v4 = cs L' v4) (hbl : L'.bl = L.bl ++ [q.b]) : LgR cs t S (w4.setCell ⟨g, i, none⟩ v4) g L' v4 (qs ++ [q]) := by
  have hgl := h.at_g.1
  have hgv : v.ownBlock ≠ some g := fun e => (h.at_v g e).2 rfl
  have hg4 : w4.heap[g]? = W2.heap[g]? := hgr.block g h.lt (fun e => hgv e.symm)
  have hset : ∀ k, k ≠ g → (w4.setCell ⟨g, i, none⟩ v4).heap[k]? = w4.heap[k]? := fun k hk => Go.Deep.blk_setCell_other _ _ _ _ hk
  have hv4 : ∀ k, v4.ownBlock = some k → S k ∧ k ≠ g := fun k hk => by
    rcases hr with hr | hr
    · rw [hr] at hk
      exact ⟨(h.at_v k hk).1.2, (h.at_v k hk).2⟩
    · rw [hk] at hr
      injection hr with hr
      exact ⟨hS k (by omega), by omega⟩
  have hsz : W2.heap.size ≤ (w4.setCell ⟨g, i, none⟩ v4).heap.size := by have := hgr.size; simpa using this
  refine ⟨by rw [List.map_append, h.bl, hbl]; rfl, ?_, ?_, fun p hp => ?_, h.at_g.2, hv4⟩
  · rw [set_cells (hg4.trans h.head), hcs]
  · rw [List.length_append, List.length_singleton, List.flatMap_append, List.flatMap_cons, List.flatMap_nil, List.append_nil]
    exact own_keep hown fun k hk => hset k (hv4 k hk).2
  · rcases List.mem_append.1 hp with hp | hp
    · refine (h.blk p hp).keep hsz fun k hk hc => ⟨(hset k hc.2.1).trans (hgr.block k hk (fun e => hc.2.2 e.symm)), hc.1.2, hc.2.1, fun e => ?_⟩
      rcases hr with hr | hr
      · exact hc.2.2 (hr ▸ e)
      · rw [e] at hr
        injection hr with hr
        omega
    · rw [List.mem_singleton.1 hp]
      refine hq.keep hsz fun k hk hc => ?_
      have hkg : k ≠ g := by omega
      have hkv : v.ownBlock ≠ some k := fun e => by have := (h.at_v k e).1.1; omega
      refine ⟨(hset k hkg).trans (hgr.block k hk (fun e => hkv e.symm)), hS k hc, hkg, fun e => ?_⟩
      rcases hr with hr | hr
      · exact hkv (hr ▸ e)
      · rw [e] at hr
        injection hr with hr
        omega
def cutA (A : Option Addr) (c k : Nat) : Option Addr := if c = k then A else A.map (·.add (k * 4))
theorem run_cutB (A : Option Addr) (n c k : Nat) (hk : k ≤ n) (w : World) : (Instr.slice 52 (.slice A n c) (some (.int .i64 (k : Int))) none none).run Try.prog w = .ok (.slice (cutA A c k) (n - k) (c - k)) w := by
  have hz : (sizeOf (Try.prog.elem 52)).run Try.prog w = .ok 4 w := by rfl
  rw [run_slice_l (P := Try.prog) w 52 A n c Try.underlying52 .i64 (k : Int) (by omega) (by omega), hz]
  simp only [Result.andThen, sliced, Int.toNat_natCast]
  rfl
theorem flat_drop : ∀ (l : List KB) (k : Nat), (l.drop k).flatMap kbC = (l.flatMap kbC).drop (k * 4)
  | l, 0 => by simp
  | [], k + 1 => by simp
  | q :: l, k + 1 => by
    rw [List.drop_succ_cons, flat_drop l k, List.flatMap_cons, List.drop_append, show (kbC q).drop ((k + 1) * 4) = [] from List.drop_eq_nil_of_le (show 4 ≤ (k + 1) * 4 by omega), List.nil_append]
    congr 1
    show k * 4 = (k + 1) * 4 - 4
    omega
theorem own_cut {w : World} {B : Nat} {t : TypeId} {A : Option Addr} {n c : Nat} (h : w.ownsRow B t 4 (.slice A n c) n (qs.flatMap kbC)) (hn : n = qs.length) {k : Nat} (hk : k ≤ n) : RowMs w 4 (.slice (cutA A c k) (n - k) (c - k)) (n - k) ((qs.drop k).flatMap kbC) := by
  have hl : ((qs.drop k).flatMap kbC).length = (n - k) * 4 := by rw [flatM_len kbC 4 (fun _ => rfl), List.length_drop, hn]
  refine ⟨cutA A c k, c - k, rfl, hl, fun ha => ?_, fun a ha j u hj => ?_⟩
  · unfold cutA at ha
    rcases h.2 with ⟨e, h0⟩ | ⟨g, cap, cur, e, -, -, hc, -⟩
    · injection e with e1 e2 e3
      omega
    · injection e with e1 e2 e3
      subst e1 e3
      by_cases hck : c = k
      · rw [if_pos hck] at ha; cases ha
      · rw [if_neg hck] at ha; cases ha
  · have hjl : j < (n - k) * 4 := by
      have := (List.getElem?_eq_some_iff.1 hj).1
      rwa [hl] at this
    rcases h.2 with ⟨e, h0⟩ | ⟨g, cap, cur, e, -, -, hc, -⟩
    · injection e with e1 e2 e3
      omega
    · injection e with e1 e2 e3
      subst e1 e3
      have hck : ¬ c = k := by omega
      unfold cutA at ha
      rw [if_neg hck] at ha
      injection ha with ha
      subst ha
      rw [flat_drop, List.getElem?_drop] at hj
      rw [Addr.add_add]
      exact h.cells rfl _ _ hj
theorem LgR.cutoff {w W5 : World} {L' : Ldg} {v5 : Value} {k : Nat} (h : LgR cs t (fun i => i < w.heap.size ∧ S i) w g L v qs) (hS : ∀ i, w.heap.size ≤ i → S i) (hz : w.heap.size ≤ W5.heap.size)
    (hk : ∀ i, i < w.heap.size → i ≠ g → W5.heap[i]? = w.heap[i]?) (hown : W5.ownsRow w.heap.size 33 4 v5 (qs.drop k).length ((qs.drop k).flatMap kbC)) (hhead : W5.heap[g]? = some (.cells (cs L' v5) t (0, 0))) (hbl : L'.bl = L.bl.drop k) : LgR cs t S W5 g L' v5 (qs.drop k) := by
  have hgl := h.at_g.1
  refine ⟨by rw [List.map_drop, h.bl, hbl], hhead, own_leL hown (Nat.zero_le _), fun p hp => ?_, h.at_g.2, fun i hi => ?_⟩
  · refine (h.blk p (List.mem_of_mem_drop hp)).keep hz fun i hi hc => ⟨hk i hi hc.2.1, hc.1.2, hc.2.1, fun e => ?_⟩
    have := (hown.lt i e).1
    omega
  · have := (hown.lt i hi).1
    exact ⟨hS i this, by omega⟩
end
def ApP (x : Int) (L : Ldg) (g : Nat) (S : Nat → Prop) (w : World) (e : Ending) (w' : World) : Prop := ∃ v qs, e = .returned (.int .i64 x) ∧ LgP S w' g L v qs ∧ Off S w w'

set_option maxHeartbeats 4000000 in
theorem lAppend_any {S : Nat → Prop} {w : World} {g : Nat} {L : Ldg} {v : Value} {qs : List KB} (h : LgP S w g L v qs) {K : Nat} (hg : GoodL K L) (hK : K ≤ 10000000) (b : Blk) (A : Option Addr) (c : Nat) (D : Option Addr) (d : Nat) (hb : BlkK w b A c D d) (hf : FewQ b) (hS : ∀ k, w.heap.size ≤ k → S k) : Calls Try.prog 21 #[.pointer (some ⟨g, 0, none⟩), agB b A c D d] w (ApP (appE L b) (appL L b) g S w) := by
  have hx0 := heap_alloc_new w (.cells #[.int .i64 b.h, .string (strB b.prev), .slice A b.reqs.length c, .slice D b.ress.length d] 33)
  have hB0 := alloc1B w (.cells #[.int .i64 b.h, .string (strB b.prev), .slice A b.reqs.length c, .slice D b.ress.length d] 33)
  have HH := Lib.hid (fun W => has_any g W)
  have HCK := Lib.hid (fun W => bCheck_any b A c D d W (by have := hf.q; unfold maxLen; omega) (by have := hf.r; unfold maxLen; omega))
  have h' := h.mono (S' := fun k => k < w.heap.size ∧ S k) (fun k hk hs => ⟨hk, hs⟩)
  have HL := Lib.hid (fun W (hb : Below w.heap.size w W) => h'.below hb)
  have HS := Lib.hid hS
  have HG := Lib.hid hg
  have HB := Lib.hid (fun W (h : Below w.heap.size w W) => cloneB_any b A c D d W (hb.below h) hf)
  have hbnd := hg.b
  have hlen := h.len
  have hn1 := hg.n
  generalize hw0 : (w.alloc (.cells #[.int .i64 b.h, .string (strB b.prev), .slice A b.reqs.length c, .slice D b.ress.length d] 33)) = w0 at *
  have HW0 := Lib.hid hw0
  have HX0 := Lib.hid hx0
  have HB0 := Lib.hid hB0
  have hfin : ∀ x W, Below w0.heap.size w0 W → ApP x L g S w (.returned (.int .i64 x)) W := fun x W hbl => ⟨v, qs, rfl, (HL.out W (bel2M HB0.out hbl)).mono (fun k _ hk => hk.2), Off.of_below (bel2M HB0.out hbl)⟩
  have HFIN := Lib.hid hfin
  obtain ⟨x0, x1, x2, x3, x4⟩ := rows4 hx0
  obtain ⟨z0, z1, z2, z3, z4⟩ := (HL.out w0 hB0).rowP
  have HGL := Lib.hid h.lt
  clear h h' hg hb hf hS hx0 hB0 hfin hw0
  by_cases hc : checkB b ≠ 0
  · have e1 : appE L b = checkB b := if_pos hc
    rw [appL_no (by rw [e1]; exact hc), e1]
    have hn : (checkB b != 0) = true := by simpa using hc
    clear hc e1
    generalize checkB b = xb at *
    go_enter Try.func21, Try.ntmps21
    go_upto_region 1 with fail
    rw [HW0.out]
    go_wp2_with (first
    | (go_at_call 43; refine (HH.out _).mono ?_; rintro e w1 ⟨rfl, hww⟩; rw [hww]; clear hww w1)
      | (go_at_call 46; refine (HCK.out _).mono ?_; rintro e w1 ⟨rfl, hb1⟩; have HB1 := Lib.hid hb1; clear hb1))
    go_ret
    exact HFIN.out _ _ HB1.out
  have hc0 : checkB b = 0 := Classical.not_not.1 hc
  rw [hc0] at HCK
  have hsum : IntKind.i64.wrap (topL L + 1) = topL L + 1 := by rw [IntKind.wrap_i64]; unfold topL at hbnd ⊢; omega
  have HHT := Lib.hid (fun W (hb : Below w.heap.size w W) => lHeight_any (HL.out W hb) HG.out)
  by_cases ht : b.h ≠ topL L + 1
  · have e1 : appE L b = 100 := by unfold appE; rw [if_neg hc, if_pos ht]
    rw [appL_no (by rw [e1]; decide), e1]
    have hn : (b.h != topL L + 1) = true := by simpa using ht
    clear hc e1 ht hc0
    generalize topL L = tp at *
    go_enter Try.func21, Try.ntmps21
    go_upto_region 1 with fail
    rw [HW0.out]
    go_upto_region 6 with (first
    | (go_at_call 43; refine (HH.out _).mono ?_; rintro e w1 ⟨rfl, hww⟩; rw [hww]; clear hww w1)
      | (go_at_call 46; refine (HCK.out _).mono ?_; rintro e w1 ⟨rfl, hb1⟩; have HB1 := Lib.hid hb1; clear hb1))
    have HBC := Lib.hid (show Below w0.heap.size w0 w1.drew from HB1.out.drew)
    go_region_held3 (fun W => W.cell? ⟨w.heap.size, 0, none⟩ = some (.int .i64 b.h)) (first | exact rowCell (heapB HX0.out HBC.out) 0 _ rfl) (first
      | (go_at_call 18; refine (HHT.out _ (bel2M HB0.out HBC.out)).mono ?_; rintro e w2 ⟨rfl, hb2⟩; replace HBC := Lib.hid (bel2M HBC.out hb2); clear hb2))
    go_wp2
    go_ret
    exact HFIN.out _ _ HBC.out
  have ht0 : b.h = topL L + 1 := Classical.not_not.1 ht
  have hn0 : (b.h != topL L + 1) = false := by simp [ht0]
  have HHD := Lib.hid (fun W (hb : Below w.heap.size w W) => lHead_any (HL.out W hb) HG.out hK)
  by_cases hp : b.prev ≠ headL L
  · have e1 : appE L b = 101 := by unfold appE; rw [if_neg hc, if_neg ht, if_pos hp]
    rw [appL_no (by rw [e1]; decide), e1]
    have hst := strB_ne hp
    clear hc e1 ht hc0 ht0 hp
    generalize topL L = tp at *
    generalize headL L = hd at *
    go_enter Try.func21, Try.ntmps21
    go_upto_region 1 with fail
    rw [HW0.out]
    go_upto_region 6 with (first
    | (go_at_call 43; refine (HH.out _).mono ?_; rintro e w1 ⟨rfl, hww⟩; rw [hww]; clear hww w1)
      | (go_at_call 46; refine (HCK.out _).mono ?_; rintro e w1 ⟨rfl, hb1⟩; have HB1 := Lib.hid hb1; clear hb1))
    have HBC := Lib.hid (show Below w0.heap.size w0 w1.drew from HB1.out.drew)
    go_region_held3 (fun W => W.cell? ⟨w.heap.size, 0, none⟩ = some (.int .i64 b.h)) (first | exact rowCell (heapB HX0.out HBC.out) 0 _ rfl) (first
      | (go_at_call 18; refine (HHT.out _ (bel2M HB0.out HBC.out)).mono ?_; rintro e w2 ⟨rfl, hb2⟩; replace HBC := Lib.hid (bel2M HBC.out hb2); clear hb2))
    go_upto_region 8 with fail
    replace HBC := Lib.hid HBC.out.drew
    go_region_held3 (fun W => W.cell? ⟨w.heap.size, 1, none⟩ = some (.string (strB b.prev))) (first | exact rowCell (heapB HX0.out HBC.out) 1 _ rfl) (first
      | (go_at_call 19; refine (HHD.out _ (bel2M HB0.out HBC.out)).mono ?_; rintro e w3 ⟨rfl, hb3⟩; replace HBC := Lib.hid (bel2M HBC.out hb3); clear hb3))
    go_wp2
    go_ret
    exact HFIN.out _ _ HBC.out
  have hp0 : b.prev = headL L := Classical.not_not.1 hp
  have e1 : appE L b = 0 := by unfold appE; rw [if_neg hc, if_neg ht, if_neg hp]
  rw [appL_yes e1, e1]
  rw [← hp0] at HHD
  obtain ⟨i1, hj, hy0, hy1, hy2⟩ := info_parts infoBk
  obtain ⟨AV, cV, rfl⟩ := own_slice (HL.out w0 HB0.out).row
  have hq1000 : qs.length ≤ 1000000 := by omega
  clear hc e1 ht hc0 ht0 hp hp0 hbnd hlen hn1
  generalize topL L = tp at *
  go_enter Try.func21, Try.ntmps21
  go_upto_region 1 with fail
  rw [HW0.out]
  go_upto_region 6 with (first
    | (go_at_call 43; refine (HH.out _).mono ?_; rintro e w1 ⟨rfl, hww⟩; rw [hww]; clear hww w1)
    | (go_at_call 46; refine (HCK.out _).mono ?_; rintro e w1 ⟨rfl, hb1⟩; have HB1 := Lib.hid hb1; clear hb1))
  have HBC := Lib.hid (show Below w0.heap.size w0 w1.drew from HB1.out.drew)
  go_region_held3 (fun W => W.cell? ⟨w.heap.size, 0, none⟩ = some (.int .i64 b.h)) (first | exact rowCell (heapB HX0.out HBC.out) 0 _ rfl) (first
    | (go_at_call 18; refine (HHT.out _ (bel2M HB0.out HBC.out)).mono ?_; rintro e w2 ⟨rfl, hb2⟩; replace HBC := Lib.hid (bel2M HBC.out hb2); clear hb2))
  go_upto_region 8 with fail
  replace HBC := Lib.hid HBC.out.drew
  go_region_held3 (fun W => W.cell? ⟨w.heap.size, 1, none⟩ = some (.string (strB b.prev))) (first | exact rowCell (heapB HX0.out HBC.out) 1 _ rfl) (first
    | (go_at_call 19; refine (HHD.out _ (bel2M HB0.out HBC.out)).mono ?_; rintro e w3 ⟨rfl, hb3⟩; replace HBC := Lib.hid (bel2M HBC.out hb3); clear hb3))
  go_upto_region 10 with fail
  clear x0 x1 x2 x3 x4 z0 z1 z2 z3 z4
  go_cut [28] from 28 to 38 (fun s wx => ∃ v' qs', s = .pointer (some ⟨g, 0, none⟩) ∧ LgP S wx g ⟨L.base, L.dig, L.bl ++ [b]⟩ v' qs' ∧ Off S w wx)
  case first =>
    replace HBC := Lib.hid HBC.out.drew
    have HDR := Lib.hid (show Below w3.heap.size w3 w3.drew from (Below.refl _ _).drew)
    have HKS := Lib.hid (show ∀ W, Below w0.heap.size w0 W → (fun W => W.cell? ⟨w.heap.size, 0, none⟩ = some (.int .i64 b.h) ∧ W.cell? ⟨w.heap.size, 1, none⟩ = some (.string (strB b.prev)) ∧ W.cell? ⟨w.heap.size, 2, none⟩ = some (.slice A b.reqs.length c) ∧ W.cell? ⟨w.heap.size, 3, none⟩ = some (.slice D b.ress.length d)) W from fun W hW => by obtain ⟨e0, e1, e2, e3, -⟩ := rows4 (heapB HX0.out hW); exact ⟨e0, e1, e2, e3⟩)
    obtain ⟨z0, z1, z2, z3, z4⟩ := (HL.out _ (bel2M HB0.out HBC.out)).rowP
    refine wp_region_held_drew (S := (fun W => W.cell? ⟨w.heap.size, 0, none⟩ = some (.int .i64 b.h) ∧ W.cell? ⟨w.heap.size, 1, none⟩ = some (.string (strB b.prev)) ∧ W.cell? ⟨w.heap.size, 2, none⟩ = some (.slice A b.reqs.length c) ∧ W.cell? ⟨w.heap.size, 3, none⟩ = some (.slice D b.ress.length d))) (by kernel_rfl) (HKS.out _ HBC.out) (fun hHeld => ?_)
    refine tk 0 ?_
    (try simp only [Act.put, sA, sB, sC])
    refine tk 1 ?_
    (try simp only [Act.put, sA, sB, sC])
    refine tk 2 ?_
    (try simp only [Act.put, sA, sB, sC])
    refine tk 3 ?_
    (try simp only [Act.put, sA, sB, sC])
    refine tk 5 ?_
    (try simp only [Act.put, sA, sB, sC])
    refine wpAnyH_ready (rs := [4, 6]) (by kernel_rfl) (by simp) ?_
    refine AllReadyH.cons (o := ?o6) ?g6 (fun K hK => ?j6) (AllReadyH.cons (o := ?o7) ?g7 (fun K hK => ?j7) AllReadyH.nil)
    case g6 => (simp only [gA, gB, gC]; rfl)
    case g7 => (simp only [gA, gB, gC]; rfl)
    ·
     go_simp
     refine hK.out _ _ ?_ (fun hHeld => ?_)
     · (try dsimp only); exact HKS.out _ HBC.out
     clear hK K
     (try simp only [Act.put, sA, sB, sC])
     refine wpAnyH_ready (rs := [6]) (by kernel_rfl) (by simp) ?_
     refine AllReadyH.cons (o := ?o8) ?g8 (fun K hK => ?j8) AllReadyH.nil
     case g8 => (simp only [gA, gB, gC]; rfl)
     go_simp
     (go_at_call 42; refine (HB.out _ (bel2M HB0.out HBC.out)).mono ?_)
     rintro e w4 ⟨A4, c4, D4, d4, rfl, hk4, hb4⟩
     have HK4 := Lib.hid hk4
     have HZ4 := Lib.hid HBC.out.size
     replace HBC := Lib.hid (bel2M HBC.out hb4)
     clear hk4 hb4
     obtain ⟨z0, z1, z2, z3, z4⟩ := (HL.out _ (bel2M HB0.out HBC.out)).rowP
     have HB5 := Lib.hid (alloc1B w4 (.cells #[.int .i64 b.h, .string (strB b.prev), .slice A4 b.reqs.length c4, .slice D4 b.ress.length d4] 33))
     have HX5 := Lib.hid (heap_alloc_new w4 (.cells #[.int .i64 b.h, .string (strB b.prev), .slice A4 b.reqs.length c4, .slice D4 b.ress.length d4] 33))
     have HL5 := Lib.hid (HL.out _ (bel2M HB0.out (bel2M HBC.out HB5.out)))
     obtain ⟨k0, k1, k2, k3, k4⟩ := HL5.out.rowP
     refine hK.out _ _ ?_ (fun hHeld => ?_)
     · (try dsimp only); exact HKS.out _ HBC.out
     clear hK K
     (try simp only [Act.put, sA, sB, sC])
     refine wpAnyH_ready (rs := [7]) (by kernel_rfl) (by simp) ?_
     refine AllReadyH.cons (o := ?o9) ?g9 (fun K hK => ?j9) AllReadyH.nil
     case g9 => (simp only [gA, gB, gC]; rfl)
     go_simp
     refine hK.out _ _ ?_ (fun hHeld => ?_)
     · (try dsimp only); exact HKS.out _ (bel2M HBC.out HB5.out)
     clear hK K
     (try simp only [Act.put, sA, sB, sC])
     refine wpAnyH_ready (rs := [8]) (by kernel_rfl) (by simp) ?_
     refine AllReadyH.cons (o := ?o10) ?g10 (fun K hK => ?j10) AllReadyH.nil
     case g10 => (simp only [gA, gB, gC]; rfl)
     refine step_append_rowsM rfl (.tmp 32) (.tmp 35) 52 rfl 0 33 i1 (.agg #[.int .i64 0, .string ⟨#[]⟩, .slice none 0 0, .slice none 0 0]) 4 72 Try.underlying52 hj hy0 hy1 hy2 rfl (by decide) (.slice AV qs.length cV) qs.length (qs.flatMap kbC) rfl HL5.out.row (.slice (some ⟨w4.heap.size, 0, none⟩) 1 1) 1 (kbC ⟨b, A4, c4, D4, d4⟩) rfl (built4 (q := ⟨b, A4, c4, D4, d4⟩) HX5.out) (kbC_one1 _) (by unfold maxLen; omega) (by omega) (Nat.zero_le _) ?_
     intro v6 w6 hown6 hg6 ho6
     obtain ⟨A6, c6, rfl⟩ := own_slice hown6
     have HO6 := Lib.hid hown6
     have HG6 := Lib.hid hg6
     have HR6 := Lib.hid ho6
     have HH6 := Lib.hid ((hg6.block g HL5.out.lt (fun e => (HL5.out.at_v g e.symm).2 rfl)).trans HL5.out.head)
     have HX6 := Lib.hid ((hg6.block w.heap.size (Nat.lt_of_lt_of_le (Array.getElem?_eq_some_iff.1 HX0.out).1 (bel2M HBC.out HB5.out).size) (fun e => Nat.lt_irrefl _ (HL5.out.at_v _ e.symm).1.1)).trans (heapB HX0.out (bel2M HBC.out HB5.out)))
     clear hown6 hg6 ho6
     obtain ⟨m0, m1, m2, m3, m4⟩ := rows4 HH6.out
     refine hK.out _ _ ?_ (fun hHeld => ?_)
     · (try dsimp only); (obtain ⟨e0, e1, e2, e3, -⟩ := rows4 HX6.out; exact ⟨e0, e1, e2, e3⟩)
     clear hK K
     (try simp only [Act.put, sA, sB, sC])
     refine tk 9 ?_
     (try simp only [Act.put, sA, sB, sC])
     refine tk 10 ?_
     (try simp only [Act.put, sA, sB, sC])
     refine wpAnyH_ready (rs := [11]) (by kernel_rfl) (by simp) ?_
     refine AllReadyH.cons (o := ?o13) ?g13 (fun K hK => ?j13) AllReadyH.nil
     case g13 => (simp only [gA, gB, gC]; rfl)
     go_simp
     refine hK.out _ _ ?_ (fun hHeld => ?_)
     · (try dsimp only); (obtain ⟨e0, e1, e2, e3, -⟩ := rows4 HX6.out; exact ⟨setOtherB e0 (Nat.ne_of_gt HGL.out), setOtherB e1 (Nat.ne_of_gt HGL.out), setOtherB e2 (Nat.ne_of_gt HGL.out), setOtherB e3 (Nat.ne_of_gt HGL.out)⟩)
     clear hK K
     (try simp only [Act.put, sA, sB, sC])
     refine wpAnyH_done (by kernel_rfl) ?_ _
     go_wp2_with fail
     go_meet
     have hz0 := HB0.out.size
     have hz4 := HZ4.out
     have hz5 := HB5.out.size
     have hz6 := HBC.out.size
     refine ⟨_, _, rfl, LgR.push (w := w) HL5.out HS.out (by omega) ((HK4.out.keep hz5 (C' := fun k => w.heap.size ≤ k) fun k hk hc => ⟨HB5.out.block k hk, by have h1 : _ ≤ k := hc; omega⟩)) HO6.out HG6.out HR6.out rfl rfl, ?_⟩
     exact ((Off.of_below (bel2M HB0.out (bel2M HBC.out HB5.out))).trans (Off.of_grown HG6.out (fun k hk => (HL5.out.at_v k hk).1.2))).trans ⟨rfl, rfl, rfl, by simp, fun k hk hn => Go.Deep.blk_setCell_other _ _ _ _ (fun e => hn (by rw [e]; exact HL5.out.at_g.2))⟩
    ·
     go_simp
     (go_at_call 42; refine (HB.out _ (bel2M HB0.out HBC.out)).mono ?_)
     rintro e w4 ⟨A4, c4, D4, d4, rfl, hk4, hb4⟩
     have HK4 := Lib.hid hk4
     have HZ4 := Lib.hid HBC.out.size
     replace HBC := Lib.hid (bel2M HBC.out hb4)
     clear hk4 hb4
     obtain ⟨z0, z1, z2, z3, z4⟩ := (HL.out _ (bel2M HB0.out HBC.out)).rowP
     have HB5 := Lib.hid (alloc1B w4 (.cells #[.int .i64 b.h, .string (strB b.prev), .slice A4 b.reqs.length c4, .slice D4 b.ress.length d4] 33))
     have HX5 := Lib.hid (heap_alloc_new w4 (.cells #[.int .i64 b.h, .string (strB b.prev), .slice A4 b.reqs.length c4, .slice D4 b.ress.length d4] 33))
     have HL5 := Lib.hid (HL.out _ (bel2M HB0.out (bel2M HBC.out HB5.out)))
     obtain ⟨k0, k1, k2, k3, k4⟩ := HL5.out.rowP
     refine hK.out _ _ ?_ (fun hHeld => ?_)
     · (try dsimp only); exact HKS.out _ HBC.out
     clear hK K
     (try simp only [Act.put, sA, sB, sC])
     refine wpAnyH_ready (rs := [4, 7]) (by kernel_rfl) (by simp) ?_
     refine AllReadyH.cons (o := ?o14) ?g14 (fun K hK => ?j14) (AllReadyH.cons (o := ?o15) ?g15 (fun K hK => ?j15) AllReadyH.nil)
     case g14 => (simp only [gA, gB, gC]; rfl)
     case g15 => (simp only [gA, gB, gC]; rfl)
     ·
      go_simp
      refine hK.out _ _ ?_ (fun hHeld => ?_)
      · (try dsimp only); exact HKS.out _ HBC.out
      clear hK K
      (try simp only [Act.put, sA, sB, sC])
      refine wpAnyH_ready (rs := [7]) (by kernel_rfl) (by simp) ?_
      refine AllReadyH.cons (o := ?o16) ?g16 (fun K hK => ?j16) AllReadyH.nil
      case g16 => (simp only [gA, gB, gC]; rfl)
      go_simp
      refine hK.out _ _ ?_ (fun hHeld => ?_)
      · (try dsimp only); exact HKS.out _ (bel2M HBC.out HB5.out)
      clear hK K
      (try simp only [Act.put, sA, sB, sC])
      refine wpAnyH_ready (rs := [8]) (by kernel_rfl) (by simp) ?_
      refine AllReadyH.cons (o := ?o17) ?g17 (fun K hK => ?j17) AllReadyH.nil
      case g17 => (simp only [gA, gB, gC]; rfl)
      refine step_append_rowsM rfl (.tmp 32) (.tmp 35) 52 rfl 0 33 i1 (.agg #[.int .i64 0, .string ⟨#[]⟩, .slice none 0 0, .slice none 0 0]) 4 72 Try.underlying52 hj hy0 hy1 hy2 rfl (by decide) (.slice AV qs.length cV) qs.length (qs.flatMap kbC) rfl HL5.out.row (.slice (some ⟨w4.heap.size, 0, none⟩) 1 1) 1 (kbC ⟨b, A4, c4, D4, d4⟩) rfl (built4 (q := ⟨b, A4, c4, D4, d4⟩) HX5.out) (kbC_one1 _) (by unfold maxLen; omega) (by omega) (Nat.zero_le _) ?_
      intro v6 w6 hown6 hg6 ho6
      obtain ⟨A6, c6, rfl⟩ := own_slice hown6
      have HO6 := Lib.hid hown6
      have HG6 := Lib.hid hg6
      have HR6 := Lib.hid ho6
      have HH6 := Lib.hid ((hg6.block g HL5.out.lt (fun e => (HL5.out.at_v g e.symm).2 rfl)).trans HL5.out.head)
      have HX6 := Lib.hid ((hg6.block w.heap.size (Nat.lt_of_lt_of_le (Array.getElem?_eq_some_iff.1 HX0.out).1 (bel2M HBC.out HB5.out).size) (fun e => Nat.lt_irrefl _ (HL5.out.at_v _ e.symm).1.1)).trans (heapB HX0.out (bel2M HBC.out HB5.out)))
      clear hown6 hg6 ho6
      obtain ⟨m0, m1, m2, m3, m4⟩ := rows4 HH6.out
      refine hK.out _ _ ?_ (fun hHeld => ?_)
      · (try dsimp only); (obtain ⟨e0, e1, e2, e3, -⟩ := rows4 HX6.out; exact ⟨e0, e1, e2, e3⟩)
      clear hK K
      (try simp only [Act.put, sA, sB, sC])
      refine tk 9 ?_
      (try simp only [Act.put, sA, sB, sC])
      refine tk 10 ?_
      (try simp only [Act.put, sA, sB, sC])
      refine wpAnyH_ready (rs := [11]) (by kernel_rfl) (by simp) ?_
      refine AllReadyH.cons (o := ?o20) ?g20 (fun K hK => ?j20) AllReadyH.nil
      case g20 => (simp only [gA, gB, gC]; rfl)
      go_simp
      refine hK.out _ _ ?_ (fun hHeld => ?_)
      · (try dsimp only); (obtain ⟨e0, e1, e2, e3, -⟩ := rows4 HX6.out; exact ⟨setOtherB e0 (Nat.ne_of_gt HGL.out), setOtherB e1 (Nat.ne_of_gt HGL.out), setOtherB e2 (Nat.ne_of_gt HGL.out), setOtherB e3 (Nat.ne_of_gt HGL.out)⟩)
      clear hK K
      (try simp only [Act.put, sA, sB, sC])
      refine wpAnyH_done (by kernel_rfl) ?_ _
      go_wp2_with fail
      go_meet
      have hz0 := HB0.out.size
      have hz4 := HZ4.out
      have hz5 := HB5.out.size
      have hz6 := HBC.out.size
      refine ⟨_, _, rfl, LgR.push (w := w) HL5.out HS.out (by omega) ((HK4.out.keep hz5 (C' := fun k => w.heap.size ≤ k) fun k hk hc => ⟨HB5.out.block k hk, by have h1 : _ ≤ k := hc; omega⟩)) HO6.out HG6.out HR6.out rfl rfl, ?_⟩
      exact ((Off.of_below (bel2M HB0.out (bel2M HBC.out HB5.out))).trans (Off.of_grown HG6.out (fun k hk => (HL5.out.at_v k hk).1.2))).trans ⟨rfl, rfl, rfl, by simp, fun k hk hn => Go.Deep.blk_setCell_other _ _ _ _ (fun e => hn (by rw [e]; exact HL5.out.at_g.2))⟩
     ·
      go_simp
      refine hK.out _ _ ?_ (fun hHeld => ?_)
      · (try dsimp only); exact HKS.out _ (bel2M HBC.out HB5.out)
      clear hK K
      (try simp only [Act.put, sA, sB, sC])
      refine wpAnyH_ready (rs := [4]) (by kernel_rfl) (by simp) ?_
      refine AllReadyH.cons (o := ?o21) ?g21 (fun K hK => ?j21) AllReadyH.nil
      case g21 => (simp only [gA, gB, gC]; rfl)
      go_simp
      refine hK.out _ _ ?_ (fun hHeld => ?_)
      · (try dsimp only); exact HKS.out _ (bel2M HBC.out HB5.out)
      clear hK K
      (try simp only [Act.put, sA, sB, sC])
      refine wpAnyH_ready (rs := [8]) (by kernel_rfl) (by simp) ?_
      refine AllReadyH.cons (o := ?o22) ?g22 (fun K hK => ?j22) AllReadyH.nil
      case g22 => (simp only [gA, gB, gC]; rfl)
      refine step_append_rowsM rfl (.tmp 32) (.tmp 35) 52 rfl 0 33 i1 (.agg #[.int .i64 0, .string ⟨#[]⟩, .slice none 0 0, .slice none 0 0]) 4 72 Try.underlying52 hj hy0 hy1 hy2 rfl (by decide) (.slice AV qs.length cV) qs.length (qs.flatMap kbC) rfl HL5.out.row (.slice (some ⟨w4.heap.size, 0, none⟩) 1 1) 1 (kbC ⟨b, A4, c4, D4, d4⟩) rfl (built4 (q := ⟨b, A4, c4, D4, d4⟩) HX5.out) (kbC_one1 _) (by unfold maxLen; omega) (by omega) (Nat.zero_le _) ?_
      intro v6 w6 hown6 hg6 ho6
      obtain ⟨A6, c6, rfl⟩ := own_slice hown6
      have HO6 := Lib.hid hown6
      have HG6 := Lib.hid hg6
      have HR6 := Lib.hid ho6
      have HH6 := Lib.hid ((hg6.block g HL5.out.lt (fun e => (HL5.out.at_v g e.symm).2 rfl)).trans HL5.out.head)
      have HX6 := Lib.hid ((hg6.block w.heap.size (Nat.lt_of_lt_of_le (Array.getElem?_eq_some_iff.1 HX0.out).1 (bel2M HBC.out HB5.out).size) (fun e => Nat.lt_irrefl _ (HL5.out.at_v _ e.symm).1.1)).trans (heapB HX0.out (bel2M HBC.out HB5.out)))
      clear hown6 hg6 ho6
      obtain ⟨m0, m1, m2, m3, m4⟩ := rows4 HH6.out
      refine hK.out _ _ ?_ (fun hHeld => ?_)
      · (try dsimp only); (obtain ⟨e0, e1, e2, e3, -⟩ := rows4 HX6.out; exact ⟨e0, e1, e2, e3⟩)
      clear hK K
      (try simp only [Act.put, sA, sB, sC])
      refine tk 9 ?_
      (try simp only [Act.put, sA, sB, sC])
      refine tk 10 ?_
      (try simp only [Act.put, sA, sB, sC])
      refine wpAnyH_ready (rs := [11]) (by kernel_rfl) (by simp) ?_
      refine AllReadyH.cons (o := ?o25) ?g25 (fun K hK => ?j25) AllReadyH.nil
      case g25 => (simp only [gA, gB, gC]; rfl)
      go_simp
      refine hK.out _ _ ?_ (fun hHeld => ?_)
      · (try dsimp only); (obtain ⟨e0, e1, e2, e3, -⟩ := rows4 HX6.out; exact ⟨setOtherB e0 (Nat.ne_of_gt HGL.out), setOtherB e1 (Nat.ne_of_gt HGL.out), setOtherB e2 (Nat.ne_of_gt HGL.out), setOtherB e3 (Nat.ne_of_gt HGL.out)⟩)
      clear hK K
      (try simp only [Act.put, sA, sB, sC])
      refine wpAnyH_done (by kernel_rfl) ?_ _
      go_wp2_with fail
      go_meet
      have hz0 := HB0.out.size
      have hz4 := HZ4.out
      have hz5 := HB5.out.size
      have hz6 := HBC.out.size
      refine ⟨_, _, rfl, LgR.push (w := w) HL5.out HS.out (by omega) ((HK4.out.keep hz5 (C' := fun k => w.heap.size ≤ k) fun k hk hc => ⟨HB5.out.block k hk, by have h1 : _ ≤ k := hc; omega⟩)) HO6.out HG6.out HR6.out rfl rfl, ?_⟩
      exact ((Off.of_below (bel2M HB0.out (bel2M HBC.out HB5.out))).trans (Off.of_grown HG6.out (fun k hk => (HL5.out.at_v k hk).1.2))).trans ⟨rfl, rfl, rfl, by simp, fun k hk hn => Go.Deep.blk_setCell_other _ _ _ _ (fun e => hn (by rw [e]; exact HL5.out.at_g.2))⟩
  case rest =>
    obtain ⟨v7, qs7, -, hL7, hO7⟩ := hcut
    go_wp2
    go_ret
    exact ⟨v7, qs7, rfl, hL7, hO7⟩



theorem off_set {S : Nat → Prop} {W : World} {g i : Nat} {u : Value} (h : S g) : Off S W (W.setCell ⟨g, i, none⟩ u) := ⟨rfl, rfl, rfl, by simp, fun k _ hn => Go.Deep.blk_setCell_other _ _ _ _ (fun e => hn (by rw [e]; exact h))⟩
theorem cutE_two {L : Ldg} {x : Int} (h : x < L.base ∨ topL L < x) : cutE L x = 2 := if_pos h
set_option maxHeartbeats 4000000 in
theorem lCut_any {S : Nat → Prop} {w : World} {g : Nat} {L : Ldg} {v : Value} {qs : List KB} (h : LgP S w g L v qs) {K : Nat} (hg : GoodL K L) (hK : K ≤ 10000000) (x : Int) (hS : ∀ k, w.heap.size ≤ k → S k) : Calls Try.prog 20 #[.pointer (some ⟨g, 0, none⟩), .int .i64 x] w (ApP (cutE L x) (cutL L x) g S w) := by
  have h' := h.mono (S' := fun k => k < w.heap.size ∧ S k) (fun k hk hs => ⟨hk, hs⟩)
  have HL := Lib.hid (fun W (hb : Below w.heap.size w W) => h'.below hb)
  have HS := Lib.hid hS
  have hbnd := hg.b
  have hlen := h.len
  have hn1 := hg.n
  have HFIN := Lib.hid (show ∀ x W, Below w.heap.size w W → ApP x L g S w (.returned (.int .i64 x)) W from fun x W hbl => ⟨v, qs, rfl, (HL.out W hbl).mono (fun k _ hk => hk.2), Off.of_below hbl⟩)
  have HHT := Lib.hid (fun W (hb : Below w.heap.size w W) => lHeight_any (HL.out W hb) hg)
  obtain ⟨z0, z1, z2, z3, z4⟩ := h.rowP
  have HH := Lib.hid (fun W => has_any g W)
  by_cases h1 : x < L.base
  · have e1 := cutE_two (L := L) (.inl h1)
    rw [cutL_no (by rw [e1]; decide), e1]
    clear h h' hg e1
    go_enter Try.func20, Try.ntmps20
    go_wp2_with (first
      | (go_at_call 43; refine (HH.out _).mono ?_; rintro e w1 ⟨rfl, hww⟩; rw [hww]; clear hww w1))
    go_ret
    exact HFIN.out _ _ (Below.refl _ _)
  by_cases h2 : topL L < x
  · have e1 := cutE_two (L := L) (.inr h2)
    rw [cutL_no (by rw [e1]; decide), e1]
    clear h h' hg e1
    generalize topL L = tp at *
    go_enter Try.func20, Try.ntmps20
    go_wp2_with (first
      | (go_at_call 43; refine (HH.out _).mono ?_; rintro e w1 ⟨rfl, hww⟩; rw [hww]; clear hww w1)
      | (go_at_call 18; refine (HHT.out _ (Below.refl _ _)).mono ?_; rintro e w1 ⟨rfl, hb1⟩; have HB1 := Lib.hid hb1; clear hb1))
    go_ret
    exact HFIN.out _ _ HB1.out
  have e0 : cutE L x = 0 := if_neg (by omega)
  obtain ⟨k, hk, rfl, hcl⟩ := cutE_zero e0
  rw [e0, hcl]
  have hkq : k ≤ qs.length := by omega
  have HMA := Lib.hid (fun W (hb : Below w.heap.size w W) => lMarkAt_any (HL.out W hb) hg hK hkq)
  obtain ⟨AV, cV, rfl⟩ := own_slice h.row
  have hcut := run_cutB AV qs.length cV k hkq
  have hs1 : IntKind.i64.wrap (L.base + (k : Int) - L.base) = (k : Int) := by rw [IntKind.wrap_i64]; omega
  have hs2 : IntKind.i64.wrap ((k : Int)) = (k : Int) := by rw [IntKind.wrap_i64]; omega
  have h1I : ¬ L.base + (k : Int) < L.base := h1
  have hql : qs.length - k ≤ 1000000 := by omega
  have hbl : (⟨L.base + (k : Int), atL L k, L.bl.drop k⟩ : Ldg).bl = L.bl.drop k := rfl
  clear h h' hg e0 hcl hbnd hlen hn1 h1
  generalize topL L = tp at *
  generalize atL L k = dk at *
  generalize hLb : L.bl.drop k = lb at *
  have HLB := Lib.hid hLb
  clear hLb
  go_enter Try.func20, Try.ntmps20
  go_upto_region 5 with (first
      | (go_at_call 43; refine (HH.out _).mono ?_; rintro e w1 ⟨rfl, hww⟩; rw [hww]; clear hww w1)
      | (go_at_call 18; refine (HHT.out _ (Below.refl _ _)).mono ?_; rintro e w1 ⟨rfl, hb1⟩; have HB1 := Lib.hid hb1; clear hb1))
  replace HB1 := Lib.hid HB1.out.drew
  clear z0 z1 z2 z3 z4
  obtain ⟨z0, z1, z2, z3, z4⟩ := (HL.out _ HB1.out).rowP
  go_region_held3 (fun W => W.cell? ⟨g, 0, none⟩ = some (.int .i64 L.base) ∧ W.cell? ⟨g, 2, none⟩ = some (.slice AV qs.length cV)) (first | exact ⟨z0, z2⟩) (fail)
  go_upto_region 7 with (first
    | (go_at_call 44; refine (HMA.out _ HB1.out).mono ?_; rintro e w2 ⟨rfl, hb2⟩; have HB2 := Lib.hid (bel2M HB1.out hb2); clear hb2 z0 z1 z2 z3 z4; obtain ⟨z0, z1, z2, z3, z4⟩ := (HL.out _ HB2.out).rowP))
  have hL2 := HL.out _ HB2.out
  have hgl : g < w.heap.size := hL2.at_g.1
  have hh3 : ((w2.setCell ⟨g, 0, none⟩ (.int .i64 (L.base + (k : Int)))).setCell ⟨g, 1, none⟩ (.string (strB dk))).heap[g]? = some (.cells #[.int .i64 (L.base + (k : Int)), .string (strB dk), .slice AV qs.length cV, .bool true] 77 (0, 0)) := by
    rw [set_cells (set_cells hL2.head)]
    rfl
  have ho3 : ∀ i, i ≠ g → ((w2.setCell ⟨g, 0, none⟩ (.int .i64 (L.base + (k : Int)))).setCell ⟨g, 1, none⟩ (.string (strB dk))).heap[i]? = w2.heap[i]? := fun i hi => by rw [Go.Deep.blk_setCell_other _ _ _ _ hi, Go.Deep.blk_setCell_other _ _ _ _ hi]
  have hz3 : ((w2.setCell ⟨g, 0, none⟩ (.int .i64 (L.base + (k : Int)))).setCell ⟨g, 1, none⟩ (.string (strB dk))).heap.size = w2.heap.size := by simp
  have hf3 : Off S w ((w2.setCell ⟨g, 0, none⟩ (.int .i64 (L.base + (k : Int)))).setCell ⟨g, 1, none⟩ (.string (strB dk))) := ((Off.of_below HB2.out).trans (off_set hL2.at_g.2)).trans (off_set hL2.at_g.2)
  have hrow3 := own_keep hL2.row (w' := ((w2.setCell ⟨g, 0, none⟩ (.int .i64 (L.base + (k : Int)))).setCell ⟨g, 1, none⟩ (.string (strB dk)))) fun i hi => ho3 i (hL2.at_v i hi).2
  generalize ((w2.setCell ⟨g, 0, none⟩ (.int .i64 (L.base + (k : Int)))).setCell ⟨g, 1, none⟩ (.string (strB dk))) = w3 at *
  have HCL := Lib.hid (cloneBk_any (cutA AV cV k) (qs.length - k) (cV - k) ((qs.drop k).flatMap kbC) w3 (own_cut hrow3 rfl hkq) (kbC_one _) hql)
  have HH3 := Lib.hid hh3
  have HO3 := Lib.hid ho3
  have HZ3 := Lib.hid hz3
  have HF3 := Lib.hid hf3
  have HGL := Lib.hid hgl
  clear hh3 ho3 hz3 hf3 hrow3 hL2 hgl z0 z1 z2 z3 z4
  go_wp2_with (first
    | (go_at_call 45; refine HCL.out.mono ?_; rintro e w4 ⟨v4, rfl, ho4, hb4⟩; obtain ⟨A4, c4, rfl⟩ := own_slice ho4; have HO4 := Lib.hid ho4; have HB4 := Lib.hid hb4; have HH4 := Lib.hid (heapB HH3.out hb4); clear ho4 hb4; obtain ⟨z0, z1, z2, z3, z4⟩ := rows4 HH4.out))
  go_ret
  have hz2 := HB2.out.size
  have hz3 := HZ3.out
  have hz4 := HB4.out.size
  have hgl : g < w.heap.size := HGL.out
  have hdl : (qs.drop k).length = qs.length - k := List.length_drop
  have hL := HL.out w (Below.refl _ _)
  refine ⟨.slice A4 (qs.length - k) c4, qs.drop k, rfl, LgR.cutoff hL HS.out (by simp; omega) (fun i hi hne => ?_) ?_ ?_ HLB.out.symm, (HF3.out.trans (Off.of_below HB4.out)).trans (off_set hL.at_g.2)⟩
  · rw [Go.Deep.blk_setCell_other _ _ _ _ hne, HB4.out.block i (by omega), HO3.out i hne, HB2.out.block i hi]
  · rw [hdl]
    exact own_keep (own_leL HO4.out (by omega)) fun i hi => Go.Deep.blk_setCell_other _ _ _ _ (show i ≠ g by have := (HO4.out.lt i hi).1; omega)
  · rw [set_cells HH4.out]
    rfl

theorem off_below {S : Nat → Prop} {w w' : World} {B : Nat} (h : Off S w w') (hB : B ≤ w.heap.size) (hS : ∀ k, S k → B ≤ k) : Below B w w' := ⟨h.os, h.tape, h.output, h.size, fun k hk => h.block k (by omega) (fun hs => by have := hS k hs; omega)⟩
def bA : Blk := ⟨1, firstL, [], []⟩
def L1 : Ldg := ⟨0, firstL, [bA]⟩
def hdA : List UInt8 := hdrL bA
def L2 : Ldg := ⟨1, hdA, []⟩
theorem bA_few : FewQ bA := ⟨by simp [bA], by simp [bA], by simp [bA]⟩
theorem bA_ok : OkB bA := ⟨by show in64B 1; unfold in64B; omega, by simp [bA], by simp [bA]⟩
theorem bA_check : checkB bA = 0 := by
  unfold checkB
  rw [if_neg (by show ¬ ((1 : Int) < 1 ∨ 1099511627776 < (1 : Int)); omega), if_neg (by simp [bA])]
theorem topL0 : topL L0 = 0 := rfl
theorem topL1 : topL L1 = 1 := rfl
theorem app_one : appE L0 bA = 0 ∧ appL L0 bA = L1 := by
  have h : appE L0 bA = 0 := by
    unfold appE
    rw [if_neg (by rw [bA_check]; decide), if_neg (by rw [topL0]; show ¬ ((1 : Int) ≠ 0 + 1); decide), if_neg (fun h => h rfl)]
  exact ⟨h, by rw [appL_yes h]; rfl⟩
theorem app_two : appE L1 bA = 100 ∧ appL L1 bA = L1 := by
  have h : appE L1 bA = 100 := by
    unfold appE
    rw [if_neg (by rw [bA_check]; decide), if_pos (by rw [topL1]; show ((1 : Int) ≠ 1 + 1); decide)]
  exact ⟨h, appL_no (by rw [h]; decide)⟩
theorem good_one : GoodL 26000 L1 := by
  have h := L0_good.app bA_few bA_ok
  rw [app_one.2] at h
  exact h
theorem cut_one : cutE L1 1 = 0 ∧ cutL L1 1 = L2 := by
  have h : cutE L1 1 = 0 := if_neg (by rw [topL1]; show ¬ ((1 : Int) < 0 ∨ 1 < (1 : Int)); omega)
  refine ⟨h, ?_⟩
  unfold cutL
  rw [if_pos h]
  rfl
theorem good_two : GoodL 26000 L2 := by
  have h := good_one.cut 1
  rw [cut_one.2] at h
  exact h
theorem blk_two : blkE L2 1 = 4 ∧ blkL L2 1 = blk0 := blkE_one (.inl (by show (1 : Int) ≤ 1; omega))
set_option maxHeartbeats 2000000 in
theorem awake11_any (w : World) : Calls Try.prog 14 #[] w (Yes w) := by
  have hk0 : ∀ W, BlkK W bA none 0 none 0 := fun W => ⟨RowM.none _ _ _, RowM.none _ _ _⟩
  have HN := Lib.hid (fun W => lNew_any W)
  have HF := Lib.hid (fun W => rFirst_any W)
  have HA1 := Lib.hid (fun (S : Nat → Prop) (W : World) (g : Nat) (v : Value) (qs : List KB) (h : LgP S W g L0 v qs) (hS : ∀ k, W.heap.size ≤ k → S k) => show Calls Try.prog 21 #[.pointer (some ⟨g, 0, none⟩), .agg #[.int .i64 1, .string (strB firstL), .slice none 0 0, .slice none 0 0]] W (ApP 0 L1 g S W) by
    have := lAppend_any h L0_good (by omega) bA none 0 none 0 (hk0 W) bA_few hS
    rw [app_one.1, app_one.2] at this
    exact this)
  have HA2 := Lib.hid (fun (S : Nat → Prop) (W : World) (g : Nat) (v : Value) (qs : List KB) (h : LgP S W g L1 v qs) (hS : ∀ k, W.heap.size ≤ k → S k) => show Calls Try.prog 21 #[.pointer (some ⟨g, 0, none⟩), .agg #[.int .i64 1, .string (strB firstL), .slice none 0 0, .slice none 0 0]] W (ApP 100 L1 g S W) by
    have := lAppend_any h good_one (by omega) bA none 0 none 0 (hk0 W) bA_few hS
    rw [app_two.1, app_two.2] at this
    exact this)
  have HHT := Lib.hid (fun (S : Nat → Prop) (W : World) (g : Nat) (v : Value) (qs : List KB) (h : LgP S W g L1 v qs) => show Calls Try.prog 18 #[.pointer (some ⟨g, 0, none⟩)] W (TellL (.int .i64 1) W) from lHeight_any h good_one)
  have HCT := Lib.hid (fun (S : Nat → Prop) (W : World) (g : Nat) (v : Value) (qs : List KB) (h : LgP S W g L1 v qs) (hS : ∀ k, W.heap.size ≤ k → S k) => show Calls Try.prog 20 #[.pointer (some ⟨g, 0, none⟩), .int .i64 1] W (ApP 0 L2 g S W) by
    have := lCut_any h good_one (by omega) 1 hS
    rw [cut_one.1, cut_one.2] at this
    exact this)
  have HBS := Lib.hid (fun (S : Nat → Prop) (W : World) (g : Nat) (v : Value) (qs : List KB) (h : LgP S W g L2 v qs) => show Calls Try.prog 22 #[.pointer (some ⟨g, 0, none⟩)] W (TellL (.tuple #[.int .i64 1, .string (strB hdA)]) W) from lBase_any h)
  have HBK := Lib.hid (fun (S : Nat → Prop) (W : World) (g : Nat) (v : Value) (qs : List KB) (h : LgP S W g L2 v qs) => show Calls Try.prog 24 #[.pointer (some ⟨g, 0, none⟩), .int .i64 1] W (BlT blk0 4 W) by
    have := lBlock_any h good_two 1
    rw [blk_two.1, blk_two.2] at this
    exact this)
  have HHD := Lib.hid (fun (S : Nat → Prop) (W : World) (g : Nat) (v : Value) (qs : List KB) (h : LgP S W g L2 v qs) => show Calls Try.prog 19 #[.pointer (some ⟨g, 0, none⟩)] W (TellL (.string (strB hdA)) W) from lHead_any h good_two (by omega))
  clear hk0
  generalize L1 = M1 at *
  generalize L2 = M2 at *
  generalize hdA = hd at *
  generalize L0 = M0 at *
  generalize firstL = fl at *
  go_enter Try.func14, Try.ntmps14
  go_upto_region 3 with (first
    | (go_at_call 10; refine (HN.out _).mono ?_; rintro e w1 ⟨g, rfl, hg1, hb1⟩; have HB1 := Lib.hid hb1; have HG1 := Lib.hid hg1; clear hb1 hg1)
    | (go_at_call 35; refine (HF.out _).mono ?_; rintro e w2 ⟨rfl, hb2⟩; have HB2 := Lib.hid hb2; clear hb2))
  have hz1 := HB1.out.size
  have hz2 := HB2.out.size
  have hx3 := heap_alloc_new w2 (.cells #[.int .i64 1, .string (strB fl), .slice none 0 0, .slice none 0 0] 33)
  have hb3 := alloc1B w2 (.cells #[.int .i64 1, .string (strB fl), .slice none 0 0, .slice none 0 0] 33)
  have hz3 : (w2.alloc (.cells #[.int .i64 1, .string (strB fl), .slice none 0 0, .slice none 0 0] 33)).heap.size = w2.heap.size + 1 := World.size_alloc _ _
  generalize w2.alloc (.cells #[.int .i64 1, .string (strB fl), .slice none 0 0, .slice none 0 0] 33) = w3 at *
  have hg3 : LgP (fun k => (w.heap.size ≤ k ∧ k < w1.heap.size) ∨ w3.heap.size ≤ k) w3.drew g M0 (.slice none 0 0) [] := ((LgR.mono HG1.out (S' := fun k => (w.heap.size ≤ k ∧ k < w1.heap.size) ∨ w3.heap.size ≤ k) fun k h1 h2 => .inl ⟨h2, h1⟩).below HB2.out).below (bel2M hb3 ((Below.refl _ _).drew))
  have HG3 := Lib.hid hg3
  have HX3 := Lib.hid hx3
  have HZ := Lib.hid (And.intro hz1 (And.intro hz2 hz3))
  have HB3 := Lib.hid (bel2M (bel2M HB1.out HB2.out) hb3)
  have HS3 := Lib.hid (show ∀ k, (fun k => (w.heap.size ≤ k ∧ k < w1.heap.size) ∨ w3.heap.size ≤ k) k → w.heap.size ≤ k from fun k hk => by rcases hk with hk | hk <;> omega)
  have HNS := Lib.hid (show ¬ (fun k => (w.heap.size ≤ k ∧ k < w1.heap.size) ∨ w3.heap.size ≤ k) w2.heap.size from fun hk => by rcases hk with hk | hk <;> omega)
  have HNZ := Lib.hid (show w2.heap.size < w3.heap.size by omega)
  have HUP := Lib.hid (show ∀ k, w3.heap.size ≤ k → (fun k => (w.heap.size ≤ k ∧ k < w1.heap.size) ∨ w3.heap.size ≤ k) k from fun k hk => .inr hk)
  generalize (fun k => (w.heap.size ≤ k ∧ k < w1.heap.size) ∨ w3.heap.size ≤ k) = S at *
  clear hz1 hz2 hz3 hx3 hb3 hg3 HG1
  have hbox : ∀ W, Off S w3 W → W.cell? ⟨w2.heap.size, 0, none⟩ = some (.int .i64 1) ∧ W.cell? ⟨w2.heap.size, 1, none⟩ = some (.string (strB fl)) ∧ W.cell? ⟨w2.heap.size, 2, none⟩ = some (.slice none 0 0) ∧ W.cell? ⟨w2.heap.size, 3, none⟩ = some (.slice none 0 0) := fun W hW => by
    obtain ⟨e0, e1, e2, e3, -⟩ := rows4 ((hW.block _ HNZ.out HNS.out).trans HX3.out)
    exact ⟨e0, e1, e2, e3⟩
  have HBOX := Lib.hid hbox
  have HO3 := Lib.hid (show Off S w3 w3.drew from Off.of_below ((Below.refl _ _).drew))
  clear hbox
  go_region_held3 (fun W => W.cell? ⟨w2.heap.size, 0, none⟩ = some (.int .i64 1) ∧ W.cell? ⟨w2.heap.size, 1, none⟩ = some (.string (strB fl)) ∧ W.cell? ⟨w2.heap.size, 2, none⟩ = some (.slice none 0 0) ∧ W.cell? ⟨w2.heap.size, 3, none⟩ = some (.slice none 0 0)) (first | exact HBOX.out _ HO5.out | exact HBOX.out _ HO4.out | exact HBOX.out _ HO3.out) (first
    | (go_at_call 21; refine (HA1.out S _ g _ _ HG3.out (fun k hk => HUP.out k (Nat.le_trans HO3.out.size hk))).mono ?_; rintro e w4 ⟨v4, q4, rfl, hg4, ho4⟩; have HG4 := Lib.hid hg4; have HO4 := Lib.hid (HO3.out.trans ho4); clear hg4 ho4 HG3)
    | (go_at_call 21; refine (HA2.out S _ g _ _ HG4.out (fun k hk => HUP.out k (Nat.le_trans HO4.out.size hk))).mono ?_; rintro e w5 ⟨v5, q5, rfl, hg5, ho5⟩; have HG5 := Lib.hid hg5; have HO5 := Lib.hid (HO4.out.trans ho5); clear hg5 ho5 HG4))
  go_wp2_with (first
    | (go_at_call 18; refine (HHT.out S _ g _ _ HG5.out).mono ?_; rintro e w6 ⟨rfl, hb6⟩; have HG6 := Lib.hid (HG5.out.below hb6); have HO6 := Lib.hid (HO5.out.trans (Off.of_below hb6)); clear hb6)
    | (go_at_call 20; refine (HCT.out S _ g _ _ HG6.out (fun k hk => HUP.out k (Nat.le_trans HO6.out.size hk))).mono ?_; rintro e w7 ⟨v7, q7, rfl, hg7, ho7⟩; have HG7 := Lib.hid hg7; have HO7 := Lib.hid (HO6.out.trans ho7); clear hg7 ho7)
    | (go_at_call 22; refine (HBS.out S _ g _ _ HG7.out).mono ?_; rintro e w8 ⟨rfl, hb8⟩; have HG8 := Lib.hid (HG7.out.below hb8); have HO8 := Lib.hid (HO7.out.trans (Off.of_below hb8)); clear hb8)
    | (go_at_call 24; refine (HBK.out S _ g _ _ HG8.out).mono ?_; rintro e w9 ⟨A9, c9, D9, d9, rfl, -, hb9⟩; have HB9 := Lib.hid (bel2M hb9 (alloc1B w9 (.cells #[.int .i64 blk0.h, .string (strB blk0.prev), .slice A9 blk0.reqs.length c9, .slice D9 blk0.ress.length d9] 33))); have HG9 := Lib.hid (HG8.out.below HB9.out); have HO9 := Lib.hid (HO8.out.trans (Off.of_below HB9.out)); clear hb9)
    | (go_at_call 19; refine (HHD.out S _ g _ _ HG9.out).mono ?_; rintro e wA ⟨rfl, hbA⟩; have HOA := Lib.hid (HO9.out.trans (Off.of_below hbA)); clear hbA))
  go_ret
  refine ⟨rfl, HB3.out.trans (off_below HOA.out HB3.out.size HS3.out)⟩

def packL (h : Int) (d s : List UInt8) : List UInt8 := i8B h ++ (partB d ++ partB s)
theorem packL_len (h : Int) (d s : List UInt8) : (packL h d s).length = 16 + d.length + s.length := by
  unfold packL
  rw [List.length_append, List.length_append, i8B_length, partB_length, partB_length]
  omega
theorem packL_inj {h h' : Int} {d d' s s' : List UInt8} (hh : in64B h) (hh' : in64B h') (hd : d.length ≤ 100000) (hd' : d'.length ≤ 100000) (e : packL h d s = packL h' d' s') : h = h' ∧ d = d' ∧ s = s' := by
  obtain ⟨e1, e2⟩ := List.append_inj e (by rw [i8B_length, i8B_length])
  have hl : d.length = d'.length ∧ partB d = partB d' ∧ partB s = partB s' := by
    have b1 : (partB d ++ partB s).take 4 = be 4 d.length := by unfold partB; rw [List.append_assoc, List.take_append_of_le_length (by rw [be_length]; omega), List.take_of_length_le (by rw [be_length]; omega)]
    have b2 : (partB d' ++ partB s').take 4 = be 4 d'.length := by unfold partB; rw [List.append_assoc, List.take_append_of_le_length (by rw [be_length]; omega), List.take_of_length_le (by rw [be_length]; omega)]
    have hdd : d.length = d'.length := by
      have h3 := bytesF_put d (partB s) hd
      have h4 := bytesF_put d' (partB s') hd'
      rw [e2, h4] at h3
      injection h3 with h3
      rw [h3]
    obtain ⟨e3, e4⟩ := List.append_inj e2 (by rw [partB_length, partB_length, hdd])
    exact ⟨hdd, e3, e4⟩
  obtain ⟨h1, h2, h3⟩ := hl
  refine ⟨i8B_inj hh hh' e1, (List.append_inj h2 (by rw [be_length, be_length])).2, (List.append_inj h3 (by rw [be_length, be_length])).2⟩
def upP (x : List UInt8) : Int × List UInt8 × List UInt8 × Int :=
  let a := int8F x 0
  let b := bytesL a.2.1 a.2.2
  let c := bytesL b.2.1 b.2.2
  (a.1, b.1, c.1, endE c.2.1 c.2.2)
def upD (x : List UInt8) : Int × List UInt8 × List UInt8 × Int :=
  let a := int8F x 0
  let b := bytesF 1099511627776 a.2.1 a.2.2
  let c := bytesF 1099511627776 b.2.1 b.2.2
  (a.1, b.1, c.1, endE c.2.1 c.2.2)
def finL (r : Int × List UInt8 × List UInt8 × Int) : Int × List UInt8 × List UInt8 × Int := if r.2.2.2 = 0 ∧ 0 ≤ r.1 ∧ r.1 ≤ 1099511627776 then (r.1, r.2.1, r.2.2.1, 0) else (0, [], [], 12)
theorem endE_zero {rest : List UInt8} {e : Int} (h : endE rest e = 0) : e = 0 ∧ rest = [] := by
  unfold endE at h
  by_cases h1 : e = 0 ∧ rest ≠ []
  · rw [if_pos h1] at h; exact absurd h (by decide)
  · rw [if_neg h1] at h
    exact ⟨h, Classical.not_not.1 fun hn => h1 ⟨h, hn⟩⟩
theorem upP_ok {x : List UInt8} (h : (upP x).2.2.2 = 0) : x = packL (upP x).1 (upP x).2.1 (upP x).2.2.1 := by
  unfold upP at h ⊢
  simp only at h ⊢
  obtain ⟨h1, h2⟩ := endE_zero h
  obtain ⟨h3, e3⟩ := bytesL_ok h1
  obtain ⟨h4, e4⟩ := bytesL_ok h3
  obtain ⟨-, e5⟩ := int8F_ok h4
  rw [h2, List.append_nil] at e3
  unfold packL
  rw [← e3, ← e4, ← e5]
theorem upD_ok {x : List UInt8} (h : (upD x).2.2.2 = 0) : x = packL (upD x).1 (upD x).2.1 (upD x).2.2.1 := by
  unfold upD at h ⊢
  simp only at h ⊢
  obtain ⟨h1, h2⟩ := endE_zero h
  obtain ⟨h3, e3⟩ := bytesF_ok h1
  obtain ⟨h4, e4⟩ := bytesF_ok h3
  obtain ⟨-, e5⟩ := int8F_ok h4
  rw [h2, List.append_nil] at e3
  unfold packL
  rw [← e3, ← e4, ← e5]
theorem endE_nil : endE [] 0 = 0 := rfl
theorem upP_put {h : Int} {d s : List UInt8} (hh : in64B h) (hd : d.length ≤ 100000) (hs : s.length ≤ 100000) : upP (packL h d s) = (h, d, s, 0) := by
  have e2 := bytesL_put s [] hs
  rw [List.append_nil] at e2
  unfold upP packL
  simp only [int8F_put h hh, bytesL_put d _ hd, e2, endE_nil]
theorem upD_put {h : Int} {d s : List UInt8} (hh : in64B h) (hd : d.length ≤ 100000) (hs : s.length ≤ 100000) : upD (packL h d s) = (h, d, s, 0) := by
  have e2 := bytesF_put s [] hs
  rw [List.append_nil] at e2
  unfold upD packL
  simp only [int8F_put h hh, bytesF_put d _ hd, e2, endE_nil]
theorem int8F_in (rest : List UInt8) (e : Int) : in64B (int8F rest e).1 := by
  unfold int8F in64B wrap64
  omega
theorem fin_same {x : List UInt8} (hx : x.length ≤ 20000) : finL (upP x) = finL (upD x) := by
  by_cases h : (upP x).2.2.2 = 0
  · have e := upP_ok h
    have hl := congrArg List.length e
    rw [packL_len] at hl
    have h1 : upD x = ((upP x).1, (upP x).2.1, (upP x).2.2.1, 0) := by
      conv => lhs; rw [e]
      exact upD_put (int8F_in x 0) (by omega) (by omega)
    rw [h1]
    unfold finL
    simp only [h]
  · have h2 : (upD x).2.2.2 ≠ 0 := fun h2 => by
      have e := upD_ok h2
      have hl := congrArg List.length e
      rw [packL_len] at hl
      have h1 : upP x = ((upD x).1, (upD x).2.1, (upD x).2.2.1, 0) := by
        conv => lhs; rw [e]
        exact upP_put (int8F_in x 0) (by omega) (by omega)
      rw [h1] at h
      exact h rfl
    unfold finL
    rw [if_neg (fun hc => h hc.1), if_neg (fun hc => h2 hc.1)]
set_option maxHeartbeats 1000000 in
theorem lPack_any (h : Int) (d : List UInt8) (y : Value) (s : List UInt8) (w : World) (hy : Bs w y s) (hd : d.length ≤ 1000000) (hs : s.length ≤ 1000000) : Calls Try.prog 26 #[.int .i64 h, .string (strB d), y] w (Puts w (packL h d s)) := by
  have hcv := conv_digest
  have hsz := strB_size d
  have HY := Lib.hid hy
  obtain ⟨AY, cY, rfl, -⟩ := hy.open
  have HPI := Lib.hid (fun W => show Calls Try.prog 50 #[.slice none 0 0, .int .i64 h] W (Puts W (i8B h)) from by have h0 := PutInt_any (.slice none 0 0) [] h W (Bs.nil W) (Nat.zero_le _); rw [List.nil_append] at h0; exact h0)
  have HPB := Lib.hid (fun (v : Value) W (hv : Bs W v (i8B h)) (y : Value) (hy : Bs W y d) => PutBytes_any v y (i8B h) d W hv hy (by rw [i8B_length]; omega) (by omega))
  have HPC := Lib.hid (fun (v : Value) W (hv : Bs W v (i8B h ++ be 4 d.length ++ d)) (y : Value) (hy : Bs W y s) => PutBytes_any v y (i8B h ++ be 4 d.length ++ d) s W hv hy (by rw [List.length_append, List.length_append, i8B_length, be_length]; omega) (by omega))
  rw [show packL h d s = i8B h ++ be 4 d.length ++ d ++ be 4 s.length ++ s by unfold packL partB; simp only [List.append_assoc]]
  have hdm : d.length ≤ maxLen := by unfold maxLen; omega
  have HDM := Lib.hid hdm
  clear hy hdm
  generalize i8B h ++ be 4 d.length ++ d ++ be 4 s.length ++ s = b10 at *
  generalize i8B h ++ be 4 d.length ++ d = b9 at *
  generalize i8B h = b8 at *
  go_enter Try.func26, Try.ntmps26
  go_wp2_with (first
    | (go_at_call 50; refine (HPI.out _).mono ?_; rintro e w1 ⟨v1, rfl, ho1, hb1⟩; obtain ⟨A1, c1, rfl⟩ := own_slice ho1; have HO1 := Lib.hid (own_bs ho1); have HB1 := Lib.hid hb1; have HW1 := Lib.hid (bytesWorld_below w1 5 (strB d)); have HD1 := Lib.hid (bytesWorld_bsN w1 d HDM.out d.length (grownCap w1 d.length 0 5) rfl rfl); clear ho1 hb1)
    | (go_at_call 49; refine (HPB.out _ _ (HO1.out.below HW1.out (Nat.le_refl _)) _ HD1.out).mono ?_; rintro e w2 ⟨v2, rfl, ho2, hb2⟩; obtain ⟨A2, c2, rfl⟩ := own_slice ho2; have HO2 := Lib.hid (own_bs ho2); have HB2 := Lib.hid (bel2M HB1.out (bel2M HW1.out hb2)); clear ho2 hb2 HO1)
    | (go_at_call 49; refine (HPC.out _ _ HO2.out _ (HY.out.below HB2.out (Nat.le_refl _))).mono ?_; rintro e w3 ⟨v3, rfl, ho3, hb3⟩; obtain ⟨A3, c3, rfl⟩ := own_slice ho3; have HO3 := Lib.hid ho3; have HB3 := Lib.hid (bel2M HB2.out hb3); clear ho3 hb3 HO2))
  go_ret
  exact ⟨_, rfl, own_leL HO3.out HB2.out.size, HB3.out⟩
set_option maxHeartbeats 1000000 in
theorem rlPack_any (h : Int) (d : List UInt8) (y : Value) (s : List UInt8) (w : World) (hy : Bs w y s) (hd : d.length ≤ 1000000) (hs : s.length ≤ 1000000) : Calls Try.prog 30 #[.int .i64 h, .string (strB d), y] w (Puts w (packL h d s)) := by
  have hcv := conv_digest
  have hsz := strB_size d
  have HY := Lib.hid hy
  obtain ⟨AY, cY, rfl, -⟩ := hy.open
  have HPI := Lib.hid (fun W => show Calls Try.prog 61 #[.slice none 0 0, .int .i64 h] W (Puts W (i8B h)) from by have h0 := rInt_any (.slice none 0 0) [] h W (Bs.nil W) (Nat.zero_le _); rw [List.nil_append] at h0; exact h0)
  have HPB := Lib.hid (fun (v : Value) W (hv : Bs W v (i8B h)) (y : Value) (hy : Bs W y d) => rBytes_any v y (i8B h) d W hv hy (by rw [i8B_length]; omega) (by omega))
  have HPC := Lib.hid (fun (v : Value) W (hv : Bs W v (i8B h ++ be 4 d.length ++ d)) (y : Value) (hy : Bs W y s) => rBytes_any v y (i8B h ++ be 4 d.length ++ d) s W hv hy (by rw [List.length_append, List.length_append, i8B_length, be_length]; omega) (by omega))
  rw [show packL h d s = i8B h ++ be 4 d.length ++ d ++ be 4 s.length ++ s by unfold packL partB; simp only [List.append_assoc]]
  have hdm : d.length ≤ maxLen := by unfold maxLen; omega
  have HDM := Lib.hid hdm
  clear hy hdm
  generalize i8B h ++ be 4 d.length ++ d ++ be 4 s.length ++ s = b10 at *
  generalize i8B h ++ be 4 d.length ++ d = b9 at *
  generalize i8B h = b8 at *
  go_enter Try.func30, Try.ntmps30
  go_wp2_with (first
    | (go_at_call 61; refine (HPI.out _).mono ?_; rintro e w1 ⟨v1, rfl, ho1, hb1⟩; obtain ⟨A1, c1, rfl⟩ := own_slice ho1; have HO1 := Lib.hid (own_bs ho1); have HB1 := Lib.hid hb1; have HW1 := Lib.hid (bytesWorld_below w1 5 (strB d)); have HD1 := Lib.hid (bytesWorld_bsN w1 d HDM.out d.length (grownCap w1 d.length 0 5) rfl rfl); clear ho1 hb1)
    | (go_at_call 60; refine (HPB.out _ _ (HO1.out.below HW1.out (Nat.le_refl _)) _ HD1.out).mono ?_; rintro e w2 ⟨v2, rfl, ho2, hb2⟩; obtain ⟨A2, c2, rfl⟩ := own_slice ho2; have HO2 := Lib.hid (own_bs ho2); have HB2 := Lib.hid (bel2M HB1.out (bel2M HW1.out hb2)); clear ho2 hb2 HO1)
    | (go_at_call 60; refine (HPC.out _ _ HO2.out _ (HY.out.below HB2.out (Nat.le_refl _))).mono ?_; rintro e w3 ⟨v3, rfl, ho3, hb3⟩; obtain ⟨A3, c3, rfl⟩ := own_slice ho3; have HO3 := Lib.hid ho3; have HB3 := Lib.hid (bel2M HB2.out hb3); clear ho3 hb3 HO2))
  go_ret
  exact ⟨_, rfl, own_leL HO3.out HB2.out.size, HB3.out⟩
theorem lSeal_any (v : Value) (x : List UInt8) (w : World) (hv : Bs w v x) (hx : x.length ≤ 1000000) : Calls Try.prog 31 #[v] w (Tells (encT 7 [x]) w) := by
  have HL := Lib.hid (Leaf_any 7 v x w hv (by omega))
  obtain ⟨A1, c1, rfl, -⟩ := hv.open
  clear hv
  generalize encT 7 [x] = dg at *
  go_enter Try.func31, Try.ntmps31
  go_wp2_with (go_at_call 62; refine HL.out.mono ?_; rintro e w1 ⟨rfl, hb1⟩; have HB1 := Lib.hid hb1; clear hb1)
  go_ret
  exact ⟨rfl, HB1.out⟩
theorem rlSeal_any (v : Value) (x : List UInt8) (w : World) (hv : Bs w v x) (hx : x.length ≤ 1000000) : Calls Try.prog 32 #[v] w (Tells (encT 7 [x]) w) := by
  have HL := Lib.hid (rLeaf_any 7 v x w hv (by omega))
  obtain ⟨A1, c1, rfl, -⟩ := hv.open
  clear hv
  generalize encT 7 [x] = dg at *
  go_enter Try.func32, Try.ntmps32
  go_wp2_with (go_at_call 63; refine HL.out.mono ?_; rintro e w1 ⟨rfl, hb1⟩; have HB1 := Lib.hid hb1; clear hb1)
  go_ret
  exact ⟨rfl, HB1.out⟩

def UnP (r : Int × List UInt8 × List UInt8 × Int) (w : World) (e : Ending) (w' : World) : Prop := ∃ v, e = .returned (.tuple #[.int .i64 r.1, .string (strB r.2.1), v, .int .i64 r.2.2.2]) ∧ Bs w' v r.2.2.1 ∧ Below w.heap.size w w'
theorem fin_yes {h : Int} {d s : List UInt8} (h0 : 0 ≤ h ∧ h ≤ 1099511627776) : finL (h, d, s, 0) = (h, d, s, 0) := if_pos ⟨rfl, h0⟩
theorem fin_no {h : Int} {d s : List UInt8} {e : Int} (h0 : e ≠ 0 ∨ ¬ (0 ≤ h ∧ h ≤ 1099511627776)) : finL (h, d, s, e) = (0, [], [], 12) := if_neg (fun hc => h0.elim (fun h1 => h1 hc.1) (fun h1 => h1 hc.2))
theorem bs_only {g : Nat} {w w' : World} {v : Value} {l : List UInt8} (h : Bs w v l) (ho : Only g w w') (hn : ∀ k, v.ownBlock = some k → k ≠ g) : Bs w' v l := h.keep ho.size fun _ k hk => ho.block k (h.lt (by assumption) k hk) (fun e => hn k hk (by injection e))
set_option maxHeartbeats 4000000 in
theorem lUnpack_any (v : Value) (x : List UInt8) (w : World) (hv : Bs w v x) (hx : x.length ≤ 100000) : Calls Try.prog 27 #[v] w (UnP (finL (upP x)) w) := by
  have HNW := Lib.hid (New_any v x w hv (by omega))
  have l1 := int8F_lenG x 0
  have l2 := bytesL_lenG (int8F x 0).2.1 (int8F x 0).2.2
  have HI := Lib.hid (fun g W (h : RdR W g x 0) => show Calls Try.prog 52 #[.pointer (some ⟨g, 0, none⟩)] W (Did g (.int .i64 (int8F x 0).1) (int8F x 0).2.1 (int8F x 0).2.2 W) from Int_any g x 0 W h)
  have HBA := Lib.hid (fun g W h => bytesL_new g (int8F x 0).2.1 (int8F x 0).2.2 W h (by omega))
  have HBB := Lib.hid (fun g W h => bytesL_new g (bytesL (int8F x 0).2.1 (int8F x 0).2.2).2.1 (bytesL (int8F x 0).2.1 (int8F x 0).2.2).2.2 W h (by omega))
  have HLA := Lib.hid (fun g W h => Left_any g (int8F x 0).2.1 (int8F x 0).2.2 W h)
  have HLB := Lib.hid (fun g W h => Left_any g (bytesL (int8F x 0).2.1 (int8F x 0).2.2).2.1 (bytesL (int8F x 0).2.1 (int8F x 0).2.2).2.2 W h)
  have hup : upP x = ((int8F x 0).1, (bytesL (int8F x 0).2.1 (int8F x 0).2.2).1, (bytesL (bytesL (int8F x 0).2.1 (int8F x 0).2.2).2.1 (bytesL (int8F x 0).2.1 (int8F x 0).2.2).2.2).1, endE (bytesL (bytesL (int8F x 0).2.1 (int8F x 0).2.2).2.1 (bytesL (int8F x 0).2.1 (int8F x 0).2.2).2.2).2.1 (bytesL (bytesL (int8F x 0).2.1 (int8F x 0).2.2).2.1 (bytesL (int8F x 0).2.1 (int8F x 0).2.2).2.2).2.2) := rfl
  rw [hup]
  obtain ⟨VA, vc, rfl, -⟩ := hv.open
  clear hup hv
  generalize int8F x 0 = a1 at *
  obtain ⟨h, r1, e1⟩ := a1
  simp only at *
  generalize bytesL r1 e1 = a2 at *
  obtain ⟨d, r2, e2⟩ := a2
  simp only at *
  generalize bytesL r2 e2 = a3 at *
  obtain ⟨s, r3, e3⟩ := a3
  simp only at *
  have HMB := Lib.hid (fun W => mayBe_any h W)
  have hfin : ∀ z, endE r3 e3 = z → finL (h, d, s, endE r3 e3) = finL (h, d, s, z) := fun z hz => by rw [hz]
  clear l1 l2
  have run : ∀ z, endE r3 e3 = z → Calls Try.prog 27 #[.slice VA x.length vc] w (UnP (finL (h, d, s, z)) w) := by
    intro z hz
    have HEN := Lib.hid (fun g W (hr : RdR W g r3 e3) => show Calls Try.prog 55 #[.pointer (some ⟨g, 0, none⟩)] W (Did g (.tuple #[]) r3 z W) from hz ▸ End_any g r3 e3 W hr)
    clear hz hfin
    by_cases hze : z = 0
    · subst hze
      by_cases hm : 0 ≤ h ∧ h ≤ 1099511627776
      · rw [fin_yes hm]
        rw [decide_eq_true hm] at HMB
        clear hm
        go_enter Try.func27, Try.ntmps27
        go_wp2_with (first
          | (go_at_call 51; refine HNW.out.mono ?_; rintro e w1 ⟨g, rfl, hg, hr1, hb1⟩; have HG := Lib.hid hg; have HR1 := Lib.hid hr1; have HB1 := Lib.hid hb1; clear hg hr1 hb1)
          | (go_at_call 52; refine (HI.out g _ HR1.out).mono ?_; rintro e w2 ⟨rfl, hr2, ho2⟩; have HR2 := Lib.hid hr2; have HO2 := Lib.hid ho2; clear hr2 ho2)
          | (go_at_call 54; refine (HLA.out g _ HR2.out).mono ?_; rintro e wz ⟨rfl, rfl⟩)
          | (go_at_call 53; refine (HBA.out g _ HR2.out).mono ?_; rintro e w3 ⟨v3, rfl, hd3, hr3, ho3, -⟩; have hst := fun (W : World) (hW : Bs W v3 d) => run_strD hW; obtain ⟨A3, c3, rfl, -⟩ := hd3.open; have hsw := run_strD hd3; have HR3 := Lib.hid hr3; have HO3 := Lib.hid (HO2.out.trans ho3); have HZ3 := Lib.hid hr3.lt; clear hr3 ho3 hd3 hst HR2)
          | (go_at_call 54; refine (HLB.out g _ HR3.out).mono ?_; rintro e wz ⟨rfl, rfl⟩)
          | (go_at_call 53; refine (HBB.out g _ HR3.out).mono ?_; rintro e w4 ⟨v4, rfl, hs4, hr4, ho4, hn4⟩; obtain ⟨AS, cS, rfl, -⟩ := hs4.open; have HS4 := Lib.hid hs4; have HR4 := Lib.hid hr4; have HO4 := Lib.hid (HO3.out.trans ho4); have HN4 := Lib.hid hn4; clear hr4 ho4 hs4 hn4 HR3)
          | (go_at_call 55; refine (HEN.out g _ HR4.out).mono ?_; rintro e w5 ⟨rfl, hr5, ho5⟩; have HR5 := Lib.hid hr5; have HSF := Lib.hid (bs_only HS4.out ho5 (fun k hk => by have := HN4.out k hk; have := HZ3.out; omega)); have HBL := Lib.hid (HB1.out.trans (Only.to_below (HO4.out.trans ho5) HB1.out.size HG.out)); clear hr5 ho5)
          | (go_at_call 56; refine (Err_any g _ _ _ HR5.out).mono ?_; rintro e wz ⟨rfl, rfl⟩)
          | (go_at_call 41; refine (HMB.out _).mono ?_; rintro e wz ⟨rfl, hww⟩; rw [hww]; clear hww wz))
        refine bodyPost_ret (v := .tuple #[.int .i64 h, .string (strB d), .slice AS s.length cS, .int .i64 0]) (by simp [results, Try.results27, go_sem]) rfl ⟨_, rfl, ?_, HBL.out⟩
        exact HSF.out
      · rw [fin_no (.inr hm)]
        rw [decide_eq_false hm] at HMB
        clear hm
        go_enter Try.func27, Try.ntmps27
        go_wp2_with (first
          | (go_at_call 51; refine HNW.out.mono ?_; rintro e w1 ⟨g, rfl, hg, hr1, hb1⟩; have HG := Lib.hid hg; have HR1 := Lib.hid hr1; have HB1 := Lib.hid hb1; clear hg hr1 hb1)
          | (go_at_call 52; refine (HI.out g _ HR1.out).mono ?_; rintro e w2 ⟨rfl, hr2, ho2⟩; have HR2 := Lib.hid hr2; have HO2 := Lib.hid ho2; clear hr2 ho2)
          | (go_at_call 54; refine (HLA.out g _ HR2.out).mono ?_; rintro e wz ⟨rfl, rfl⟩)
          | (go_at_call 53; refine (HBA.out g _ HR2.out).mono ?_; rintro e w3 ⟨v3, rfl, hd3, hr3, ho3, -⟩; have hst := fun (W : World) (hW : Bs W v3 d) => run_strD hW; obtain ⟨A3, c3, rfl, -⟩ := hd3.open; have hsw := run_strD hd3; have HR3 := Lib.hid hr3; have HO3 := Lib.hid (HO2.out.trans ho3); have HZ3 := Lib.hid hr3.lt; clear hr3 ho3 hd3 hst HR2)
          | (go_at_call 54; refine (HLB.out g _ HR3.out).mono ?_; rintro e wz ⟨rfl, rfl⟩)
          | (go_at_call 53; refine (HBB.out g _ HR3.out).mono ?_; rintro e w4 ⟨v4, rfl, hs4, hr4, ho4, hn4⟩; obtain ⟨AS, cS, rfl, -⟩ := hs4.open; have HS4 := Lib.hid hs4; have HR4 := Lib.hid hr4; have HO4 := Lib.hid (HO3.out.trans ho4); have HN4 := Lib.hid hn4; clear hr4 ho4 hs4 hn4 HR3)
          | (go_at_call 55; refine (HEN.out g _ HR4.out).mono ?_; rintro e w5 ⟨rfl, hr5, ho5⟩; have HR5 := Lib.hid hr5; have HSF := Lib.hid (bs_only HS4.out ho5 (fun k hk => by have := HN4.out k hk; have := HZ3.out; omega)); have HBL := Lib.hid (HB1.out.trans (Only.to_below (HO4.out.trans ho5) HB1.out.size HG.out)); clear hr5 ho5)
          | (go_at_call 56; refine (Err_any g _ _ _ HR5.out).mono ?_; rintro e wz ⟨rfl, rfl⟩)
          | (go_at_call 41; refine (HMB.out _).mono ?_; rintro e wz ⟨rfl, hww⟩; rw [hww]; clear hww wz))
        refine bodyPost_ret (v := .tuple #[.int .i64 0, .string (strB []), .slice none 0 0, .int .i64 12]) (by simp [results, Try.results27, go_sem]; rfl) rfl ⟨_, rfl, Bs.nil _, HBL.out⟩
    · rw [fin_no (.inl hze)]
      have hzb : (z != 0) = true := by simpa using hze
      clear hze
      go_enter Try.func27, Try.ntmps27
      go_wp2_with (first
          | (go_at_call 51; refine HNW.out.mono ?_; rintro e w1 ⟨g, rfl, hg, hr1, hb1⟩; have HG := Lib.hid hg; have HR1 := Lib.hid hr1; have HB1 := Lib.hid hb1; clear hg hr1 hb1)
          | (go_at_call 52; refine (HI.out g _ HR1.out).mono ?_; rintro e w2 ⟨rfl, hr2, ho2⟩; have HR2 := Lib.hid hr2; have HO2 := Lib.hid ho2; clear hr2 ho2)
          | (go_at_call 54; refine (HLA.out g _ HR2.out).mono ?_; rintro e wz ⟨rfl, rfl⟩)
          | (go_at_call 53; refine (HBA.out g _ HR2.out).mono ?_; rintro e w3 ⟨v3, rfl, hd3, hr3, ho3, -⟩; have hst := fun (W : World) (hW : Bs W v3 d) => run_strD hW; obtain ⟨A3, c3, rfl, -⟩ := hd3.open; have hsw := run_strD hd3; have HR3 := Lib.hid hr3; have HO3 := Lib.hid (HO2.out.trans ho3); have HZ3 := Lib.hid hr3.lt; clear hr3 ho3 hd3 hst HR2)
          | (go_at_call 54; refine (HLB.out g _ HR3.out).mono ?_; rintro e wz ⟨rfl, rfl⟩)
          | (go_at_call 53; refine (HBB.out g _ HR3.out).mono ?_; rintro e w4 ⟨v4, rfl, hs4, hr4, ho4, hn4⟩; obtain ⟨AS, cS, rfl, -⟩ := hs4.open; have HS4 := Lib.hid hs4; have HR4 := Lib.hid hr4; have HO4 := Lib.hid (HO3.out.trans ho4); have HN4 := Lib.hid hn4; clear hr4 ho4 hs4 hn4 HR3)
          | (go_at_call 55; refine (HEN.out g _ HR4.out).mono ?_; rintro e w5 ⟨rfl, hr5, ho5⟩; have HR5 := Lib.hid hr5; have HSF := Lib.hid (bs_only HS4.out ho5 (fun k hk => by have := HN4.out k hk; have := HZ3.out; omega)); have HBL := Lib.hid (HB1.out.trans (Only.to_below (HO4.out.trans ho5) HB1.out.size HG.out)); clear hr5 ho5)
          | (go_at_call 56; refine (Err_any g _ _ _ HR5.out).mono ?_; rintro e wz ⟨rfl, rfl⟩)
          | (go_at_call 41; refine (HMB.out _).mono ?_; rintro e wz ⟨rfl, hww⟩; rw [hww]; clear hww wz))
      refine bodyPost_ret (v := .tuple #[.int .i64 0, .string (strB []), .slice none 0 0, .int .i64 12]) (by simp [results, Try.results27, go_sem]; rfl) rfl ⟨_, rfl, Bs.nil _, HBL.out⟩
  exact run _ rfl
theorem rfs_err {w : World} {g : Nat} {rest : List UInt8} {e : Int} (h : RfS w g rest e) : w.cell? ⟨g, 2, none⟩ = some (.int .i64 e) := by
  obtain ⟨bs, i, hr, -⟩ := h
  obtain ⟨A, c, -, -, -, hi, h99, hc0, hc1, hc2, hf, hlt, -⟩ := hr.open
  exact hc2
set_option maxHeartbeats 4000000 in
theorem rlUnpack_any (v : Value) (x : List UInt8) (w : World) (hv : Bs w v x) (hx : x.length ≤ 100000) : Calls Try.prog 28 #[v] w (UnP (finL (upD x)) w) := by
  have HR1 := Lib.hid (RfS.mkq w v x (Bs.bq hv (fun hl k hk => hv.lt hl k hk)) (by omega) w.heap.size rfl)
  have HB1 := Lib.hid (alloc1B w (.cells #[v, .int .i64 0, .int .i64 0] 96))
  have hrr := HR1.out
  have HI := Lib.hid (fun g W (h : RfS W g x 0) => show Calls Try.prog 57 #[.pointer (some ⟨g, 0, none⟩)] W (DidR g (.int .i64 (int8F x 0).1) (int8F x 0).2.1 (int8F x 0).2.2 W) from rfInt_any g x 0 W h)
  have HBA := Lib.hid (fun g W h => rfBytes_any g (int8F x 0).2.1 (int8F x 0).2.2 1099511627776 (by omega) (by omega) W h)
  have HBB := Lib.hid (fun g W h => rfBytes_any g (bytesF 1099511627776 (int8F x 0).2.1 (int8F x 0).2.2).2.1 (bytesF 1099511627776 (int8F x 0).2.1 (int8F x 0).2.2).2.2 1099511627776 (by omega) (by omega) W h)
  have hup : upD x = ((int8F x 0).1, (bytesF 1099511627776 (int8F x 0).2.1 (int8F x 0).2.2).1, (bytesF 1099511627776 (bytesF 1099511627776 (int8F x 0).2.1 (int8F x 0).2.2).2.1 (bytesF 1099511627776 (int8F x 0).2.1 (int8F x 0).2.2).2.2).1, endE (bytesF 1099511627776 (bytesF 1099511627776 (int8F x 0).2.1 (int8F x 0).2.2).2.1 (bytesF 1099511627776 (int8F x 0).2.1 (int8F x 0).2.2).2.2).2.1 (bytesF 1099511627776 (bytesF 1099511627776 (int8F x 0).2.1 (int8F x 0).2.2).2.1 (bytesF 1099511627776 (int8F x 0).2.1 (int8F x 0).2.2).2.2).2.2) := rfl
  rw [hup]
  obtain ⟨VA, vc, rfl, -⟩ := hv.open
  clear hup hv hrr
  generalize int8F x 0 = a1 at *
  obtain ⟨h, r1, e1⟩ := a1
  simp only at *
  generalize bytesF 1099511627776 r1 e1 = a2 at *
  obtain ⟨d, r2, e2⟩ := a2
  simp only at *
  generalize bytesF 1099511627776 r2 e2 = a3 at *
  obtain ⟨s, r3, e3⟩ := a3
  simp only at *
  have run : ∀ z, endE r3 e3 = z → Calls Try.prog 28 #[.slice VA x.length vc] w (UnP (finL (h, d, s, z)) w) := by
    intro z hz
    have HEN := Lib.hid (fun g W (hr : RfS W g r3 e3) => show Calls Try.prog 59 #[.pointer (some ⟨g, 0, none⟩)] W (DidR g (.tuple #[]) r3 z W) from hz ▸ rfEnd_any g r3 e3 W hr)
    clear hz
    by_cases hze : z = 0
    · subst hze
      by_cases hm1 : h < 0
      · rw [fin_no (.inr (fun hm => by omega))]
        go_enter Try.func28, Try.ntmps28
        go_wp2_with (first
          | (go_at_call 57; refine (HI.out w.heap.size _ HR1.out).mono ?_; rintro e w2 ⟨rfl, hr2, ho2⟩; have HR2 := Lib.hid hr2; have HO2 := Lib.hid ho2; clear hr2 ho2)
          | (go_at_call 58; refine (HBA.out w.heap.size _ HR2.out).mono ?_; rintro e w3 ⟨v3, rfl, hd3, hr3, ho3, -⟩; obtain ⟨A3, c3, rfl, -⟩ := hd3.open; have hsw := run_strD hd3; have HR3 := Lib.hid hr3; have HO3 := Lib.hid (HO2.out.trans ho3); have HZ3 := Lib.hid hr3.lt; clear hr3 ho3 hd3 HR2)
          | (go_at_call 58; refine (HBB.out w.heap.size _ HR3.out).mono ?_; rintro e w4 ⟨v4, rfl, hs4, hr4, ho4, hn4⟩; obtain ⟨AS, cS, rfl, -⟩ := hs4.open; have HS4 := Lib.hid hs4; have HR4 := Lib.hid hr4; have HO4 := Lib.hid (HO3.out.trans ho4); have HN4 := Lib.hid hn4; clear hr4 ho4 hs4 hn4 HR3)
          | (go_at_call 59; refine (HEN.out w.heap.size _ HR4.out).mono ?_; rintro e w5 ⟨rfl, hr5, ho5⟩; have hc2 := rfs_err hr5; have HSF := Lib.hid (bs_only HS4.out ho5 (fun k hk => by have := HN4.out k hk; have := HZ3.out; omega)); have HBL := Lib.hid (HB1.out.trans (Only.to_below (HO4.out.trans ho5) (by simp) (Nat.le_refl _))); clear hr5 ho5))
        refine bodyPost_ret (v := .tuple #[.int .i64 0, .string (strB []), .slice none 0 0, .int .i64 12]) (by simp [results, Try.results28, go_sem]; rfl) rfl ⟨_, rfl, Bs.nil _, HBL.out⟩
      by_cases hm2 : 1099511627776 < h
      · rw [fin_no (.inr (fun hm => by omega))]
        go_enter Try.func28, Try.ntmps28
        go_wp2_with (first
          | (go_at_call 57; refine (HI.out w.heap.size _ HR1.out).mono ?_; rintro e w2 ⟨rfl, hr2, ho2⟩; have HR2 := Lib.hid hr2; have HO2 := Lib.hid ho2; clear hr2 ho2)
          | (go_at_call 58; refine (HBA.out w.heap.size _ HR2.out).mono ?_; rintro e w3 ⟨v3, rfl, hd3, hr3, ho3, -⟩; obtain ⟨A3, c3, rfl, -⟩ := hd3.open; have hsw := run_strD hd3; have HR3 := Lib.hid hr3; have HO3 := Lib.hid (HO2.out.trans ho3); have HZ3 := Lib.hid hr3.lt; clear hr3 ho3 hd3 HR2)
          | (go_at_call 58; refine (HBB.out w.heap.size _ HR3.out).mono ?_; rintro e w4 ⟨v4, rfl, hs4, hr4, ho4, hn4⟩; obtain ⟨AS, cS, rfl, -⟩ := hs4.open; have HS4 := Lib.hid hs4; have HR4 := Lib.hid hr4; have HO4 := Lib.hid (HO3.out.trans ho4); have HN4 := Lib.hid hn4; clear hr4 ho4 hs4 hn4 HR3)
          | (go_at_call 59; refine (HEN.out w.heap.size _ HR4.out).mono ?_; rintro e w5 ⟨rfl, hr5, ho5⟩; have hc2 := rfs_err hr5; have HSF := Lib.hid (bs_only HS4.out ho5 (fun k hk => by have := HN4.out k hk; have := HZ3.out; omega)); have HBL := Lib.hid (HB1.out.trans (Only.to_below (HO4.out.trans ho5) (by simp) (Nat.le_refl _))); clear hr5 ho5))
        refine bodyPost_ret (v := .tuple #[.int .i64 0, .string (strB []), .slice none 0 0, .int .i64 12]) (by simp [results, Try.results28, go_sem]; rfl) rfl ⟨_, rfl, Bs.nil _, HBL.out⟩
      rw [fin_yes (by omega)]
      go_enter Try.func28, Try.ntmps28
      go_wp2_with (first
          | (go_at_call 57; refine (HI.out w.heap.size _ HR1.out).mono ?_; rintro e w2 ⟨rfl, hr2, ho2⟩; have HR2 := Lib.hid hr2; have HO2 := Lib.hid ho2; clear hr2 ho2)
          | (go_at_call 58; refine (HBA.out w.heap.size _ HR2.out).mono ?_; rintro e w3 ⟨v3, rfl, hd3, hr3, ho3, -⟩; obtain ⟨A3, c3, rfl, -⟩ := hd3.open; have hsw := run_strD hd3; have HR3 := Lib.hid hr3; have HO3 := Lib.hid (HO2.out.trans ho3); have HZ3 := Lib.hid hr3.lt; clear hr3 ho3 hd3 HR2)
          | (go_at_call 58; refine (HBB.out w.heap.size _ HR3.out).mono ?_; rintro e w4 ⟨v4, rfl, hs4, hr4, ho4, hn4⟩; obtain ⟨AS, cS, rfl, -⟩ := hs4.open; have HS4 := Lib.hid hs4; have HR4 := Lib.hid hr4; have HO4 := Lib.hid (HO3.out.trans ho4); have HN4 := Lib.hid hn4; clear hr4 ho4 hs4 hn4 HR3)
          | (go_at_call 59; refine (HEN.out w.heap.size _ HR4.out).mono ?_; rintro e w5 ⟨rfl, hr5, ho5⟩; have hc2 := rfs_err hr5; have HSF := Lib.hid (bs_only HS4.out ho5 (fun k hk => by have := HN4.out k hk; have := HZ3.out; omega)); have HBL := Lib.hid (HB1.out.trans (Only.to_below (HO4.out.trans ho5) (by simp) (Nat.le_refl _))); clear hr5 ho5))
      refine bodyPost_ret (v := .tuple #[.int .i64 h, .string (strB d), .slice AS s.length cS, .int .i64 0]) (by simp [results, Try.results28, go_sem]) rfl ⟨_, rfl, ?_, HBL.out⟩
      exact HSF.out
    · rw [fin_no (.inl hze)]
      have hzb : (z != 0) = true := by simpa using hze
      clear hze
      go_enter Try.func28, Try.ntmps28
      go_wp2_with (first
          | (go_at_call 57; refine (HI.out w.heap.size _ HR1.out).mono ?_; rintro e w2 ⟨rfl, hr2, ho2⟩; have HR2 := Lib.hid hr2; have HO2 := Lib.hid ho2; clear hr2 ho2)
          | (go_at_call 58; refine (HBA.out w.heap.size _ HR2.out).mono ?_; rintro e w3 ⟨v3, rfl, hd3, hr3, ho3, -⟩; obtain ⟨A3, c3, rfl, -⟩ := hd3.open; have hsw := run_strD hd3; have HR3 := Lib.hid hr3; have HO3 := Lib.hid (HO2.out.trans ho3); have HZ3 := Lib.hid hr3.lt; clear hr3 ho3 hd3 HR2)
          | (go_at_call 58; refine (HBB.out w.heap.size _ HR3.out).mono ?_; rintro e w4 ⟨v4, rfl, hs4, hr4, ho4, hn4⟩; obtain ⟨AS, cS, rfl, -⟩ := hs4.open; have HS4 := Lib.hid hs4; have HR4 := Lib.hid hr4; have HO4 := Lib.hid (HO3.out.trans ho4); have HN4 := Lib.hid hn4; clear hr4 ho4 hs4 hn4 HR3)
          | (go_at_call 59; refine (HEN.out w.heap.size _ HR4.out).mono ?_; rintro e w5 ⟨rfl, hr5, ho5⟩; have hc2 := rfs_err hr5; have HSF := Lib.hid (bs_only HS4.out ho5 (fun k hk => by have := HN4.out k hk; have := HZ3.out; omega)); have HBL := Lib.hid (HB1.out.trans (Only.to_below (HO4.out.trans ho5) (by simp) (Nat.le_refl _))); clear hr5 ho5))
      refine bodyPost_ret (v := .tuple #[.int .i64 0, .string (strB []), .slice none 0 0, .int .i64 12]) (by simp [results, Try.results28, go_sem]; rfl) rfl ⟨_, rfl, Bs.nil _, HBL.out⟩
  exact run _ rfl

set_option maxHeartbeats 4000000 in
theorem LedgerPacks_any (h : Int) (d : List UInt8) (sv : Value) (s : List UInt8) (bv : Value) (x : List UInt8) (w : World) (hs : Bs w sv s) (hb : Bs w bv x) : Calls Try.prog 7 #[.int .i64 h, .agg #[.string (strB d), sv], bv] w (Yes w) := by
  have hsz := strB_size d
  have HS0 := Lib.hid hs
  have HX0 := Lib.hid hb
  obtain ⟨AS, cS, rfl, -⟩ := hs.open
  obtain ⟨AB, cB, rfl, -⟩ := hb.open
  have hB0 := alloc1B w (.cells #[.string (strB d), .slice AS s.length cS] 60)
  have hm0 := heap_alloc_new w (.cells #[.string (strB d), .slice AS s.length cS] 60)
  have HW := Lib.hid (fun W => awake11_any W)
  generalize hw0 : w.alloc (.cells #[.string (strB d), .slice AS s.length cS] 60) = w0 at *
  have HW0 := Lib.hid hw0
  have HB0 := Lib.hid hB0
  have HM0 := Lib.hid hm0
  obtain ⟨p0, p1, p2, p3⟩ := rows2 hm0
  clear hs hb hB0 hm0 hw0
  by_cases h1 : 5000 < d.length
  · have h1I : (5000 : Int) < (d.length : Int) := by omega
    go_enter Try.func7, Try.ntmps7
    go_upto_region 1 with fail
    rw [HW0.out]
    go_wp2
    go_ret
    exact ⟨rfl, HB0.out⟩
  have h1I : ¬ (5000 : Int) < (d.length : Int) := by omega
  by_cases h2 : 5000 < s.length
  · have h2I : (5000 : Int) < (s.length : Int) := by omega
    go_enter Try.func7, Try.ntmps7
    go_upto_region 1 with fail
    rw [HW0.out]
    go_wp2
    go_ret
    exact ⟨rfl, HB0.out⟩
  have h2I : ¬ (5000 : Int) < (s.length : Int) := by omega
  by_cases h3 : 20000 < x.length
  · have h3I : (20000 : Int) < (x.length : Int) := by omega
    go_enter Try.func7, Try.ntmps7
    go_upto_region 1 with fail
    rw [HW0.out]
    go_wp2
    go_ret
    exact ⟨rfl, HB0.out⟩
  have h3I : ¬ (20000 : Int) < (x.length : Int) := by omega
  have HPA := Lib.hid (fun W (hb : Below w.heap.size w W) => lPack_any h d _ s W (HS0.out.below hb (Nat.le_refl _)) (by omega) (by omega))
  have HPD := Lib.hid (fun W (hb : Below w.heap.size w W) => rlPack_any h d _ s W (HS0.out.below hb (Nat.le_refl _)) (by omega) (by omega))
  have HUA := Lib.hid (fun W (hb : Below w.heap.size w W) => lUnpack_any _ x W (HX0.out.below hb (Nat.le_refl _)) (by omega))
  have HUD := Lib.hid (fun W (hb : Below w.heap.size w W) => rlUnpack_any _ x W (HX0.out.below hb (Nat.le_refl _)) (by omega))
  have HSA := Lib.hid (fun W (hb : Below w.heap.size w W) => lSeal_any _ x W (HX0.out.below hb (Nat.le_refl _)) (by omega))
  have HSD := Lib.hid (fun W (hb : Below w.heap.size w W) => rlSeal_any _ x W (HX0.out.below hb (Nat.le_refl _)) (by omega))
  have HSM := Lib.hid (fun (l : List UInt8) u v W (hu : Bs W u l) (hv : Bs W v l) => show Calls Try.prog 29 #[u, v] W fun e w' => e = .returned (.bool true) ∧ W = w' from by
    have h0 := Same_any u v l l W hu hv
    rw [show (l == l) = true by simp] at h0
    exact h0)
  rw [fin_same (by omega)] at HUA
  unfold UnP at HUA HUD
  have HK := Lib.hid (show ∀ W, Below w0.heap.size w0 W → W.cell? ⟨w.heap.size, 0, none⟩ = some (.string (strB d)) ∧ W.cell? ⟨w.heap.size, 1, none⟩ = some (.slice AS s.length cS) from fun W hW => by obtain ⟨e0, e1, -, -⟩ := rows2 (heapB HM0.out hW); exact ⟨e0, e1⟩)
  clear h1 h2 h3
  generalize finL (upD x) = r at *
  obtain ⟨rh, rd, rs, re⟩ := r
  simp only at HUA HUD
  generalize packL h d s = pk at *
  generalize encT 7 [x] = sl at *
  go_enter Try.func7, Try.ntmps7
  go_upto_region 1 with fail
  rw [HW0.out]
  go_wp2_with (first
    | (go_at_call 26; refine (HPA.out _ HB0.out).mono ?_; rintro e w1 ⟨v1, rfl, ho1, hb1⟩; obtain ⟨A1, c1, rfl⟩ := own_slice ho1; have HV1 := Lib.hid (own_bs ho1); have HB1 := Lib.hid hb1; clear ho1 hb1 p0 p1)
    | (go_at_call 27; refine (HUA.out _ (bel2M HB0.out HB1.out)).mono ?_; rintro e w2 ⟨v2, rfl, hs2, hb2⟩; obtain ⟨A2, c2, rfl, -⟩ := hs2.open; have HV2 := Lib.hid hs2; have HB2 := Lib.hid (bel2M HB1.out hb2); have HC2 := Lib.hid hb2; clear hs2 hb2)
    | (go_at_call 28; refine (HUD.out _ (bel2M HB0.out HB2.out)).mono ?_; rintro e w3 ⟨v3, rfl, hs3, hb3⟩; obtain ⟨A3, c3, rfl, -⟩ := hs3.open; have HV3 := Lib.hid hs3; have HB3 := Lib.hid (bel2M HB2.out hb3); have HC3 := Lib.hid hb3; clear hs3 hb3; obtain ⟨p0, p1⟩ := HK.out _ HB3.out)
    | (go_at_call 30; refine (HPD.out _ (bel2M HB0.out HB3.out)).mono ?_; rintro e w4 ⟨v4, rfl, ho4, hb4⟩; obtain ⟨A4, c4, rfl⟩ := own_slice ho4; have HV4 := Lib.hid (own_bs ho4); have HB4 := Lib.hid (bel2M HB3.out hb4); have HC4 := Lib.hid hb4; have HP4 := Lib.hid (((HV1.out.below HC2.out (Nat.le_refl _)).below HC3.out (Nat.le_refl _)).below hb4 (Nat.le_refl _)); have HS4 := Lib.hid ((HV2.out.below HC3.out (Nat.le_refl _)).below hb4 (Nat.le_refl _)); have HT4 := Lib.hid (HV3.out.below hb4 (Nat.le_refl _)); clear ho4 hb4)
    | (go_at_call 29; refine (HSM.out pk _ _ _ HP4.out HV4.out).mono ?_; rintro e wx ⟨rfl, rfl⟩)
    | (go_at_call 29; refine (HSM.out rs _ _ _ HS4.out HT4.out).mono ?_; rintro e wx ⟨rfl, rfl⟩)
    | (go_at_call 31; refine (HSA.out _ (bel2M HB0.out HB4.out)).mono ?_; rintro e w5 ⟨rfl, hb5⟩; have HB5 := Lib.hid (bel2M HB4.out hb5); clear hb5)
    | (go_at_call 32; refine (HSD.out _ (bel2M HB0.out HB5.out)).mono ?_; rintro e w6 ⟨rfl, hb6⟩; have HB6 := Lib.hid (bel2M HB5.out hb6); clear hb6)
    | (go_at_call 14; refine (HW.out _).mono ?_; rintro e wz ⟨rfl, hbz⟩; have HBZ := Lib.hid (bel2M HB6.out hbz); clear hbz))
  go_ret
  exact ⟨rfl, bel2M HB0.out HBZ.out⟩
theorem box3 (w : World) (a b c : Array Value) (t u v : TypeId) : ((((w.alloc (.cells a t)).alloc (.cells b u)).alloc (.cells c v)).heap[w.heap.size]? = some (.cells a t (0, 0)) ∧ (((w.alloc (.cells a t)).alloc (.cells b u)).alloc (.cells c v)).heap[w.heap.size + 1]? = some (.cells b u (0, 0)) ∧ (((w.alloc (.cells a t)).alloc (.cells b u)).alloc (.cells c v)).heap[w.heap.size + 2]? = some (.cells c v (0, 0))) ∧ Below w.heap.size w (((w.alloc (.cells a t)).alloc (.cells b u)).alloc (.cells c v)) := by
  obtain ⟨x1, x2, x3⟩ := box2B w a b t u
  have hz : ((w.alloc (.cells a t)).alloc (.cells b u)).heap.size = w.heap.size + 2 := by rw [World.size_alloc, World.size_alloc]
  have h4 := alloc1B ((w.alloc (.cells a t)).alloc (.cells b u)) (.cells c v)
  have h5 := heap_alloc_new ((w.alloc (.cells a t)).alloc (.cells b u)) (.cells c v)
  rw [hz] at h5
  exact ⟨⟨heapB x1 h4, heapB x2 h4, h5⟩, bel2M x3 h4⟩
theorem seal_iff {m n : Int} {dx dy sx sy : List UInt8} (hm : in64B m) (hn : in64B n) (h0 : dx.length ≤ 5000) (h1 : sx.length ≤ 5000) (h2 : dy.length ≤ 5000) (h3 : sy.length ≤ 5000) : encT 7 [packL m dx sx] = encT 7 [packL n dy sy] → m = n ∧ dx = dy ∧ sx = sy := by
  intro h
  have l1 := packL_len m dx sx
  have l2 := packL_len n dy sy
  have h4 := (encT_inj (by simp) (by intro a ha; rw [List.mem_singleton.1 ha]; omega) (by simp) (by intro a ha; rw [List.mem_singleton.1 ha]; omega) h).2
  injection h4 with h4
  exact packL_inj hm hn (by omega) (by omega) h4
set_option maxHeartbeats 8000000 in
theorem LedgerSeals_any (m n : Int) (dx : List UInt8) (xv : Value) (sx : List UInt8) (dy : List UInt8) (yv : Value) (sy : List UInt8) (w : World) (hx : Bs w xv sx) (hy : Bs w yv sy) (hm : in64B m) (hn : in64B n) : Calls Try.prog 8 #[.agg #[.int .i64 m, .int .i64 n], .agg #[.string (strB dx), xv], .agg #[.string (strB dy), yv]] w (Yes w) := by
  have hsx := strB_size dx
  have hsy := strB_size dy
  have HX0 := Lib.hid hx
  have HY0 := Lib.hid hy
  obtain ⟨AX, cX, rfl, -⟩ := hx.open
  obtain ⟨AY, cY, rfl, -⟩ := hy.open
  obtain ⟨⟨b1, b2, b3⟩, hB0⟩ := box3 w #[.int .i64 m, .int .i64 n] #[.string (strB dx), .slice AX sx.length cX] #[.string (strB dy), .slice AY sy.length cY] 67 60 60
  have HW := Lib.hid (fun W => awake11_any W)
  generalize hw0 : (((w.alloc (.cells #[.int .i64 m, .int .i64 n] 67)).alloc (.cells #[.string (strB dx), .slice AX sx.length cX] 60)).alloc (.cells #[.string (strB dy), .slice AY sy.length cY] 60)) = w0 at *
  have HW0 := Lib.hid hw0
  have HB0 := Lib.hid hB0
  have HK := Lib.hid (show ∀ W, Below w0.heap.size w0 W → (fun W => W.cell? ⟨w.heap.size, 0, none⟩ = some (.int .i64 m) ∧ W.cell? ⟨w.heap.size, 1, none⟩ = some (.int .i64 n) ∧ W.cell? ⟨w.heap.size + 1, 0, none⟩ = some (.string (strB dx)) ∧ W.cell? ⟨w.heap.size + 1, 1, none⟩ = some (.slice AX sx.length cX) ∧ W.cell? ⟨w.heap.size + 2, 0, none⟩ = some (.string (strB dy)) ∧ W.cell? ⟨w.heap.size + 2, 1, none⟩ = some (.slice AY sy.length cY)) W from fun W hW => by obtain ⟨e0, e1, -, -⟩ := rows2 (heapB b1 hW); obtain ⟨e2, e3, -, -⟩ := rows2 (heapB b2 hW); obtain ⟨e4, e5, -, -⟩ := rows2 (heapB b3 hW); exact ⟨e0, e1, e2, e3, e4, e5⟩)
  obtain ⟨p0, p1, p2, p3, p4, p5⟩ := HK.out _ (Below.refl _ _)
  clear hx hy hB0 hw0 b1 b2 b3
  by_cases h0 : 5000 < dx.length
  · have h0I : (5000 : Int) < (dx.length : Int) := by omega
    go_enter Try.func8, Try.ntmps8
    go_upto_region 1 with fail
    rw [HW0.out]
    go_wp2
    go_ret
    exact ⟨rfl, HB0.out⟩
  have h0I : ¬ (5000 : Int) < (dx.length : Int) := by omega
  by_cases h1 : 5000 < sx.length
  · have h1I : (5000 : Int) < (sx.length : Int) := by omega
    go_enter Try.func8, Try.ntmps8
    go_upto_region 1 with fail
    rw [HW0.out]
    go_wp2
    go_ret
    exact ⟨rfl, HB0.out⟩
  have h1I : ¬ (5000 : Int) < (sx.length : Int) := by omega
  by_cases h2 : 5000 < dy.length
  · have h2I : (5000 : Int) < (dy.length : Int) := by omega
    go_enter Try.func8, Try.ntmps8
    go_upto_region 1 with fail
    rw [HW0.out]
    go_wp2
    go_ret
    exact ⟨rfl, HB0.out⟩
  have h2I : ¬ (5000 : Int) < (dy.length : Int) := by omega
  by_cases h3 : 5000 < sy.length
  · have h3I : (5000 : Int) < (sy.length : Int) := by omega
    go_enter Try.func8, Try.ntmps8
    go_upto_region 1 with fail
    rw [HW0.out]
    go_wp2
    go_ret
    exact ⟨rfl, HB0.out⟩
  have h3I : ¬ (5000 : Int) < (sy.length : Int) := by omega
  have HPX := Lib.hid (fun W (hb : Below w.heap.size w W) => lPack_any m dx _ sx W (HX0.out.below hb (Nat.le_refl _)) (by omega) (by omega))
  have HPY := Lib.hid (fun W (hb : Below w.heap.size w W) => lPack_any n dy _ sy W (HY0.out.below hb (Nat.le_refl _)) (by omega) (by omega))
  have l1 := packL_len m dx sx
  have l2 := packL_len n dy sy
  have HUP := Lib.hid (fun v W (hv : Bs W v (packL m dx sx)) => lUnpack_any v (packL m dx sx) W hv (by omega))
  have HSX := Lib.hid (fun v W (hv : Bs W v (packL m dx sx)) => lSeal_any v (packL m dx sx) W hv (by omega))
  have HSY := Lib.hid (fun v W (hv : Bs W v (packL n dy sy)) => lSeal_any v (packL n dy sy) W hv (by omega))
  have hse := seal_iff hm hn (by omega) (by omega) (by omega) (by omega : sy.length ≤ 5000) (dx := dx) (dy := dy) (sx := sx)
  have hsb : (m = n ∧ dx = dy ∧ sx = sy) → encT 7 [packL m dx sx] = encT 7 [packL n dy sy] := fun ⟨e1, e2, e3⟩ => by rw [e1, e2, e3]
  rw [upP_put hm (by omega) (by omega)] at HUP
  unfold UnP at HUP
  have HS1 := Lib.hid (fun u v W (hu : Bs W u sx) (hv : Bs W v sx) => show Calls Try.prog 29 #[u, v] W fun e w' => e = .returned (.bool true) ∧ W = w' from by
    have h0 := Same_any u v sx sx W hu hv
    rw [show (sx == sx) = true by simp] at h0
    exact h0)
  have HS2 := Lib.hid (fun u v W (hu : Bs W u sx) (hv : Bs W v sy) => Same_any u v sx sy W hu hv)
  clear l1 l2 h0 h1 h2 h3 p0 p1 p2 p3 p4 p5
  generalize packL m dx sx = px at *
  generalize packL n dy sy = py at *
  generalize encT 7 [px] = ex at *
  generalize encT 7 [py] = ey at *
  have rest : (sx = sy → m = n → dx = dy → ex = ey) ∧ ((m ≠ n ∨ dx ≠ dy ∨ sx ≠ sy) → ex ≠ ey) := ⟨fun a b c => hsb ⟨b, c, a⟩, fun h e => by obtain ⟨e1, e2, e3⟩ := hse e; rcases h with h | h | h <;> exact h (by assumption)⟩
  clear hse hsb hm hn
  by_cases hm : 0 ≤ m ∧ m ≤ 1099511627776
  · rw [fin_yes hm] at HUP
    obtain ⟨hm1, hm2⟩ := hm
    simp only at HUP
    by_cases e1 : m = n
    · subst e1
      by_cases e2 : dx = dy
      · subst e2
        by_cases e3 : sx = sy
        · have hee : ex = ey := rest.1 e3 rfl rfl
          have hsb : (sx == sy) = true := by simpa using e3
          rw [hsb] at HS2
          subst hee
          clear rest e3 hsb
          obtain ⟨p0, p1, p2, p3, p4, p5⟩ := HK.out _ (Below.refl _ _)
          go_enter Try.func8, Try.ntmps8
          go_upto_region 1 with fail
          rw [HW0.out]
          go_upto_region 3 with fail
          clear p0 p1 p2 p3 p4 p5
          have HBC := Lib.hid (show Below w0.heap.size w0 w0.drew from (Below.refl _ _).drew)
          go_region_held3 (fun W => W.cell? ⟨w.heap.size, 0, none⟩ = some (.int .i64 m) ∧ W.cell? ⟨w.heap.size, 1, none⟩ = some (.int .i64 m) ∧ W.cell? ⟨w.heap.size + 1, 0, none⟩ = some (.string (strB dx)) ∧ W.cell? ⟨w.heap.size + 1, 1, none⟩ = some (.slice AX sx.length cX) ∧ W.cell? ⟨w.heap.size + 2, 0, none⟩ = some (.string (strB dx)) ∧ W.cell? ⟨w.heap.size + 2, 1, none⟩ = some (.slice AY sy.length cY)) (first | exact HK.out _ HBC.out) (fail)
          go_upto_region 4 with fail
          replace HBC := Lib.hid HBC.out.drew
          go_region_held3 (fun W => W.cell? ⟨w.heap.size, 0, none⟩ = some (.int .i64 m) ∧ W.cell? ⟨w.heap.size, 1, none⟩ = some (.int .i64 m) ∧ W.cell? ⟨w.heap.size + 1, 0, none⟩ = some (.string (strB dx)) ∧ W.cell? ⟨w.heap.size + 1, 1, none⟩ = some (.slice AX sx.length cX) ∧ W.cell? ⟨w.heap.size + 2, 0, none⟩ = some (.string (strB dx)) ∧ W.cell? ⟨w.heap.size + 2, 1, none⟩ = some (.slice AY sy.length cY)) (first | exact HK.out _ HBC.out) (first
            | (go_at_call 26; refine (HPX.out _ (bel2M HB0.out HBC.out)).mono ?_; rintro e w1 ⟨v1, rfl, ho1, hb1⟩; obtain ⟨A1, c1, rfl⟩ := own_slice ho1; have HV1 := Lib.hid (own_bs ho1); replace HBC := Lib.hid (bel2M HBC.out hb1); clear ho1 hb1 HPX)
            | (go_at_call 26; refine (HPY.out _ (bel2M HB0.out HBC.out)).mono ?_; rintro e w2 ⟨v2, rfl, ho2, hb2⟩; obtain ⟨A2, c2, rfl⟩ := own_slice ho2; have HV2 := Lib.hid (own_bs ho2); have HW1 := Lib.hid (HV1.out.below hb2 (Nat.le_refl _)); replace HBC := Lib.hid (bel2M HBC.out hb2); clear ho2 hb2))
          go_wp2_with (first
            | (go_at_call 27; refine (HUP.out _ _ HW1.out).mono ?_; rintro e w3 ⟨v3, rfl, hs3, hb3⟩; obtain ⟨A3, c3, rfl, -⟩ := hs3.open; have HV3 := Lib.hid hs3; have HX3 := Lib.hid (HW1.out.below hb3 (Nat.le_refl _)); have HY3 := Lib.hid (HV2.out.below hb3 (Nat.le_refl _)); replace HBC := Lib.hid (bel2M HBC.out hb3); clear hs3 hb3; obtain ⟨-, -, p2, p3, p4, p5⟩ := HK.out _ HBC.out)
            | (go_at_call 29; refine (HS1.out _ _ _ HV3.out ((HX0.out.below HB0.out (Nat.le_refl _)).below HBC.out (Nat.le_refl _))).mono ?_; rintro e wx ⟨rfl, rfl⟩; clear HS1)
            | (go_at_call 29; refine (HS2.out _ _ _ ((HX0.out.below HB0.out (Nat.le_refl _)).below HBC.out (Nat.le_refl _)) ((HY0.out.below HB0.out (Nat.le_refl _)).below HBC.out (Nat.le_refl _))).mono ?_; rintro e wx ⟨rfl, rfl⟩)
            | (go_at_call 31; refine (HSX.out _ _ HX3.out).mono ?_; rintro e w4 ⟨rfl, hb4⟩; have HY4 := Lib.hid (HY3.out.below hb4 (Nat.le_refl _)); replace HBC := Lib.hid (bel2M HBC.out hb4); clear hb4 HX3 p2 p3 p4 p5; obtain ⟨-, -, p2, p3, p4, p5⟩ := HK.out _ HBC.out)
            | (go_at_call 31; refine (HSY.out _ _ HY4.out).mono ?_; rintro e w5 ⟨rfl, hb5⟩; replace HBC := Lib.hid (bel2M HBC.out hb5); clear hb5 p2 p3 p4 p5; obtain ⟨-, -, p2, p3, p4, p5⟩ := HK.out _ HBC.out)
            | (go_at_call 14; refine (HW.out _).mono ?_; rintro e wz ⟨rfl, hbz⟩; have HBZ := Lib.hid (bel2M HBC.out hbz); clear hbz))
          go_ret
          exact ⟨rfl, bel2M HB0.out HBZ.out⟩
        · have hne := strB_ne (rest.2 (.inr (.inr e3)))
          have hsb : (sx == sy) = false := by simpa using e3
          rw [hsb] at HS2
          clear rest e3 hsb
          obtain ⟨p0, p1, p2, p3, p4, p5⟩ := HK.out _ (Below.refl _ _)
          go_enter Try.func8, Try.ntmps8
          go_upto_region 1 with fail
          rw [HW0.out]
          go_upto_region 3 with fail
          clear p0 p1 p2 p3 p4 p5
          have HBC := Lib.hid (show Below w0.heap.size w0 w0.drew from (Below.refl _ _).drew)
          go_region_held3 (fun W => W.cell? ⟨w.heap.size, 0, none⟩ = some (.int .i64 m) ∧ W.cell? ⟨w.heap.size, 1, none⟩ = some (.int .i64 m) ∧ W.cell? ⟨w.heap.size + 1, 0, none⟩ = some (.string (strB dx)) ∧ W.cell? ⟨w.heap.size + 1, 1, none⟩ = some (.slice AX sx.length cX) ∧ W.cell? ⟨w.heap.size + 2, 0, none⟩ = some (.string (strB dx)) ∧ W.cell? ⟨w.heap.size + 2, 1, none⟩ = some (.slice AY sy.length cY)) (first | exact HK.out _ HBC.out) (fail)
          go_upto_region 4 with fail
          replace HBC := Lib.hid HBC.out.drew
          go_region_held3 (fun W => W.cell? ⟨w.heap.size, 0, none⟩ = some (.int .i64 m) ∧ W.cell? ⟨w.heap.size, 1, none⟩ = some (.int .i64 m) ∧ W.cell? ⟨w.heap.size + 1, 0, none⟩ = some (.string (strB dx)) ∧ W.cell? ⟨w.heap.size + 1, 1, none⟩ = some (.slice AX sx.length cX) ∧ W.cell? ⟨w.heap.size + 2, 0, none⟩ = some (.string (strB dx)) ∧ W.cell? ⟨w.heap.size + 2, 1, none⟩ = some (.slice AY sy.length cY)) (first | exact HK.out _ HBC.out) (first
            | (go_at_call 26; refine (HPX.out _ (bel2M HB0.out HBC.out)).mono ?_; rintro e w1 ⟨v1, rfl, ho1, hb1⟩; obtain ⟨A1, c1, rfl⟩ := own_slice ho1; have HV1 := Lib.hid (own_bs ho1); replace HBC := Lib.hid (bel2M HBC.out hb1); clear ho1 hb1 HPX)
            | (go_at_call 26; refine (HPY.out _ (bel2M HB0.out HBC.out)).mono ?_; rintro e w2 ⟨v2, rfl, ho2, hb2⟩; obtain ⟨A2, c2, rfl⟩ := own_slice ho2; have HV2 := Lib.hid (own_bs ho2); have HW1 := Lib.hid (HV1.out.below hb2 (Nat.le_refl _)); replace HBC := Lib.hid (bel2M HBC.out hb2); clear ho2 hb2))
          go_wp2_with (first
            | (go_at_call 27; refine (HUP.out _ _ HW1.out).mono ?_; rintro e w3 ⟨v3, rfl, hs3, hb3⟩; obtain ⟨A3, c3, rfl, -⟩ := hs3.open; have HV3 := Lib.hid hs3; have HX3 := Lib.hid (HW1.out.below hb3 (Nat.le_refl _)); have HY3 := Lib.hid (HV2.out.below hb3 (Nat.le_refl _)); replace HBC := Lib.hid (bel2M HBC.out hb3); clear hs3 hb3; obtain ⟨-, -, p2, p3, p4, p5⟩ := HK.out _ HBC.out)
            | (go_at_call 29; refine (HS1.out _ _ _ HV3.out ((HX0.out.below HB0.out (Nat.le_refl _)).below HBC.out (Nat.le_refl _))).mono ?_; rintro e wx ⟨rfl, rfl⟩; clear HS1)
            | (go_at_call 29; refine (HS2.out _ _ _ ((HX0.out.below HB0.out (Nat.le_refl _)).below HBC.out (Nat.le_refl _)) ((HY0.out.below HB0.out (Nat.le_refl _)).below HBC.out (Nat.le_refl _))).mono ?_; rintro e wx ⟨rfl, rfl⟩)
            | (go_at_call 31; refine (HSX.out _ _ HX3.out).mono ?_; rintro e w4 ⟨rfl, hb4⟩; have HY4 := Lib.hid (HY3.out.below hb4 (Nat.le_refl _)); replace HBC := Lib.hid (bel2M HBC.out hb4); clear hb4 HX3 p2 p3 p4 p5; obtain ⟨-, -, p2, p3, p4, p5⟩ := HK.out _ HBC.out)
            | (go_at_call 31; refine (HSY.out _ _ HY4.out).mono ?_; rintro e w5 ⟨rfl, hb5⟩; replace HBC := Lib.hid (bel2M HBC.out hb5); clear hb5 p2 p3 p4 p5; obtain ⟨-, -, p2, p3, p4, p5⟩ := HK.out _ HBC.out)
            | (go_at_call 14; refine (HW.out _).mono ?_; rintro e wz ⟨rfl, hbz⟩; have HBZ := Lib.hid (bel2M HBC.out hbz); clear hbz))
          go_ret
          exact ⟨rfl, bel2M HB0.out HBZ.out⟩
      · have hne := strB_ne (rest.2 (.inr (.inl e2)))
        have hnd := strB_ne e2
        clear rest e2
        obtain ⟨p0, p1, p2, p3, p4, p5⟩ := HK.out _ (Below.refl _ _)
        go_enter Try.func8, Try.ntmps8
        go_upto_region 1 with fail
        rw [HW0.out]
        go_upto_region 3 with fail
        clear p0 p1 p2 p3 p4 p5
        have HBC := Lib.hid (show Below w0.heap.size w0 w0.drew from (Below.refl _ _).drew)
        go_region_held3 (fun W => W.cell? ⟨w.heap.size, 0, none⟩ = some (.int .i64 m) ∧ W.cell? ⟨w.heap.size, 1, none⟩ = some (.int .i64 m) ∧ W.cell? ⟨w.heap.size + 1, 0, none⟩ = some (.string (strB dx)) ∧ W.cell? ⟨w.heap.size + 1, 1, none⟩ = some (.slice AX sx.length cX) ∧ W.cell? ⟨w.heap.size + 2, 0, none⟩ = some (.string (strB dy)) ∧ W.cell? ⟨w.heap.size + 2, 1, none⟩ = some (.slice AY sy.length cY)) (first | exact HK.out _ HBC.out) (fail)
        go_upto_region 4 with fail
        replace HBC := Lib.hid HBC.out.drew
        go_region_held3 (fun W => W.cell? ⟨w.heap.size, 0, none⟩ = some (.int .i64 m) ∧ W.cell? ⟨w.heap.size, 1, none⟩ = some (.int .i64 m) ∧ W.cell? ⟨w.heap.size + 1, 0, none⟩ = some (.string (strB dx)) ∧ W.cell? ⟨w.heap.size + 1, 1, none⟩ = some (.slice AX sx.length cX) ∧ W.cell? ⟨w.heap.size + 2, 0, none⟩ = some (.string (strB dy)) ∧ W.cell? ⟨w.heap.size + 2, 1, none⟩ = some (.slice AY sy.length cY)) (first | exact HK.out _ HBC.out) (first
          | (go_at_call 26; refine (HPX.out _ (bel2M HB0.out HBC.out)).mono ?_; rintro e w1 ⟨v1, rfl, ho1, hb1⟩; obtain ⟨A1, c1, rfl⟩ := own_slice ho1; have HV1 := Lib.hid (own_bs ho1); replace HBC := Lib.hid (bel2M HBC.out hb1); clear ho1 hb1 HPX)
          | (go_at_call 26; refine (HPY.out _ (bel2M HB0.out HBC.out)).mono ?_; rintro e w2 ⟨v2, rfl, ho2, hb2⟩; obtain ⟨A2, c2, rfl⟩ := own_slice ho2; have HV2 := Lib.hid (own_bs ho2); have HW1 := Lib.hid (HV1.out.below hb2 (Nat.le_refl _)); replace HBC := Lib.hid (bel2M HBC.out hb2); clear ho2 hb2))
        go_wp2_with (first
          | (go_at_call 27; refine (HUP.out _ _ HW1.out).mono ?_; rintro e w3 ⟨v3, rfl, hs3, hb3⟩; obtain ⟨A3, c3, rfl, -⟩ := hs3.open; have HV3 := Lib.hid hs3; have HX3 := Lib.hid (HW1.out.below hb3 (Nat.le_refl _)); have HY3 := Lib.hid (HV2.out.below hb3 (Nat.le_refl _)); replace HBC := Lib.hid (bel2M HBC.out hb3); clear hs3 hb3; obtain ⟨-, -, p2, p3, p4, p5⟩ := HK.out _ HBC.out)
          | (go_at_call 29; refine (HS1.out _ _ _ HV3.out ((HX0.out.below HB0.out (Nat.le_refl _)).below HBC.out (Nat.le_refl _))).mono ?_; rintro e wx ⟨rfl, rfl⟩; clear HS1)
          | (go_at_call 31; refine (HSX.out _ _ HX3.out).mono ?_; rintro e w4 ⟨rfl, hb4⟩; have HY4 := Lib.hid (HY3.out.below hb4 (Nat.le_refl _)); replace HBC := Lib.hid (bel2M HBC.out hb4); clear hb4 HX3 p2 p3 p4 p5; obtain ⟨-, -, p2, p3, p4, p5⟩ := HK.out _ HBC.out)
          | (go_at_call 31; refine (HSY.out _ _ HY4.out).mono ?_; rintro e w5 ⟨rfl, hb5⟩; replace HBC := Lib.hid (bel2M HBC.out hb5); clear hb5 p2 p3 p4 p5; obtain ⟨-, -, p2, p3, p4, p5⟩ := HK.out _ HBC.out)
          | (go_at_call 14; refine (HW.out _).mono ?_; rintro e wz ⟨rfl, hbz⟩; have HBZ := Lib.hid (bel2M HBC.out hbz); clear hbz))
        go_ret
        exact ⟨rfl, bel2M HB0.out HBZ.out⟩
    · have hne := strB_ne (rest.2 (.inl e1))
      have hmn : (m == n) = false := by simpa using e1
      clear rest e1
      obtain ⟨p0, p1, p2, p3, p4, p5⟩ := HK.out _ (Below.refl _ _)
      go_enter Try.func8, Try.ntmps8
      go_upto_region 1 with fail
      rw [HW0.out]
      go_upto_region 3 with fail
      clear p0 p1 p2 p3 p4 p5
      have HBC := Lib.hid (show Below w0.heap.size w0 w0.drew from (Below.refl _ _).drew)
      go_region_held3 (fun W => W.cell? ⟨w.heap.size, 0, none⟩ = some (.int .i64 m) ∧ W.cell? ⟨w.heap.size, 1, none⟩ = some (.int .i64 n) ∧ W.cell? ⟨w.heap.size + 1, 0, none⟩ = some (.string (strB dx)) ∧ W.cell? ⟨w.heap.size + 1, 1, none⟩ = some (.slice AX sx.length cX) ∧ W.cell? ⟨w.heap.size + 2, 0, none⟩ = some (.string (strB dy)) ∧ W.cell? ⟨w.heap.size + 2, 1, none⟩ = some (.slice AY sy.length cY)) (first | exact HK.out _ HBC.out) (fail)
      go_upto_region 4 with fail
      replace HBC := Lib.hid HBC.out.drew
      go_region_held3 (fun W => W.cell? ⟨w.heap.size, 0, none⟩ = some (.int .i64 m) ∧ W.cell? ⟨w.heap.size, 1, none⟩ = some (.int .i64 n) ∧ W.cell? ⟨w.heap.size + 1, 0, none⟩ = some (.string (strB dx)) ∧ W.cell? ⟨w.heap.size + 1, 1, none⟩ = some (.slice AX sx.length cX) ∧ W.cell? ⟨w.heap.size + 2, 0, none⟩ = some (.string (strB dy)) ∧ W.cell? ⟨w.heap.size + 2, 1, none⟩ = some (.slice AY sy.length cY)) (first | exact HK.out _ HBC.out) (first
        | (go_at_call 26; refine (HPX.out _ (bel2M HB0.out HBC.out)).mono ?_; rintro e w1 ⟨v1, rfl, ho1, hb1⟩; obtain ⟨A1, c1, rfl⟩ := own_slice ho1; have HV1 := Lib.hid (own_bs ho1); replace HBC := Lib.hid (bel2M HBC.out hb1); clear ho1 hb1 HPX)
        | (go_at_call 26; refine (HPY.out _ (bel2M HB0.out HBC.out)).mono ?_; rintro e w2 ⟨v2, rfl, ho2, hb2⟩; obtain ⟨A2, c2, rfl⟩ := own_slice ho2; have HV2 := Lib.hid (own_bs ho2); have HW1 := Lib.hid (HV1.out.below hb2 (Nat.le_refl _)); replace HBC := Lib.hid (bel2M HBC.out hb2); clear ho2 hb2))
      go_wp2_with (first
        | (go_at_call 27; refine (HUP.out _ _ HW1.out).mono ?_; rintro e w3 ⟨v3, rfl, hs3, hb3⟩; obtain ⟨A3, c3, rfl, -⟩ := hs3.open; have HV3 := Lib.hid hs3; have HX3 := Lib.hid (HW1.out.below hb3 (Nat.le_refl _)); have HY3 := Lib.hid (HV2.out.below hb3 (Nat.le_refl _)); replace HBC := Lib.hid (bel2M HBC.out hb3); clear hs3 hb3; obtain ⟨-, -, p2, p3, p4, p5⟩ := HK.out _ HBC.out)
        | (go_at_call 29; refine (HS1.out _ _ _ HV3.out ((HX0.out.below HB0.out (Nat.le_refl _)).below HBC.out (Nat.le_refl _))).mono ?_; rintro e wx ⟨rfl, rfl⟩; clear HS1)
        | (go_at_call 31; refine (HSX.out _ _ HX3.out).mono ?_; rintro e w4 ⟨rfl, hb4⟩; have HY4 := Lib.hid (HY3.out.below hb4 (Nat.le_refl _)); replace HBC := Lib.hid (bel2M HBC.out hb4); clear hb4 HX3 p2 p3 p4 p5; obtain ⟨-, -, p2, p3, p4, p5⟩ := HK.out _ HBC.out)
        | (go_at_call 31; refine (HSY.out _ _ HY4.out).mono ?_; rintro e w5 ⟨rfl, hb5⟩; replace HBC := Lib.hid (bel2M HBC.out hb5); clear hb5 p2 p3 p4 p5; obtain ⟨-, -, p2, p3, p4, p5⟩ := HK.out _ HBC.out)
        | (go_at_call 14; refine (HW.out _).mono ?_; rintro e wz ⟨rfl, hbz⟩; have HBZ := Lib.hid (bel2M HBC.out hbz); clear hbz))
      go_ret
      exact ⟨rfl, bel2M HB0.out HBZ.out⟩
  · rw [fin_no (.inr hm)] at HUP
    simp only at HUP
    by_cases hm1 : 0 ≤ m
    · have hm2 : ¬ m ≤ 1099511627776 := fun h => hm ⟨hm1, h⟩
      clear hm
      by_cases e1 : m = n
      · subst e1
        by_cases e2 : dx = dy
        · subst e2
          by_cases e3 : sx = sy
          · have hee : ex = ey := rest.1 e3 rfl rfl
            have hsb : (sx == sy) = true := by simpa using e3
            rw [hsb] at HS2
            subst hee
            clear rest e3 hsb
            obtain ⟨p0, p1, p2, p3, p4, p5⟩ := HK.out _ (Below.refl _ _)
            go_enter Try.func8, Try.ntmps8
            go_upto_region 1 with fail
            rw [HW0.out]
            go_upto_region 3 with fail
            clear p0 p1 p2 p3 p4 p5
            have HBC := Lib.hid (show Below w0.heap.size w0 w0.drew from (Below.refl _ _).drew)
            go_region_held3 (fun W => W.cell? ⟨w.heap.size, 0, none⟩ = some (.int .i64 m) ∧ W.cell? ⟨w.heap.size, 1, none⟩ = some (.int .i64 m) ∧ W.cell? ⟨w.heap.size + 1, 0, none⟩ = some (.string (strB dx)) ∧ W.cell? ⟨w.heap.size + 1, 1, none⟩ = some (.slice AX sx.length cX) ∧ W.cell? ⟨w.heap.size + 2, 0, none⟩ = some (.string (strB dx)) ∧ W.cell? ⟨w.heap.size + 2, 1, none⟩ = some (.slice AY sy.length cY)) (first | exact HK.out _ HBC.out) (fail)
            go_upto_region 4 with fail
            replace HBC := Lib.hid HBC.out.drew
            go_region_held3 (fun W => W.cell? ⟨w.heap.size, 0, none⟩ = some (.int .i64 m) ∧ W.cell? ⟨w.heap.size, 1, none⟩ = some (.int .i64 m) ∧ W.cell? ⟨w.heap.size + 1, 0, none⟩ = some (.string (strB dx)) ∧ W.cell? ⟨w.heap.size + 1, 1, none⟩ = some (.slice AX sx.length cX) ∧ W.cell? ⟨w.heap.size + 2, 0, none⟩ = some (.string (strB dx)) ∧ W.cell? ⟨w.heap.size + 2, 1, none⟩ = some (.slice AY sy.length cY)) (first | exact HK.out _ HBC.out) (first
              | (go_at_call 26; refine (HPX.out _ (bel2M HB0.out HBC.out)).mono ?_; rintro e w1 ⟨v1, rfl, ho1, hb1⟩; obtain ⟨A1, c1, rfl⟩ := own_slice ho1; have HV1 := Lib.hid (own_bs ho1); replace HBC := Lib.hid (bel2M HBC.out hb1); clear ho1 hb1 HPX)
              | (go_at_call 26; refine (HPY.out _ (bel2M HB0.out HBC.out)).mono ?_; rintro e w2 ⟨v2, rfl, ho2, hb2⟩; obtain ⟨A2, c2, rfl⟩ := own_slice ho2; have HV2 := Lib.hid (own_bs ho2); have HW1 := Lib.hid (HV1.out.below hb2 (Nat.le_refl _)); replace HBC := Lib.hid (bel2M HBC.out hb2); clear ho2 hb2))
            go_wp2_with (first
              | (go_at_call 27; refine (HUP.out _ _ HW1.out).mono ?_; rintro e w3 ⟨v3, rfl, hs3, hb3⟩; obtain ⟨A3, c3, rfl, -⟩ := hs3.open; have HV3 := Lib.hid hs3; have HX3 := Lib.hid (HW1.out.below hb3 (Nat.le_refl _)); have HY3 := Lib.hid (HV2.out.below hb3 (Nat.le_refl _)); replace HBC := Lib.hid (bel2M HBC.out hb3); clear hs3 hb3; obtain ⟨-, -, p2, p3, p4, p5⟩ := HK.out _ HBC.out)
              | (go_at_call 29; refine (HS2.out _ _ _ ((HX0.out.below HB0.out (Nat.le_refl _)).below HBC.out (Nat.le_refl _)) ((HY0.out.below HB0.out (Nat.le_refl _)).below HBC.out (Nat.le_refl _))).mono ?_; rintro e wx ⟨rfl, rfl⟩)
              | (go_at_call 31; refine (HSX.out _ _ HX3.out).mono ?_; rintro e w4 ⟨rfl, hb4⟩; have HY4 := Lib.hid (HY3.out.below hb4 (Nat.le_refl _)); replace HBC := Lib.hid (bel2M HBC.out hb4); clear hb4 HX3 p2 p3 p4 p5; obtain ⟨-, -, p2, p3, p4, p5⟩ := HK.out _ HBC.out)
              | (go_at_call 31; refine (HSY.out _ _ HY4.out).mono ?_; rintro e w5 ⟨rfl, hb5⟩; replace HBC := Lib.hid (bel2M HBC.out hb5); clear hb5 p2 p3 p4 p5; obtain ⟨-, -, p2, p3, p4, p5⟩ := HK.out _ HBC.out)
              | (go_at_call 14; refine (HW.out _).mono ?_; rintro e wz ⟨rfl, hbz⟩; have HBZ := Lib.hid (bel2M HBC.out hbz); clear hbz))
            go_ret
            exact ⟨rfl, bel2M HB0.out HBZ.out⟩
          · have hne := strB_ne (rest.2 (.inr (.inr e3)))
            have hsb : (sx == sy) = false := by simpa using e3
            rw [hsb] at HS2
            clear rest e3 hsb
            obtain ⟨p0, p1, p2, p3, p4, p5⟩ := HK.out _ (Below.refl _ _)
            go_enter Try.func8, Try.ntmps8
            go_upto_region 1 with fail
            rw [HW0.out]
            go_upto_region 3 with fail
            clear p0 p1 p2 p3 p4 p5
            have HBC := Lib.hid (show Below w0.heap.size w0 w0.drew from (Below.refl _ _).drew)
            go_region_held3 (fun W => W.cell? ⟨w.heap.size, 0, none⟩ = some (.int .i64 m) ∧ W.cell? ⟨w.heap.size, 1, none⟩ = some (.int .i64 m) ∧ W.cell? ⟨w.heap.size + 1, 0, none⟩ = some (.string (strB dx)) ∧ W.cell? ⟨w.heap.size + 1, 1, none⟩ = some (.slice AX sx.length cX) ∧ W.cell? ⟨w.heap.size + 2, 0, none⟩ = some (.string (strB dx)) ∧ W.cell? ⟨w.heap.size + 2, 1, none⟩ = some (.slice AY sy.length cY)) (first | exact HK.out _ HBC.out) (fail)
            go_upto_region 4 with fail
            replace HBC := Lib.hid HBC.out.drew
            go_region_held3 (fun W => W.cell? ⟨w.heap.size, 0, none⟩ = some (.int .i64 m) ∧ W.cell? ⟨w.heap.size, 1, none⟩ = some (.int .i64 m) ∧ W.cell? ⟨w.heap.size + 1, 0, none⟩ = some (.string (strB dx)) ∧ W.cell? ⟨w.heap.size + 1, 1, none⟩ = some (.slice AX sx.length cX) ∧ W.cell? ⟨w.heap.size + 2, 0, none⟩ = some (.string (strB dx)) ∧ W.cell? ⟨w.heap.size + 2, 1, none⟩ = some (.slice AY sy.length cY)) (first | exact HK.out _ HBC.out) (first
              | (go_at_call 26; refine (HPX.out _ (bel2M HB0.out HBC.out)).mono ?_; rintro e w1 ⟨v1, rfl, ho1, hb1⟩; obtain ⟨A1, c1, rfl⟩ := own_slice ho1; have HV1 := Lib.hid (own_bs ho1); replace HBC := Lib.hid (bel2M HBC.out hb1); clear ho1 hb1 HPX)
              | (go_at_call 26; refine (HPY.out _ (bel2M HB0.out HBC.out)).mono ?_; rintro e w2 ⟨v2, rfl, ho2, hb2⟩; obtain ⟨A2, c2, rfl⟩ := own_slice ho2; have HV2 := Lib.hid (own_bs ho2); have HW1 := Lib.hid (HV1.out.below hb2 (Nat.le_refl _)); replace HBC := Lib.hid (bel2M HBC.out hb2); clear ho2 hb2))
            go_wp2_with (first
              | (go_at_call 27; refine (HUP.out _ _ HW1.out).mono ?_; rintro e w3 ⟨v3, rfl, hs3, hb3⟩; obtain ⟨A3, c3, rfl, -⟩ := hs3.open; have HV3 := Lib.hid hs3; have HX3 := Lib.hid (HW1.out.below hb3 (Nat.le_refl _)); have HY3 := Lib.hid (HV2.out.below hb3 (Nat.le_refl _)); replace HBC := Lib.hid (bel2M HBC.out hb3); clear hs3 hb3; obtain ⟨-, -, p2, p3, p4, p5⟩ := HK.out _ HBC.out)
              | (go_at_call 29; refine (HS2.out _ _ _ ((HX0.out.below HB0.out (Nat.le_refl _)).below HBC.out (Nat.le_refl _)) ((HY0.out.below HB0.out (Nat.le_refl _)).below HBC.out (Nat.le_refl _))).mono ?_; rintro e wx ⟨rfl, rfl⟩)
              | (go_at_call 31; refine (HSX.out _ _ HX3.out).mono ?_; rintro e w4 ⟨rfl, hb4⟩; have HY4 := Lib.hid (HY3.out.below hb4 (Nat.le_refl _)); replace HBC := Lib.hid (bel2M HBC.out hb4); clear hb4 HX3 p2 p3 p4 p5; obtain ⟨-, -, p2, p3, p4, p5⟩ := HK.out _ HBC.out)
              | (go_at_call 31; refine (HSY.out _ _ HY4.out).mono ?_; rintro e w5 ⟨rfl, hb5⟩; replace HBC := Lib.hid (bel2M HBC.out hb5); clear hb5 p2 p3 p4 p5; obtain ⟨-, -, p2, p3, p4, p5⟩ := HK.out _ HBC.out)
              | (go_at_call 14; refine (HW.out _).mono ?_; rintro e wz ⟨rfl, hbz⟩; have HBZ := Lib.hid (bel2M HBC.out hbz); clear hbz))
            go_ret
            exact ⟨rfl, bel2M HB0.out HBZ.out⟩
        · have hne := strB_ne (rest.2 (.inr (.inl e2)))
          have hnd := strB_ne e2
          clear rest e2
          obtain ⟨p0, p1, p2, p3, p4, p5⟩ := HK.out _ (Below.refl _ _)
          go_enter Try.func8, Try.ntmps8
          go_upto_region 1 with fail
          rw [HW0.out]
          go_upto_region 3 with fail
          clear p0 p1 p2 p3 p4 p5
          have HBC := Lib.hid (show Below w0.heap.size w0 w0.drew from (Below.refl _ _).drew)
          go_region_held3 (fun W => W.cell? ⟨w.heap.size, 0, none⟩ = some (.int .i64 m) ∧ W.cell? ⟨w.heap.size, 1, none⟩ = some (.int .i64 m) ∧ W.cell? ⟨w.heap.size + 1, 0, none⟩ = some (.string (strB dx)) ∧ W.cell? ⟨w.heap.size + 1, 1, none⟩ = some (.slice AX sx.length cX) ∧ W.cell? ⟨w.heap.size + 2, 0, none⟩ = some (.string (strB dy)) ∧ W.cell? ⟨w.heap.size + 2, 1, none⟩ = some (.slice AY sy.length cY)) (first | exact HK.out _ HBC.out) (fail)
          go_upto_region 4 with fail
          replace HBC := Lib.hid HBC.out.drew
          go_region_held3 (fun W => W.cell? ⟨w.heap.size, 0, none⟩ = some (.int .i64 m) ∧ W.cell? ⟨w.heap.size, 1, none⟩ = some (.int .i64 m) ∧ W.cell? ⟨w.heap.size + 1, 0, none⟩ = some (.string (strB dx)) ∧ W.cell? ⟨w.heap.size + 1, 1, none⟩ = some (.slice AX sx.length cX) ∧ W.cell? ⟨w.heap.size + 2, 0, none⟩ = some (.string (strB dy)) ∧ W.cell? ⟨w.heap.size + 2, 1, none⟩ = some (.slice AY sy.length cY)) (first | exact HK.out _ HBC.out) (first
            | (go_at_call 26; refine (HPX.out _ (bel2M HB0.out HBC.out)).mono ?_; rintro e w1 ⟨v1, rfl, ho1, hb1⟩; obtain ⟨A1, c1, rfl⟩ := own_slice ho1; have HV1 := Lib.hid (own_bs ho1); replace HBC := Lib.hid (bel2M HBC.out hb1); clear ho1 hb1 HPX)
            | (go_at_call 26; refine (HPY.out _ (bel2M HB0.out HBC.out)).mono ?_; rintro e w2 ⟨v2, rfl, ho2, hb2⟩; obtain ⟨A2, c2, rfl⟩ := own_slice ho2; have HV2 := Lib.hid (own_bs ho2); have HW1 := Lib.hid (HV1.out.below hb2 (Nat.le_refl _)); replace HBC := Lib.hid (bel2M HBC.out hb2); clear ho2 hb2))
          go_wp2_with (first
            | (go_at_call 27; refine (HUP.out _ _ HW1.out).mono ?_; rintro e w3 ⟨v3, rfl, hs3, hb3⟩; obtain ⟨A3, c3, rfl, -⟩ := hs3.open; have HV3 := Lib.hid hs3; have HX3 := Lib.hid (HW1.out.below hb3 (Nat.le_refl _)); have HY3 := Lib.hid (HV2.out.below hb3 (Nat.le_refl _)); replace HBC := Lib.hid (bel2M HBC.out hb3); clear hs3 hb3; obtain ⟨-, -, p2, p3, p4, p5⟩ := HK.out _ HBC.out)
            | (go_at_call 31; refine (HSX.out _ _ HX3.out).mono ?_; rintro e w4 ⟨rfl, hb4⟩; have HY4 := Lib.hid (HY3.out.below hb4 (Nat.le_refl _)); replace HBC := Lib.hid (bel2M HBC.out hb4); clear hb4 HX3 p2 p3 p4 p5; obtain ⟨-, -, p2, p3, p4, p5⟩ := HK.out _ HBC.out)
            | (go_at_call 31; refine (HSY.out _ _ HY4.out).mono ?_; rintro e w5 ⟨rfl, hb5⟩; replace HBC := Lib.hid (bel2M HBC.out hb5); clear hb5 p2 p3 p4 p5; obtain ⟨-, -, p2, p3, p4, p5⟩ := HK.out _ HBC.out)
            | (go_at_call 14; refine (HW.out _).mono ?_; rintro e wz ⟨rfl, hbz⟩; have HBZ := Lib.hid (bel2M HBC.out hbz); clear hbz))
          go_ret
          exact ⟨rfl, bel2M HB0.out HBZ.out⟩
      · have hne := strB_ne (rest.2 (.inl e1))
        have hmn : (m == n) = false := by simpa using e1
        clear rest e1
        obtain ⟨p0, p1, p2, p3, p4, p5⟩ := HK.out _ (Below.refl _ _)
        go_enter Try.func8, Try.ntmps8
        go_upto_region 1 with fail
        rw [HW0.out]
        go_upto_region 3 with fail
        clear p0 p1 p2 p3 p4 p5
        have HBC := Lib.hid (show Below w0.heap.size w0 w0.drew from (Below.refl _ _).drew)
        go_region_held3 (fun W => W.cell? ⟨w.heap.size, 0, none⟩ = some (.int .i64 m) ∧ W.cell? ⟨w.heap.size, 1, none⟩ = some (.int .i64 n) ∧ W.cell? ⟨w.heap.size + 1, 0, none⟩ = some (.string (strB dx)) ∧ W.cell? ⟨w.heap.size + 1, 1, none⟩ = some (.slice AX sx.length cX) ∧ W.cell? ⟨w.heap.size + 2, 0, none⟩ = some (.string (strB dy)) ∧ W.cell? ⟨w.heap.size + 2, 1, none⟩ = some (.slice AY sy.length cY)) (first | exact HK.out _ HBC.out) (fail)
        go_upto_region 4 with fail
        replace HBC := Lib.hid HBC.out.drew
        go_region_held3 (fun W => W.cell? ⟨w.heap.size, 0, none⟩ = some (.int .i64 m) ∧ W.cell? ⟨w.heap.size, 1, none⟩ = some (.int .i64 n) ∧ W.cell? ⟨w.heap.size + 1, 0, none⟩ = some (.string (strB dx)) ∧ W.cell? ⟨w.heap.size + 1, 1, none⟩ = some (.slice AX sx.length cX) ∧ W.cell? ⟨w.heap.size + 2, 0, none⟩ = some (.string (strB dy)) ∧ W.cell? ⟨w.heap.size + 2, 1, none⟩ = some (.slice AY sy.length cY)) (first | exact HK.out _ HBC.out) (first
          | (go_at_call 26; refine (HPX.out _ (bel2M HB0.out HBC.out)).mono ?_; rintro e w1 ⟨v1, rfl, ho1, hb1⟩; obtain ⟨A1, c1, rfl⟩ := own_slice ho1; have HV1 := Lib.hid (own_bs ho1); replace HBC := Lib.hid (bel2M HBC.out hb1); clear ho1 hb1 HPX)
          | (go_at_call 26; refine (HPY.out _ (bel2M HB0.out HBC.out)).mono ?_; rintro e w2 ⟨v2, rfl, ho2, hb2⟩; obtain ⟨A2, c2, rfl⟩ := own_slice ho2; have HV2 := Lib.hid (own_bs ho2); have HW1 := Lib.hid (HV1.out.below hb2 (Nat.le_refl _)); replace HBC := Lib.hid (bel2M HBC.out hb2); clear ho2 hb2))
        go_wp2_with (first
          | (go_at_call 27; refine (HUP.out _ _ HW1.out).mono ?_; rintro e w3 ⟨v3, rfl, hs3, hb3⟩; obtain ⟨A3, c3, rfl, -⟩ := hs3.open; have HV3 := Lib.hid hs3; have HX3 := Lib.hid (HW1.out.below hb3 (Nat.le_refl _)); have HY3 := Lib.hid (HV2.out.below hb3 (Nat.le_refl _)); replace HBC := Lib.hid (bel2M HBC.out hb3); clear hs3 hb3; obtain ⟨-, -, p2, p3, p4, p5⟩ := HK.out _ HBC.out)
          | (go_at_call 31; refine (HSX.out _ _ HX3.out).mono ?_; rintro e w4 ⟨rfl, hb4⟩; have HY4 := Lib.hid (HY3.out.below hb4 (Nat.le_refl _)); replace HBC := Lib.hid (bel2M HBC.out hb4); clear hb4 HX3 p2 p3 p4 p5; obtain ⟨-, -, p2, p3, p4, p5⟩ := HK.out _ HBC.out)
          | (go_at_call 31; refine (HSY.out _ _ HY4.out).mono ?_; rintro e w5 ⟨rfl, hb5⟩; replace HBC := Lib.hid (bel2M HBC.out hb5); clear hb5 p2 p3 p4 p5; obtain ⟨-, -, p2, p3, p4, p5⟩ := HK.out _ HBC.out)
          | (go_at_call 14; refine (HW.out _).mono ?_; rintro e wz ⟨rfl, hbz⟩; have HBZ := Lib.hid (bel2M HBC.out hbz); clear hbz))
        go_ret
        exact ⟨rfl, bel2M HB0.out HBZ.out⟩
    · clear hm
      by_cases e1 : m = n
      · subst e1
        by_cases e2 : dx = dy
        · subst e2
          by_cases e3 : sx = sy
          · have hee : ex = ey := rest.1 e3 rfl rfl
            have hsb : (sx == sy) = true := by simpa using e3
            rw [hsb] at HS2
            subst hee
            clear rest e3 hsb
            obtain ⟨p0, p1, p2, p3, p4, p5⟩ := HK.out _ (Below.refl _ _)
            go_enter Try.func8, Try.ntmps8
            go_upto_region 1 with fail
            rw [HW0.out]
            go_upto_region 3 with fail
            clear p0 p1 p2 p3 p4 p5
            have HBC := Lib.hid (show Below w0.heap.size w0 w0.drew from (Below.refl _ _).drew)
            go_region_held3 (fun W => W.cell? ⟨w.heap.size, 0, none⟩ = some (.int .i64 m) ∧ W.cell? ⟨w.heap.size, 1, none⟩ = some (.int .i64 m) ∧ W.cell? ⟨w.heap.size + 1, 0, none⟩ = some (.string (strB dx)) ∧ W.cell? ⟨w.heap.size + 1, 1, none⟩ = some (.slice AX sx.length cX) ∧ W.cell? ⟨w.heap.size + 2, 0, none⟩ = some (.string (strB dx)) ∧ W.cell? ⟨w.heap.size + 2, 1, none⟩ = some (.slice AY sy.length cY)) (first | exact HK.out _ HBC.out) (fail)
            go_upto_region 4 with fail
            replace HBC := Lib.hid HBC.out.drew
            go_region_held3 (fun W => W.cell? ⟨w.heap.size, 0, none⟩ = some (.int .i64 m) ∧ W.cell? ⟨w.heap.size, 1, none⟩ = some (.int .i64 m) ∧ W.cell? ⟨w.heap.size + 1, 0, none⟩ = some (.string (strB dx)) ∧ W.cell? ⟨w.heap.size + 1, 1, none⟩ = some (.slice AX sx.length cX) ∧ W.cell? ⟨w.heap.size + 2, 0, none⟩ = some (.string (strB dx)) ∧ W.cell? ⟨w.heap.size + 2, 1, none⟩ = some (.slice AY sy.length cY)) (first | exact HK.out _ HBC.out) (first
              | (go_at_call 26; refine (HPX.out _ (bel2M HB0.out HBC.out)).mono ?_; rintro e w1 ⟨v1, rfl, ho1, hb1⟩; obtain ⟨A1, c1, rfl⟩ := own_slice ho1; have HV1 := Lib.hid (own_bs ho1); replace HBC := Lib.hid (bel2M HBC.out hb1); clear ho1 hb1 HPX)
              | (go_at_call 26; refine (HPY.out _ (bel2M HB0.out HBC.out)).mono ?_; rintro e w2 ⟨v2, rfl, ho2, hb2⟩; obtain ⟨A2, c2, rfl⟩ := own_slice ho2; have HV2 := Lib.hid (own_bs ho2); have HW1 := Lib.hid (HV1.out.below hb2 (Nat.le_refl _)); replace HBC := Lib.hid (bel2M HBC.out hb2); clear ho2 hb2))
            go_wp2_with (first
              | (go_at_call 27; refine (HUP.out _ _ HW1.out).mono ?_; rintro e w3 ⟨v3, rfl, hs3, hb3⟩; obtain ⟨A3, c3, rfl, -⟩ := hs3.open; have HV3 := Lib.hid hs3; have HX3 := Lib.hid (HW1.out.below hb3 (Nat.le_refl _)); have HY3 := Lib.hid (HV2.out.below hb3 (Nat.le_refl _)); replace HBC := Lib.hid (bel2M HBC.out hb3); clear hs3 hb3; obtain ⟨-, -, p2, p3, p4, p5⟩ := HK.out _ HBC.out)
              | (go_at_call 29; refine (HS2.out _ _ _ ((HX0.out.below HB0.out (Nat.le_refl _)).below HBC.out (Nat.le_refl _)) ((HY0.out.below HB0.out (Nat.le_refl _)).below HBC.out (Nat.le_refl _))).mono ?_; rintro e wx ⟨rfl, rfl⟩)
              | (go_at_call 31; refine (HSX.out _ _ HX3.out).mono ?_; rintro e w4 ⟨rfl, hb4⟩; have HY4 := Lib.hid (HY3.out.below hb4 (Nat.le_refl _)); replace HBC := Lib.hid (bel2M HBC.out hb4); clear hb4 HX3 p2 p3 p4 p5; obtain ⟨-, -, p2, p3, p4, p5⟩ := HK.out _ HBC.out)
              | (go_at_call 31; refine (HSY.out _ _ HY4.out).mono ?_; rintro e w5 ⟨rfl, hb5⟩; replace HBC := Lib.hid (bel2M HBC.out hb5); clear hb5 p2 p3 p4 p5; obtain ⟨-, -, p2, p3, p4, p5⟩ := HK.out _ HBC.out)
              | (go_at_call 14; refine (HW.out _).mono ?_; rintro e wz ⟨rfl, hbz⟩; have HBZ := Lib.hid (bel2M HBC.out hbz); clear hbz))
            go_ret
            exact ⟨rfl, bel2M HB0.out HBZ.out⟩
          · have hne := strB_ne (rest.2 (.inr (.inr e3)))
            have hsb : (sx == sy) = false := by simpa using e3
            rw [hsb] at HS2
            clear rest e3 hsb
            obtain ⟨p0, p1, p2, p3, p4, p5⟩ := HK.out _ (Below.refl _ _)
            go_enter Try.func8, Try.ntmps8
            go_upto_region 1 with fail
            rw [HW0.out]
            go_upto_region 3 with fail
            clear p0 p1 p2 p3 p4 p5
            have HBC := Lib.hid (show Below w0.heap.size w0 w0.drew from (Below.refl _ _).drew)
            go_region_held3 (fun W => W.cell? ⟨w.heap.size, 0, none⟩ = some (.int .i64 m) ∧ W.cell? ⟨w.heap.size, 1, none⟩ = some (.int .i64 m) ∧ W.cell? ⟨w.heap.size + 1, 0, none⟩ = some (.string (strB dx)) ∧ W.cell? ⟨w.heap.size + 1, 1, none⟩ = some (.slice AX sx.length cX) ∧ W.cell? ⟨w.heap.size + 2, 0, none⟩ = some (.string (strB dx)) ∧ W.cell? ⟨w.heap.size + 2, 1, none⟩ = some (.slice AY sy.length cY)) (first | exact HK.out _ HBC.out) (fail)
            go_upto_region 4 with fail
            replace HBC := Lib.hid HBC.out.drew
            go_region_held3 (fun W => W.cell? ⟨w.heap.size, 0, none⟩ = some (.int .i64 m) ∧ W.cell? ⟨w.heap.size, 1, none⟩ = some (.int .i64 m) ∧ W.cell? ⟨w.heap.size + 1, 0, none⟩ = some (.string (strB dx)) ∧ W.cell? ⟨w.heap.size + 1, 1, none⟩ = some (.slice AX sx.length cX) ∧ W.cell? ⟨w.heap.size + 2, 0, none⟩ = some (.string (strB dx)) ∧ W.cell? ⟨w.heap.size + 2, 1, none⟩ = some (.slice AY sy.length cY)) (first | exact HK.out _ HBC.out) (first
              | (go_at_call 26; refine (HPX.out _ (bel2M HB0.out HBC.out)).mono ?_; rintro e w1 ⟨v1, rfl, ho1, hb1⟩; obtain ⟨A1, c1, rfl⟩ := own_slice ho1; have HV1 := Lib.hid (own_bs ho1); replace HBC := Lib.hid (bel2M HBC.out hb1); clear ho1 hb1 HPX)
              | (go_at_call 26; refine (HPY.out _ (bel2M HB0.out HBC.out)).mono ?_; rintro e w2 ⟨v2, rfl, ho2, hb2⟩; obtain ⟨A2, c2, rfl⟩ := own_slice ho2; have HV2 := Lib.hid (own_bs ho2); have HW1 := Lib.hid (HV1.out.below hb2 (Nat.le_refl _)); replace HBC := Lib.hid (bel2M HBC.out hb2); clear ho2 hb2))
            go_wp2_with (first
              | (go_at_call 27; refine (HUP.out _ _ HW1.out).mono ?_; rintro e w3 ⟨v3, rfl, hs3, hb3⟩; obtain ⟨A3, c3, rfl, -⟩ := hs3.open; have HV3 := Lib.hid hs3; have HX3 := Lib.hid (HW1.out.below hb3 (Nat.le_refl _)); have HY3 := Lib.hid (HV2.out.below hb3 (Nat.le_refl _)); replace HBC := Lib.hid (bel2M HBC.out hb3); clear hs3 hb3; obtain ⟨-, -, p2, p3, p4, p5⟩ := HK.out _ HBC.out)
              | (go_at_call 29; refine (HS2.out _ _ _ ((HX0.out.below HB0.out (Nat.le_refl _)).below HBC.out (Nat.le_refl _)) ((HY0.out.below HB0.out (Nat.le_refl _)).below HBC.out (Nat.le_refl _))).mono ?_; rintro e wx ⟨rfl, rfl⟩)
              | (go_at_call 31; refine (HSX.out _ _ HX3.out).mono ?_; rintro e w4 ⟨rfl, hb4⟩; have HY4 := Lib.hid (HY3.out.below hb4 (Nat.le_refl _)); replace HBC := Lib.hid (bel2M HBC.out hb4); clear hb4 HX3 p2 p3 p4 p5; obtain ⟨-, -, p2, p3, p4, p5⟩ := HK.out _ HBC.out)
              | (go_at_call 31; refine (HSY.out _ _ HY4.out).mono ?_; rintro e w5 ⟨rfl, hb5⟩; replace HBC := Lib.hid (bel2M HBC.out hb5); clear hb5 p2 p3 p4 p5; obtain ⟨-, -, p2, p3, p4, p5⟩ := HK.out _ HBC.out)
              | (go_at_call 14; refine (HW.out _).mono ?_; rintro e wz ⟨rfl, hbz⟩; have HBZ := Lib.hid (bel2M HBC.out hbz); clear hbz))
            go_ret
            exact ⟨rfl, bel2M HB0.out HBZ.out⟩
        · have hne := strB_ne (rest.2 (.inr (.inl e2)))
          have hnd := strB_ne e2
          clear rest e2
          obtain ⟨p0, p1, p2, p3, p4, p5⟩ := HK.out _ (Below.refl _ _)
          go_enter Try.func8, Try.ntmps8
          go_upto_region 1 with fail
          rw [HW0.out]
          go_upto_region 3 with fail
          clear p0 p1 p2 p3 p4 p5
          have HBC := Lib.hid (show Below w0.heap.size w0 w0.drew from (Below.refl _ _).drew)
          go_region_held3 (fun W => W.cell? ⟨w.heap.size, 0, none⟩ = some (.int .i64 m) ∧ W.cell? ⟨w.heap.size, 1, none⟩ = some (.int .i64 m) ∧ W.cell? ⟨w.heap.size + 1, 0, none⟩ = some (.string (strB dx)) ∧ W.cell? ⟨w.heap.size + 1, 1, none⟩ = some (.slice AX sx.length cX) ∧ W.cell? ⟨w.heap.size + 2, 0, none⟩ = some (.string (strB dy)) ∧ W.cell? ⟨w.heap.size + 2, 1, none⟩ = some (.slice AY sy.length cY)) (first | exact HK.out _ HBC.out) (fail)
          go_upto_region 4 with fail
          replace HBC := Lib.hid HBC.out.drew
          go_region_held3 (fun W => W.cell? ⟨w.heap.size, 0, none⟩ = some (.int .i64 m) ∧ W.cell? ⟨w.heap.size, 1, none⟩ = some (.int .i64 m) ∧ W.cell? ⟨w.heap.size + 1, 0, none⟩ = some (.string (strB dx)) ∧ W.cell? ⟨w.heap.size + 1, 1, none⟩ = some (.slice AX sx.length cX) ∧ W.cell? ⟨w.heap.size + 2, 0, none⟩ = some (.string (strB dy)) ∧ W.cell? ⟨w.heap.size + 2, 1, none⟩ = some (.slice AY sy.length cY)) (first | exact HK.out _ HBC.out) (first
            | (go_at_call 26; refine (HPX.out _ (bel2M HB0.out HBC.out)).mono ?_; rintro e w1 ⟨v1, rfl, ho1, hb1⟩; obtain ⟨A1, c1, rfl⟩ := own_slice ho1; have HV1 := Lib.hid (own_bs ho1); replace HBC := Lib.hid (bel2M HBC.out hb1); clear ho1 hb1 HPX)
            | (go_at_call 26; refine (HPY.out _ (bel2M HB0.out HBC.out)).mono ?_; rintro e w2 ⟨v2, rfl, ho2, hb2⟩; obtain ⟨A2, c2, rfl⟩ := own_slice ho2; have HV2 := Lib.hid (own_bs ho2); have HW1 := Lib.hid (HV1.out.below hb2 (Nat.le_refl _)); replace HBC := Lib.hid (bel2M HBC.out hb2); clear ho2 hb2))
          go_wp2_with (first
            | (go_at_call 27; refine (HUP.out _ _ HW1.out).mono ?_; rintro e w3 ⟨v3, rfl, hs3, hb3⟩; obtain ⟨A3, c3, rfl, -⟩ := hs3.open; have HV3 := Lib.hid hs3; have HX3 := Lib.hid (HW1.out.below hb3 (Nat.le_refl _)); have HY3 := Lib.hid (HV2.out.below hb3 (Nat.le_refl _)); replace HBC := Lib.hid (bel2M HBC.out hb3); clear hs3 hb3; obtain ⟨-, -, p2, p3, p4, p5⟩ := HK.out _ HBC.out)
            | (go_at_call 31; refine (HSX.out _ _ HX3.out).mono ?_; rintro e w4 ⟨rfl, hb4⟩; have HY4 := Lib.hid (HY3.out.below hb4 (Nat.le_refl _)); replace HBC := Lib.hid (bel2M HBC.out hb4); clear hb4 HX3 p2 p3 p4 p5; obtain ⟨-, -, p2, p3, p4, p5⟩ := HK.out _ HBC.out)
            | (go_at_call 31; refine (HSY.out _ _ HY4.out).mono ?_; rintro e w5 ⟨rfl, hb5⟩; replace HBC := Lib.hid (bel2M HBC.out hb5); clear hb5 p2 p3 p4 p5; obtain ⟨-, -, p2, p3, p4, p5⟩ := HK.out _ HBC.out)
            | (go_at_call 14; refine (HW.out _).mono ?_; rintro e wz ⟨rfl, hbz⟩; have HBZ := Lib.hid (bel2M HBC.out hbz); clear hbz))
          go_ret
          exact ⟨rfl, bel2M HB0.out HBZ.out⟩
      · have hne := strB_ne (rest.2 (.inl e1))
        have hmn : (m == n) = false := by simpa using e1
        clear rest e1
        obtain ⟨p0, p1, p2, p3, p4, p5⟩ := HK.out _ (Below.refl _ _)
        go_enter Try.func8, Try.ntmps8
        go_upto_region 1 with fail
        rw [HW0.out]
        go_upto_region 3 with fail
        clear p0 p1 p2 p3 p4 p5
        have HBC := Lib.hid (show Below w0.heap.size w0 w0.drew from (Below.refl _ _).drew)
        go_region_held3 (fun W => W.cell? ⟨w.heap.size, 0, none⟩ = some (.int .i64 m) ∧ W.cell? ⟨w.heap.size, 1, none⟩ = some (.int .i64 n) ∧ W.cell? ⟨w.heap.size + 1, 0, none⟩ = some (.string (strB dx)) ∧ W.cell? ⟨w.heap.size + 1, 1, none⟩ = some (.slice AX sx.length cX) ∧ W.cell? ⟨w.heap.size + 2, 0, none⟩ = some (.string (strB dy)) ∧ W.cell? ⟨w.heap.size + 2, 1, none⟩ = some (.slice AY sy.length cY)) (first | exact HK.out _ HBC.out) (fail)
        go_upto_region 4 with fail
        replace HBC := Lib.hid HBC.out.drew
        go_region_held3 (fun W => W.cell? ⟨w.heap.size, 0, none⟩ = some (.int .i64 m) ∧ W.cell? ⟨w.heap.size, 1, none⟩ = some (.int .i64 n) ∧ W.cell? ⟨w.heap.size + 1, 0, none⟩ = some (.string (strB dx)) ∧ W.cell? ⟨w.heap.size + 1, 1, none⟩ = some (.slice AX sx.length cX) ∧ W.cell? ⟨w.heap.size + 2, 0, none⟩ = some (.string (strB dy)) ∧ W.cell? ⟨w.heap.size + 2, 1, none⟩ = some (.slice AY sy.length cY)) (first | exact HK.out _ HBC.out) (first
          | (go_at_call 26; refine (HPX.out _ (bel2M HB0.out HBC.out)).mono ?_; rintro e w1 ⟨v1, rfl, ho1, hb1⟩; obtain ⟨A1, c1, rfl⟩ := own_slice ho1; have HV1 := Lib.hid (own_bs ho1); replace HBC := Lib.hid (bel2M HBC.out hb1); clear ho1 hb1 HPX)
          | (go_at_call 26; refine (HPY.out _ (bel2M HB0.out HBC.out)).mono ?_; rintro e w2 ⟨v2, rfl, ho2, hb2⟩; obtain ⟨A2, c2, rfl⟩ := own_slice ho2; have HV2 := Lib.hid (own_bs ho2); have HW1 := Lib.hid (HV1.out.below hb2 (Nat.le_refl _)); replace HBC := Lib.hid (bel2M HBC.out hb2); clear ho2 hb2))
        go_wp2_with (first
          | (go_at_call 27; refine (HUP.out _ _ HW1.out).mono ?_; rintro e w3 ⟨v3, rfl, hs3, hb3⟩; obtain ⟨A3, c3, rfl, -⟩ := hs3.open; have HV3 := Lib.hid hs3; have HX3 := Lib.hid (HW1.out.below hb3 (Nat.le_refl _)); have HY3 := Lib.hid (HV2.out.below hb3 (Nat.le_refl _)); replace HBC := Lib.hid (bel2M HBC.out hb3); clear hs3 hb3; obtain ⟨-, -, p2, p3, p4, p5⟩ := HK.out _ HBC.out)
          | (go_at_call 31; refine (HSX.out _ _ HX3.out).mono ?_; rintro e w4 ⟨rfl, hb4⟩; have HY4 := Lib.hid (HY3.out.below hb4 (Nat.le_refl _)); replace HBC := Lib.hid (bel2M HBC.out hb4); clear hb4 HX3 p2 p3 p4 p5; obtain ⟨-, -, p2, p3, p4, p5⟩ := HK.out _ HBC.out)
          | (go_at_call 31; refine (HSY.out _ _ HY4.out).mono ?_; rintro e w5 ⟨rfl, hb5⟩; replace HBC := Lib.hid (bel2M HBC.out hb5); clear hb5 p2 p3 p4 p5; obtain ⟨-, -, p2, p3, p4, p5⟩ := HK.out _ HBC.out)
          | (go_at_call 14; refine (HW.out _).mono ?_; rintro e wz ⟨rfl, hbz⟩; have HBZ := Lib.hid (bel2M HBC.out hbz); clear hbz))
        go_ret
        exact ⟨rfl, bel2M HB0.out HBZ.out⟩

end Go.Proofs.Ytggbopgchlgidaa
