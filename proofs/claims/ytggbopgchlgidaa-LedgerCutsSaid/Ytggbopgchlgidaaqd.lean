/- qd: LTwin LTwinD BDig LObj LObjD LBlk LNew LPush LApp LAppD (made by shake.py). -/
import Derived.Deep.CutRange
import Derived.Test.Ytggbopgchlgidaaqc
namespace Go.Proofs.Ytggbopgchlgidaa
open Go.RowKit
set_option linter.unusedVariables false
set_option linter.unusedSimpArgs false
set_option maxRecDepth 20000

theorem tk {P : Program} {ops : Array Oper} {Q : Exit → Act → World → Prop} {md : Region.Mode} {S : World → Prop} (i : Nat) {oi : Oper} {v : Value} {fuel : Nat} {listed : Array Bool} {a : Act} {w : World} (h : wpAnyH P md ops Q S fuel (listed.setIfInBounds i true) (a.put oi.dst v) w) (hi : ops[i]? = some oi := by (simp only [gA, gB, gC]; rfl)) (hs : Region.noSelect ops = true := by kernel_rfl) (hf : Region.free md ops listed i = true := by kernel_rfl) (hr : (Region.ready md ops listed).contains i = true := by kernel_rfl) (hQ : ∀ c a w, Q (.panic c) (a.put oi.dst v) w → Q (.panic c) a w := by exact fun _ _ _ h => h) (hw : Region.wanted oi (yielded ops a.tmps) = true := by rfl) (hy : ∀ w, S w → (execOp a.eval oi).run P w = .ok (.value v) w := by (intro w z; (try dsimp only at z); go_simp; try with_reducible rfl)) (hS : S w := by assumption) : wpAnyH P md ops Q S (fuel + 1) listed a w := wpAnyH_take hi hs hf hr hQ (Or.inl ⟨hw, hy⟩) hS h
theorem sk {P : Program} {ops : Array Oper} {Q : Exit → Act → World → Prop} {md : Region.Mode} {S : World → Prop} (i : Nat) {oi : Oper} {fuel : Nat} {listed : Array Bool} {a : Act} {w : World} (h : wpAnyH P md ops Q S fuel (listed.setIfInBounds i true) (a.put oi.dst undef) w) (hi : ops[i]? = some oi := by (simp only [gA, gB, gC]; rfl)) (hs : Region.noSelect ops = true := by kernel_rfl) (hf : Region.free md ops listed i = true := by kernel_rfl) (hr : (Region.ready md ops listed).contains i = true := by kernel_rfl) (hQ : ∀ c a w, Q (.panic c) (a.put oi.dst undef) w → Q (.panic c) a w := by exact fun _ _ _ h => h) (hw : Region.wanted oi (yielded ops a.tmps) = false := by rfl) (hS : S w := by assumption) : wpAnyH P md ops Q S (fuel + 1) listed a w := wpAnyH_take hi hs hf hr hQ (Or.inr ⟨hw, rfl⟩) hS h

theorem flatT_odd (E : List Tri) (k : Nat) (hk : k < E.length) : (flatT E)[k * 2 + 1]? = some E[k].2.2 := by
  obtain ⟨f1, f2⟩ := flatE_get (E.map fun p => (p.1, p.2.2)) k (by simpa using hk)
  simpa [flatT] using f2
structure CbI (N : Nat) (A : Option Addr) (n cap : Nat) (L : List (Int × List UInt8)) (bx zx : Array Value) (D : Option Addr) (d : Nat) (rs : List (Int × Int)) (w : World) (k : Nat) (E : List Tri) (W : World) : Prop where
  e : pairsT E = L
  len : E.length = n
  row : W.ownsRow (N + 2) 82 2 (.slice A n cap) n (flatT E)
  old : ∀ j (hj : j < E.length), Bs W E[j].2.2 E[j].2.1 ∧ (E[j].2.1 ≠ [] → ∀ i, E[j].2.2.ownBlock = some i → i ≠ N ∧ i ≠ N + 1 ∧ (Value.slice A n cap).ownBlock ≠ some i ∧ (j < k → N ≤ i))
  bel : Below N w W
  box : W.heap[N]? = some (.cells bx 33 (0, 0))
  zb : W.heap[N + 1]? = some (.cells zx 33 (0, 0))
  res : ∃ B, W.ownsRow B 86 2 (.slice D rs.length d) rs.length (rs.flatMap rsC) ∧ N + 2 ≤ B ∧ (∀ i, (Value.slice A n cap).ownBlock = some i → i < B)
theorem own_leL {w : World} {base base' size n : Nat} {e : TypeId} {v : Value} {xs : List Value} (h : w.ownsRow base e size v n xs) (hb : base' ≤ base) : w.ownsRow base' e size v n xs := by
  obtain ⟨h1, h2 | ⟨g, cap, cur, h3, h4, h5⟩⟩ := h
  · exact ⟨h1, .inl h2⟩
  · exact ⟨h1, .inr ⟨g, cap, cur, h3, Nat.le_trans hb h4, h5⟩⟩
theorem CbI.keep {N : Nat} {A : Option Addr} {n cap : Nat} {L : List (Int × List UInt8)} {bx zx : Array Value} {D : Option Addr} {d : Nat} {rs : List (Int × Int)} {w : World} {k : Nat} {E : List Tri} {W W' : World} (h : CbI N A n cap L bx zx D d rs w k E W) (hb : Below W.heap.size W W') : CbI N A n cap L bx zx D d rs w k E W' where
  e := h.e
  len := h.len
  row := own_keep h.row fun i hi => hb.block i (h.row.lt i hi).2
  old := fun j hj => ⟨(h.old j hj).1.below hb (Nat.le_refl _), (h.old j hj).2⟩
  bel := h.bel.trans (hb.mono (by have := (Array.getElem?_eq_some_iff.1 h.box).1; omega))
  box := heapB h.box hb
  zb := heapB h.zb hb
  res := by
    obtain ⟨B, h1, h2⟩ := h.res
    exact ⟨B, own_keep h1 fun i hi => hb.block i (h1.lt i hi).2, h2⟩
theorem CbI.put {N g : Nat} {n cap : Nat} {L : List (Int × List UInt8)} {bx zx : Array Value} {D : Option Addr} {d : Nat} {rs : List (Int × Int)} {w : World} {k : Nat} {E : List Tri} {W : World} (h : CbI N (some ⟨g, 0, none⟩) n cap L bx zx D d rs w k E W) (hk : k < E.length) {y : Value} (hy : Bs W y E[k].2.1) {M : Nat} (hn : E[k].2.1 ≠ [] → ∀ i, y.ownBlock = some i → M ≤ i) (hM : N + 2 ≤ M ∧ g < M) :
    CbI N (some ⟨g, 0, none⟩) n cap L bx zx D d rs w (k + 1) (E.set k (E[k].1, E[k].2.1, y)) (W.setCell ⟨g, k * 2 + 1, none⟩ y) := by
  have hg : ∀ i, i ≠ g → (W.setCell ⟨g, k * 2 + 1, none⟩ y).heap[i]? = W.heap[i]? := fun i hi => Go.Deep.blk_setCell_other _ _ _ _ hi
  have hgN : N + 2 ≤ g := (h.row.lt g rfl).1
  have hz : W.heap.size ≤ (W.setCell ⟨g, k * 2 + 1, none⟩ y).heap.size := by simp
  refine ⟨by rw [pairsT_set _ _ hk]; exact h.e, by rw [List.length_set]; exact h.len, ?_, fun j hj => ?_, h.bel.setCell (p := ⟨g, k * 2 + 1, none⟩) (by show N ≤ g; omega) _, (hg N (by omega)).trans h.box, (hg (N + 1) (by omega)).trans h.zb, ?_⟩
  · rw [flatT_set E k hk]
    exact (h.row.stored _ _).1
  · have hj' : j < E.length := by rw [List.length_set] at hj; exact hj
    by_cases hjk : k = j
    · subst hjk
      simp only [List.getElem_set_self]
      refine ⟨hy.keep hz fun hne i hi => hg i (by have := hn hne i hi; omega), fun hne i hi => ?_⟩
      have := hn hne i hi
      exact ⟨by omega, by omega, fun e => by injection e with e; simp only at e; omega, fun _ => by omega⟩
    · simp only [List.getElem_set_ne hjk]
      obtain ⟨h1, h2⟩ := h.old j hj'
      refine ⟨h1.keep hz fun hne i hi => hg i fun e => (h2 hne i hi).2.2.1 (by rw [e]; rfl), fun hne i hi => ?_⟩
      obtain ⟨e1, e2, e3, e4⟩ := h2 hne i hi
      exact ⟨e1, e2, e3, fun hlt => e4 (by omega)⟩
  · obtain ⟨B, h1, h2, h3⟩ := h.res
    exact ⟨B, own_keep h1 fun i hi => hg i fun e => by have := h3 g rfl; have := (h1.lt i hi).1; omega, h2, h3⟩
theorem CbI.done {N : Nat} {A : Option Addr} {n cap : Nat} {L : List (Int × List UInt8)} {bx zx : Array Value} {D : Option Addr} {d : Nat} {rs : List (Int × Int)} {w : World} {E : List Tri} {W : World} (h : CbI N A n cap L bx zx D d rs w n E W) : RowC (fun i => N + 2 ≤ i) W 2 (EnvC (fun i => N + 2 ≤ i)) A cap L ∧ RowC (fun i => N + 2 ≤ i) W 2 ResP D d rs := by
  constructor
  · obtain ⟨A', c', e1, h1⟩ := rowC_tri (C := fun i => N + 2 ≤ i) h.row (fun i hi => hi) fun p hp => by
      obtain ⟨j, hj, rfl⟩ := List.getElem_of_mem hp
      refine ⟨(h.old j hj).1, fun hne i hi => ?_⟩
      obtain ⟨e1, e2, e3, e4⟩ := (h.old j hj).2 hne i hi
      have := e4 (by rw [← h.len]; exact hj)
      show N + 2 ≤ i
      omega
    rw [h.e] at h1
    injection e1 with e2 e3 e4
    subst e2 e4
    exact h1
  · obtain ⟨B, h1, h2, -⟩ := h.res
    obtain ⟨A', c', e1, h3⟩ := rowC_res (C := fun i => N + 2 ≤ i) h1 (fun i hi => Nat.le_trans h2 hi)
    injection e1 with e2 e3 e4
    subst e2 e4
    exact h3
theorem rows4 {W : World} {N : Nat} {x0 x1 x2 x3 : Value} {t : TypeId} (h : W.heap[N]? = some (.cells #[x0, x1, x2, x3] t (0, 0))) : W.cell? ⟨N, 0, none⟩ = some x0 ∧ W.cell? ⟨N, 1, none⟩ = some x1 ∧ W.cell? ⟨N, 2, none⟩ = some x2 ∧ W.cell? ⟨N, 3, none⟩ = some x3 ∧ ∀ j, W.frozen? ⟨N, j, none⟩ = false :=
  ⟨rowCell h 0 _ rfl, rowCell h 1 _ rfl, rowCell h 2 _ rfl, rowCell h 3 _ rfl, fun j => by simp [World.frozen?, h]⟩
set_option maxHeartbeats 2000000 in
theorem cloneB_any (b : Blk) (A : Option Addr) (c : Nat) (D : Option Addr) (d : Nat) (w : World) (h : BlkK w b A c D d) (hf : FewQ b) : Calls Try.prog 42 #[agB b A c D d] w (TwB b w) := by
  obtain ⟨x1, x2, x3⟩ := box2B w #[.int .i64 b.h, .string (strB b.prev), .slice A b.reqs.length c, .slice D b.ress.length d] #[.int .i64 0, .string ⟨#[]⟩, .slice none 0 0, .slice none 0 0] 33 33
  obtain ⟨E, hE, hEl, hrow, hbs⟩ := env_tri h.q
  have hq20 := hf.q
  have hr20 := hf.r
  have HB0 := Lib.hid x3
  have HD := Lib.hid hf.d
  have HCE := Lib.hid (fun W (hb : Below w.heap.size w W) => cloneEv_any A E.length c (flatT E) W (hrow.below hb) (triC_one E hbs) (by omega))
  have HCR := Lib.hid (fun W (hb : Below w.heap.size w W) => cloneRs_any D b.ress.length d (b.ress.flatMap rsC) W ((res_rows h.r).below hb) (rsC_one _) (by omega))
  have HBS := Lib.hid hbs
  have HE := Lib.hid hE
  have HEL := Lib.hid hEl
  rw [hEl] at HCE
  generalize hw0 : ((w.alloc (.cells #[.int .i64 b.h, .string (strB b.prev), .slice A b.reqs.length c, .slice D b.ress.length d] 33)).alloc (.cells #[.int .i64 0, .string ⟨#[]⟩, .slice none 0 0, .slice none 0 0] 33)) = w0 at *
  have HW0 := Lib.hid hw0
  have HX1 := Lib.hid x1
  have HK := Lib.hid (show ∀ W, Below w0.heap.size w0 W → (fun W => W.cell? ⟨w.heap.size, 2, none⟩ = some (.slice A b.reqs.length c) ∧ W.cell? ⟨w.heap.size, 3, none⟩ = some (.slice D b.ress.length d)) W from fun W h => ⟨cellB (rowCell x1 2 _ rfl) h, cellB (rowCell x1 3 _ rfl) h⟩)
  have HX2 := Lib.hid x2
  have HQ20 := Lib.hid hq20
  have HN2 := Lib.hid (show w.heap.size + 1 < w0.heap.size from (Array.getElem?_eq_some_iff.1 x2).1)
  clear x1 x2 x3 hw0 hE hEl hrow hbs h hf hq20 hr20
  go_enter Try.func42, Try.ntmps42
  go_upto_region 1 with fail
  rw [HW0.out]
  go_cut [7] from 5 to 12 (fun s7 wx => ∃ A1 c1 A2 c2 B, s7 = .slice A1 b.reqs.length c1 ∧ wx.ownsRow (w.heap.size + 2) 82 2 (.slice A1 b.reqs.length c1) b.reqs.length (flatT E) ∧ wx.ownsRow B 86 2 (.slice A2 b.ress.length c2) b.ress.length (b.ress.flatMap rsC) ∧ w.heap.size + 2 ≤ B ∧ (∀ g, (Value.slice A1 b.reqs.length c1).ownBlock = some g → g < B) ∧ Below w.heap.size w wx ∧ wx.heap[w.heap.size]? = some (.cells #[.int .i64 b.h, .string (strB b.prev), .slice A1 b.reqs.length c1, .slice A2 b.ress.length c2] 33 (0, 0)) ∧ wx.heap[w.heap.size + 1]? = some (.cells #[.int .i64 0, .string ⟨#[]⟩, .slice none 0 0, .slice none 0 0] 33 (0, 0)))
  case first =>
    have HBC := Lib.hid (show Below w0.heap.size w0 w0.drew from (Below.refl _ _).drew)
    obtain ⟨p2, p3⟩ := HK.out _ HBC.out
    go_region_with (first
      | (go_at_call 69; refine (HCE.out _ (bel2M HB0.out HBC.out)).mono ?_; rintro e w1 ⟨v1, rfl, ho1, hb1⟩; obtain ⟨A1, c1, rfl⟩ := own_slice ho1; have HO1 := Lib.hid ho1; have HS1 := Lib.hid HBC.out.size; replace HBC := Lib.hid (bel2M HBC.out hb1); clear ho1 hb1; obtain ⟨p2, p3⟩ := HK.out _ HBC.out)
      | (go_at_call 70; refine (HCR.out _ (bel2M HB0.out HBC.out)).mono ?_; rintro e w2 ⟨v2, rfl, ho2, hb2⟩; obtain ⟨A2, c2, rfl⟩ := own_slice ho2; have HO2 := Lib.hid ho2; have HB2 := Lib.hid hb2; have HS2 := Lib.hid HBC.out.size; replace HBC := Lib.hid (bel2M HBC.out hb2); clear ho2 hb2; obtain ⟨z0, z1, z2, z3, z4⟩ := rows4 (heapB HX1.out HBC.out)))
    all_goals
      go_wp2_with fail
      go_meet
      have hz1 := HS1.out
      have hz2 := HS2.out
      have hz3 := HB2.out.size
      have hN2 := HN2.out
      refine ⟨A1, c1, A2, c2, _, rfl, ?_, own_keep HO2.out (fun k hk => ?_), by omega, fun g hg => (HO1.out.lt g hg).2, ?_, box_set2 (heapB HX1.out HBC.out) _ _, ?_⟩
      · refine own_keep (own_keep (own_leL HO1.out (by omega)) fun k hk => HB2.out.block k (HO1.out.lt k hk).2) fun k hk => ?_
        have := (HO1.out.lt k hk).1
        rw [Go.Deep.blk_setCell_other _ _ _ _ (show k ≠ w.heap.size by omega), Go.Deep.blk_setCell_other _ _ _ _ (show k ≠ w.heap.size by omega)]
      · have := (HO2.out.lt k hk).1
        rw [Go.Deep.blk_setCell_other _ _ _ _ (show k ≠ w.heap.size by omega), Go.Deep.blk_setCell_other _ _ _ _ (show k ≠ w.heap.size by omega)]
      · exact ((bel2M HB0.out HBC.out).setCell (p := ⟨w.heap.size, 2, none⟩) (Nat.le_refl _) _).setCell (p := ⟨w.heap.size, 3, none⟩) (Nat.le_refl _) _
      · rw [Go.Deep.blk_setCell_other _ _ _ _ (show w.heap.size + 1 ≠ w.heap.size by omega), Go.Deep.blk_setCell_other _ _ _ _ (show w.heap.size + 1 ≠ w.heap.size by omega)]
        exact heapB HX2.out HBC.out
  case rest =>
    obtain ⟨A1, cA, A2, c2, B, rfl, r1, r2, hB, hgB, hbel, hbox, hzb⟩ := hcut
    have hI0 : CbI w.heap.size A1 b.reqs.length cA b.reqs #[.int .i64 b.h, .string (strB b.prev), .slice A1 b.reqs.length cA, .slice A2 b.ress.length c2] #[.int .i64 0, .string ⟨#[]⟩, .slice none 0 0, .slice none 0 0] A2 c2 b.ress w 0 E wc :=
      ⟨HE.out, HEL.out, r1, fun j hj => ⟨(HBS.out _ (List.getElem_mem hj)).below hbel (Nat.le_refl _), fun hne i hi => by
        have h1 := (HBS.out _ (List.getElem_mem hj)).lt hne i hi
        exact ⟨by omega, by omega, fun e => by have := (r1.lt i e).1; omega, fun h => absurd h (Nat.not_lt_zero _)⟩⟩, hbel, hbox, hzb, ⟨B, r2, hB, hgB⟩⟩
    have HI0 := Lib.hid hI0
    obtain ⟨b0, b1, b2, b3, b4⟩ := rows4 hbox
    have hn63 : b.reqs.length ≤ 20 := HQ20.out
    clear HCE HCR HK HX1 HX2 hI0 r1 r2 hbel hbox hzb hgB hB
    go_wp2
    go_loopw [16] (fun i wr => ∃ (k : Nat) (F : List Tri), k ≤ b.reqs.length ∧ i = .int .i64 k ∧ CbI w.heap.size A1 b.reqs.length cA b.reqs #[.int .i64 b.h, .string (strB b.prev), .slice A1 b.reqs.length cA, .slice A2 b.ress.length c2] #[.int .i64 0, .string ⟨#[]⟩, .slice none 0 0, .slice none 0 0] A2 c2 b.ress w k F wr) (fun i _ => b.reqs.length - (intOf i).toNat)
    case atStart => exact ⟨0, E, Nat.zero_le _, rfl, HI0.out⟩
    case round =>
      obtain ⟨k, F, hk, rfl, hI⟩ := hrel
      have HI := Lib.hid hI
      clear hI
      by_cases hlt : k < b.reqs.length
      · have hltI : (k : Int) < (b.reqs.length : Int) := by omega
        have hkF : k < F.length := by rw [HI.out.len]; exact hlt
        obtain ⟨g, rfl⟩ : ∃ g, A1 = some ⟨g, 0, none⟩ := by
          rcases HI.out.row.2 with ⟨-, h0⟩ | ⟨g, cap, cur, e, -⟩
          · omega
          · injection e with e; exact ⟨g, e⟩
        obtain ⟨y0, y1, y2, y3, y4⟩ := rows4 HI.out.box
        obtain ⟨f1, f2⟩ := flatE_get (F.map fun p => (p.1, p.2.2)) k (by simpa using hkF)
        have hb1 := (HI.out.old k hkF).1
        have hlen : F[k].2.1.length ≤ 500 := by
          have := HD.out (F[k].1, F[k].2.1) (by rw [← HI.out.e]; exact List.mem_map_of_mem (f := fun p : Tri => (p.1, p.2.1)) (List.getElem_mem hkF))
          exact this
        have c0 : wr.cell? ⟨g, k * 2, none⟩ = some (.int .i64 F[k].1) := by
          rw [HI.out.row.cellAt _ (by omega)]
          simpa [flatT] using f1
        have c1 : wr.cell? ⟨g, k * 2 + 1, none⟩ = some F[k].2.2 := by
          rw [HI.out.row.cellAt _ (by omega)]
          simpa [flatT] using f2
        generalize hFk : F[k] = fk at *
        obtain ⟨s1, l1, bv1⟩ := fk
        simp only at hb1 hlen c0 c1
        have HCL := Lib.hid (fun W (hb : Below wr.heap.size wr W) => Clone_own bv1 l1 W (hb1.below hb (Nat.le_refl _)) (by omega))
        have HB1 := Lib.hid hb1
        obtain ⟨A4, c4, rfl, -⟩ := hb1.open
        clear f1 f2
        go_upto_region 5 with fail
        have hgN : w.heap.size + 2 ≤ g ∧ g < wr.heap.size := HI.out.row.lt g rfl
        have HGN := Lib.hid hgN
        have HA := Lib.hid ((Below.refl wr.heap.size wr).alloc (Nat.le_refl _) (.cells #[.int .i64 s1, .slice A4 l1.length c4] 82))
        have HX4 := Lib.hid (heap_alloc_new wr (.cells #[.int .i64 s1, .slice A4 l1.length c4] 82))
        have HFK := Lib.hid hFk
        have HKF := Lib.hid hkF
        generalize hwa : wr.alloc (.cells #[.int .i64 s1, .slice A4 l1.length c4] 82) = wa at *
        have HS := Lib.hid (show ∀ W, Below wa.heap.size wa W → (fun W => W.cell? ⟨w.heap.size, 2, none⟩ = some (.slice (some ⟨g, 0, none⟩) b.reqs.length cA) ∧ W.cell? ⟨wr.heap.size, 1, none⟩ = some (.slice A4 l1.length c4)) W from fun W h => ⟨cellB (cellB y2 HA.out) h, cellB (rowCell HX4.out 1 _ rfl) h⟩)
        clear hwa hFk hb1 hlen y0 y1 y2 y3 y4 c0 c1 hgN
        have HBC := Lib.hid (show Below wa.heap.size wa wa.drew from (Below.refl _ _).drew)
        go_region_held3 (fun W => W.cell? ⟨w.heap.size, 2, none⟩ = some (.slice (some ⟨g, 0, none⟩) b.reqs.length cA) ∧ W.cell? ⟨wr.heap.size, 1, none⟩ = some (.slice A4 l1.length c4)) (first | exact HS.out _ HBC.out | exact ⟨setOtherB (HS.out _ HBC.out).1 (by have := HGN.out; show w.heap.size ≠ g; omega), setOtherB (HS.out _ HBC.out).2 (by have := HGN.out; show wr.heap.size ≠ g; omega)⟩) (first
          | (go_at_call 71; refine (HCL.out _ (bel2M HA.out HBC.out)).mono ?_; rintro e w4 ⟨v4, rfl, ho4, hb4⟩; obtain ⟨A5, c5, rfl⟩ := own_slice ho4; have HO4 := Lib.hid ho4; have HS4 := Lib.hid (bel2M HA.out HBC.out).size; replace HBC := Lib.hid (bel2M HBC.out hb4); clear ho4 hb4; have HI4 := Lib.hid (HI.out.keep (bel2M HA.out HBC.out)); have q1 := HI4.out.row.frozenAt (k * 2 + 1); have q2 := (HI4.out.row.cellAt (k * 2 + 1) (by have := hlt; omega)).trans ((flatT_odd F k HKF.out).trans (by rw [HFK.out]))))
        go_wp2
        go_roundw
        case rel =>
          refine ⟨k + 1, F.set k (F[k].1, F[k].2.1, .slice A5 l1.length c5), by omega, by go_num, ?_⟩
          have hz := HA.out.size
          have hgn := HGN.out
          refine HI4.out.put hkF (by rw [HFK.out]; exact own_bs HO4.out) (M := wr.heap.size) (fun _ i hi => by have h0 := (HO4.out.lt i hi).1; have h1 : wr.heap.size ≤ wa.drew.heap.size := hz; omega) (by omega)
        case measure => simp [intOf]; omega
      · obtain rfl : k = b.reqs.length := by omega
        have hltI : ¬ (b.reqs.length : Int) < (b.reqs.length : Int) := by omega
        obtain ⟨y0, y1, y2, y3, y4⟩ := rows4 HI.out.box
        obtain ⟨z0, z1, z2, z3, z4⟩ := rows4 HI.out.zb
        obtain ⟨hd1, hd2⟩ := HI.out.done
        go_wp2
        have hz := HI.out.zb
        have hzl := (Array.getElem?_eq_some_iff.1 hz).1
        refine bodyPost_ret (v := agB b A1 cA A2 c2) (by simp [results, Try.results42, go_sem, z0, z1, z2, z3, hzl]) rfl ⟨A1, cA, A2, c2, rfl, ?_, ?_⟩
        · have hk : KeptC (fun i => w.heap.size + 2 ≤ i) (fun i => w.heap.size ≤ i) wr ((((wr.setCell ⟨w.heap.size + 1, 0, none⟩ (.int .i64 b.h)).setCell ⟨w.heap.size + 1, 1, none⟩ (.string (strB b.prev))).setCell ⟨w.heap.size + 1, 2, none⟩ (.slice A1 b.reqs.length cA)).setCell ⟨w.heap.size + 1, 3, none⟩ (.slice A2 b.ress.length c2)) := fun i _ hi => by
            have hne : i ≠ w.heap.size + 1 := by simp only at hi; omega
            exact ⟨by rw [Go.Deep.blk_setCell_other _ _ _ _ hne, Go.Deep.blk_setCell_other _ _ _ _ hne, Go.Deep.blk_setCell_other _ _ _ _ hne, Go.Deep.blk_setCell_other _ _ _ _ hne], by simp only at hi ⊢; omega⟩
          exact BlkC.keep ⟨hd1, hd2⟩ (by simp) hk
        · exact (((HI.out.bel.setCell (p := ⟨w.heap.size + 1, 0, none⟩) (Nat.le_succ _) _).setCell (p := ⟨w.heap.size + 1, 1, none⟩) (Nat.le_succ _) _).setCell (p := ⟨w.heap.size + 1, 2, none⟩) (Nat.le_succ _) _).setCell (p := ⟨w.heap.size + 1, 3, none⟩) (Nat.le_succ _) _

def TwE (l : List (Int × List UInt8)) (w : World) (e : Ending) (w' : World) : Prop := ∃ v E, e = .returned v ∧ pairsT E = l ∧ w'.ownsRow w.heap.size 82 2 v l.length (flatT E) ∧ (∀ p ∈ E, Bs w' p.2.2 p.2.1 ∧ (p.2.1 ≠ [] → ∀ k, p.2.2.ownBlock = some k → w.heap.size ≤ k)) ∧ Below w.heap.size w w'
structure TwI (l : List (Int × List UInt8)) (w : World) (k : Nat) (v : Value) (E : List Tri) (W : World) : Prop where
  e : pairsT E = l.take k
  row : W.ownsRow w.heap.size 82 2 v k (flatT E)
  old : ∀ p ∈ E, Bs W p.2.2 p.2.1 ∧ (p.2.1 ≠ [] → ∀ i, p.2.2.ownBlock = some i → w.heap.size ≤ i ∧ v.ownBlock ≠ some i)
  bel : Below w.heap.size w W
theorem flatT_push (E : List Tri) (s : Int) (l : List UInt8) (y : Value) : flatT E ++ [.int .i64 s, y] = flatT (E ++ [(s, l, y)]) := (flatT_snoc E (s, l, y)).symm
theorem TwI.push {l : List (Int × List UInt8)} {w wr w2 w4 : World} {k : Nat} {v v4 y : Value} {E : List Tri} {s1 : Int} {l1 : List UInt8} (h : TwI l w k v E wr) (ht : l.take (k + 1) = l.take k ++ [(s1, l1)]) (hb2 : Below wr.heap.size wr w2) (hy : Bs w2 y l1) (hyn : l1 ≠ [] → ∀ i, y.ownBlock = some i → wr.heap.size ≤ i)
    (ho : w4.ownsRow w.heap.size 82 2 v4 (k + 1) (flatT E ++ [.int .i64 s1, y])) (hg : w2.grownBy w4 v.ownBlock) (hr : v4.ownBlock = v.ownBlock ∨ v4.ownBlock = some w2.heap.size) : TwI l w (k + 1) v4 (E ++ [(s1, l1, y)]) w4 where
  e := by rw [ht]; simp only [pairsT, List.map_append, List.map_cons, List.map_nil]; rw [show E.map (fun p => (p.1, p.2.1)) = pairsT E from rfl, h.e]
  row := by rw [← flatT_push]; exact ho
  old := fun p hp => by
    have hz2 := hb2.size
    have hall : Bs w2 p.2.2 p.2.1 ∧ (p.2.1 ≠ [] → ∀ i, p.2.2.ownBlock = some i → w.heap.size ≤ i ∧ v.ownBlock ≠ some i ∧ i < w2.heap.size) := by
      rcases List.mem_append.1 hp with hp | hp
      · obtain ⟨h1, h2⟩ := h.old p hp
        refine ⟨h1.below hb2 (Nat.le_refl _), fun hne i hi => ⟨(h2 hne i hi).1, (h2 hne i hi).2, ?_⟩⟩
        have := h1.lt hne i hi
        omega
      · rw [List.mem_singleton.1 hp]
        refine ⟨hy, fun hne i hi => ?_⟩
        have h1 := hyn hne i hi
        have h2 := h.bel.size
        exact ⟨by omega, fun e => by have := (h.row.lt i e).2; omega, hy.lt hne i hi⟩
    refine ⟨hall.1.keep hg.size fun hne i hi => hg.block i (hall.2 hne i hi).2.2 (fun e => (hall.2 hne i hi).2.1 e.symm), fun hne i hi => ⟨(hall.2 hne i hi).1, fun e => ?_⟩⟩
    rcases hr with hr | hr
    · exact (hall.2 hne i hi).2.1 (hr ▸ e)
    · rw [e] at hr
      injection hr with hr
      have := (hall.2 hne i hi).2.2
      omega
  bel := (h.bel.trans (hb2.mono h.bel.size)).grown hg (Nat.le_trans h.bel.size hb2.size) (fun i hi => (h.row.lt i hi).1)
set_option maxHeartbeats 2000000 in
theorem rTwin_any (A : Option Addr) (c : Nat) (l : List (Int × List UInt8)) (w : World) (h : EnvK w A c l) (hl : l.length ≤ 20) (hb : ∀ e ∈ l, e.2.length ≤ 500) : Calls Try.prog 88 #[.slice A l.length c] w (TwE l w) := by
  obtain ⟨i0, hi, hz0, hz1, hz2⟩ := info_parts u8info
  obtain ⟨i1, hj, hy0, hy1, hy2⟩ := info_parts envinfo
  have HQ := Lib.hid h.2.2.2
  have HD := Lib.hid hb
  clear h hb
  go_enter Try.func88, Try.ntmps88
  go_wp2
  go_loopw [3, 4] (fun v i wr => ∃ (k : Nat) (E : List Tri), k ≤ l.length ∧ i = .int .i64 k ∧ TwI l w k v E wr) (fun _ i _ => l.length - (intOf i).toNat)
  case atStart => exact ⟨0, [], Nat.zero_le _, rfl, rfl, World.ownsRow_nil _ _ _ _, fun p hp => absurd hp (by simp), Below.refl _ _⟩
  case round =>
    obtain ⟨k, E, hk, rfl, hI⟩ := hrel
    have HI := Lib.hid hI
    obtain ⟨AO, cO, rfl⟩ := own_slice hI.row
    by_cases hlt : k < l.length
    · have hltI : (k : Int) < (l.length : Int) := by omega
      obtain ⟨ad, rfl, hbl, hq0⟩ := HQ.out k hlt
      obtain ⟨c1, bv, c2, hbv⟩ := hq0.below hI.bel (by rw [block_add]; exact hbl)
      have hlen := HD.out _ (List.getElem_mem hlt)
      have htk : l.take (k + 1) = l.take k ++ [l[k]] := List.take_succ_eq_append_getElem hlt
      generalize hreq : l[k] = rq at *
      obtain ⟨s1, l1⟩ := rq
      have HTK := Lib.hid htk
      have HBL := Lib.hid hbl
      have HBV := Lib.hid hbv
      have HLEN := Lib.hid hlen
      simp only at c1 c2 hbv hlen HBV HLEN
      obtain ⟨A4, c4, rfl, -⟩ := hbv.open
      have HS := Lib.hid (show ∀ W, Below wr.heap.size wr W → (fun W => W.cell? (ad.add (k * 2)) = some (.int .i64 s1) ∧ W.cell? ⟨(ad.add (k * 2)).block, (ad.add (k * 2)).off + 1, none⟩ = some (.slice A4 l1.length c4)) W from fun W h => ⟨cellB c1 h, cellB c2 h⟩)
      clear hI c1 c2 hbv hlen hreq htk
      go_upto_region 5 with fail
      have HBC := Lib.hid (show Below wr.heap.size wr wr.drew from (Below.refl _ _).drew)
      go_region_held3 (fun W => W.cell? (ad.add (k * 2)) = some (.int .i64 s1) ∧ W.cell? ⟨(ad.add (k * 2)).block, (ad.add (k * 2)).off + 1, none⟩ = some (.slice A4 l1.length c4)) (first | exact HS.out _ HBC.out | exact HS.out _ (HBC.out.alloc (Nat.le_refl _) _) | exact HS.out _ HB1.out | exact HS.out _ HB2.out | exact HS4.out) (first
        | (refine step_append_rd rfl (.tmp 17) (.tmp 22) 58 rfl wr.heap.size 5 i0 (.int .u8 0) 1 Try.underlying58 hi hz0 hz1 hz2 rfl _ 0 [] rfl (own_empty _ _ _ _ (Nat.le_refl _) rfl) _ _ rfl (HBV.out.below (HBC.out.alloc (Nat.le_refl _) _) (Nat.le_refl _)) (bc_one _) (by have := HLEN.out; simp; unfold maxLen; omega) (by have := HLEN.out; simp; omega) (by simp) ?_; intro v1 w1 hown1 hg1 ho1; rw [Nat.zero_add, List.nil_append, List.length_map] at hown1; obtain ⟨A5, c5, rfl⟩ := own_slice hown1; have HO1 := Lib.hid hown1; have HB1 := Lib.hid ((HBC.out.alloc (Nat.le_refl _) (.cells #[] 5)).grown hg1 (by simp) (by intro k h; injection h with h; simp only at h; omega)); have HB2 := Lib.hid (bel2M HB1.out (alloc1B w1 (.cells #[.int .i64 s1, .slice A5 l1.length c5] 82))); clear hg1 ho1 hown1)
        | (refine step_append2 rfl (.tmp 11) (.tmp 25) 30 rfl w.heap.size 82 i1 (.agg #[.int .i64 0, .slice none 0 0]) 32 Try.underlying30 hj hy0 hy1 hy2 rfl _ k (flatT E) rfl (own_keep HI.out.row fun i hi => HB2.out.block i (HI.out.row.lt i hi).2) w1.heap.size _ _ rfl (rowCell (heap_alloc_new w1 _) 0 _ rfl) (rowCell (heap_alloc_new w1 _) 1 _ rfl) rfl rfl (by unfold maxLen; omega) (by omega) (Nat.le_trans HI.out.bel.size HB2.out.size) ?_; intro v4 w4 hown4 hg4 ho4; obtain ⟨A6, c6, rfl⟩ := own_slice hown4; have HOW4 := Lib.hid hown4; have HG4 := Lib.hid hg4; have HR4 := Lib.hid ho4; have HS4 := Lib.hid (show w4.cell? (ad.add (k * 2)) = some (.int .i64 s1) ∧ w4.cell? ⟨(ad.add (k * 2)).block, (ad.add (k * 2)).off + 1, none⟩ = some (.slice A4 l1.length c4) from ⟨hg4.cell (HS.out _ HB2.out).1 (fun e => by rw [block_add] at e; have := (HI.out.row.lt _ e.symm).1; have := HBL.out; omega), hg4.cell (a := ⟨(ad.add (k * 2)).block, (ad.add (k * 2)).off + 1, none⟩) (HS.out _ HB2.out).2 (fun e => by simp only [block_add] at e; have := (HI.out.row.lt _ e.symm).1; have := HBL.out; omega)⟩); clear hown4 hg4 ho4))
      go_wp2
      go_roundw
      case rel =>
        exact ⟨k + 1, _, by omega, by go_num, HI.out.push (y := .slice A5 l1.length c5) HTK.out HB2.out ((own_bs HO1.out).below (alloc1B w1 _) (Nat.le_refl _)) (fun _ i hi => (HO1.out.lt i hi).1) HOW4.out HG4.out HR4.out⟩
      case measure => simp [intOf]; omega
    · obtain rfl : k = l.length := by omega
      have hltI : ¬ (l.length : Int) < (l.length : Int) := by omega
      go_wp2
      go_ret
      exact ⟨_, E, rfl, by rw [HI.out.e, List.take_length], HI.out.row, fun p hp => ⟨(HI.out.old p hp).1, fun hne i hi => ((HI.out.old p hp).2 hne i hi).1⟩, HI.out.bel⟩
set_option maxHeartbeats 2000000 in
theorem rtwinB_any (b : Blk) (A : Option Addr) (c : Nat) (D : Option Addr) (d : Nat) (w : World) (h : BlkK w b A c D d) (hf : FewQ b) : Calls Try.prog 68 #[agB b A c D d] w (TwB b w) := by
  obtain ⟨x1, x2, x3⟩ := box2B w #[.int .i64 b.h, .string (strB b.prev), .slice A b.reqs.length c, .slice D b.ress.length d] #[.int .i64 0, .string ⟨#[]⟩, .slice none 0 0, .slice none 0 0] 33 33
  obtain ⟨i1, hj, hy0, hy1, hy2⟩ := info_parts infoRs
  have hq20 := hf.q
  have hr20 := hf.r
  have HB0 := Lib.hid x3
  have HTW := Lib.hid (fun W (hb : Below w.heap.size w W) => rTwin_any A c b.reqs W (h.q.below hb) hf.q hf.d)
  have HRR := Lib.hid (fun W (hb : Below w.heap.size w W) => (res_rows h.r).below hb)
  have HR20 := Lib.hid hr20
  have HN2 := Lib.hid (show w.heap.size + 1 < ((w.alloc (.cells #[.int .i64 b.h, .string (strB b.prev), .slice A b.reqs.length c, .slice D b.ress.length d] 33)).alloc (.cells #[.int .i64 0, .string ⟨#[]⟩, .slice none 0 0, .slice none 0 0] 33)).heap.size from (Array.getElem?_eq_some_iff.1 x2).1)
  generalize hw0 : ((w.alloc (.cells #[.int .i64 b.h, .string (strB b.prev), .slice A b.reqs.length c, .slice D b.ress.length d] 33)).alloc (.cells #[.int .i64 0, .string ⟨#[]⟩, .slice none 0 0, .slice none 0 0] 33)) = w0 at *
  have HW0 := Lib.hid hw0
  have HX1 := Lib.hid x1
  have HX2 := Lib.hid x2
  obtain ⟨p0, p1, p2, p3, p4⟩ := rows4 x1
  clear x1 x2 x3 hw0 h hf hq20 hr20
  go_enter Try.func68, Try.ntmps68
  go_upto_region 1 with fail
  rw [HW0.out]
  go_upto_region 2 with (first
    | (go_at_call 88; refine (HTW.out _ HB0.out).mono ?_; rintro e w1 ⟨v1, E, rfl, hE, ho1, hb1, hbb⟩; obtain ⟨A1, c1, rfl⟩ := own_slice ho1; have HO1 := Lib.hid ho1; have HE := Lib.hid hE; have HEB := Lib.hid hb1; have HBC := Lib.hid hbb; clear ho1 hE hb1 hbb; obtain ⟨z0, z1, z2, z3, z4⟩ := rows4 (heapB HX1.out HBC.out)))
  have hgo : ∀ i, i ≠ w.heap.size → (w1.setCell ⟨w.heap.size, 2, none⟩ (.slice A1 b.reqs.length c1)).heap[i]? = w1.heap[i]? := fun i hi => Go.Deep.blk_setCell_other _ _ _ _ hi
  have hz12 : (w1.setCell ⟨w.heap.size, 2, none⟩ (.slice A1 b.reqs.length c1)).heap.size = w1.heap.size := by simp
  have hb2 : Below w.heap.size w (w1.setCell ⟨w.heap.size, 2, none⟩ (.slice A1 b.reqs.length c1)) := (bel2M HB0.out HBC.out).setCell (p := ⟨w.heap.size, 2, none⟩) (Nat.le_refl _) _
  have hbox2 : (w1.setCell ⟨w.heap.size, 2, none⟩ (.slice A1 b.reqs.length c1)).heap[w.heap.size]? = some (.cells #[.int .i64 b.h, .string (strB b.prev), .slice A1 b.reqs.length c1, .slice D b.ress.length d] 33 (0, 0)) := by simp [World.setCell, Array.getElem?_modify, heapB HX1.out HBC.out]
  have hzb2 := (hgo (w.heap.size + 1) (by omega)).trans (heapB HX2.out HBC.out)
  have hn2 := HN2.out
  have ho2 : (w1.setCell ⟨w.heap.size, 2, none⟩ (.slice A1 b.reqs.length c1)).ownsRow (w.heap.size + 2) 82 2 (.slice A1 b.reqs.length c1) b.reqs.length (flatT E) := own_leL (own_keep HO1.out fun i hi => hgo i (by have := (HO1.out.lt i hi).1; omega)) (by omega)
  have hbs2 : ∀ p ∈ E, Bs (w1.setCell ⟨w.heap.size, 2, none⟩ (.slice A1 b.reqs.length c1)) p.2.2 p.2.1 ∧ (p.2.1 ≠ [] → ∀ k, p.2.2.ownBlock = some k → w.heap.size + 2 ≤ k) := fun p hp => by
    obtain ⟨h1, h2⟩ := HEB.out p hp
    exact ⟨h1.keep (by rw [hz12]; exact Nat.le_refl _) fun hne i hi => hgo i (by have := h2 hne i hi; omega), fun hne i hi => by have := h2 hne i hi; omega⟩
  clear hgo hz12
  generalize w1.setCell ⟨w.heap.size, 2, none⟩ (.slice A1 b.reqs.length c1) = w2 at *
  obtain ⟨y0, y1, y2, y3, y4⟩ := rows4 hbox2
  have HB2 := Lib.hid hb2
  have HBX := Lib.hid hbox2
  have HZB := Lib.hid hzb2
  have HO2 := Lib.hid ho2
  have HBS := Lib.hid hbs2
  clear hb2 hbox2 hzb2 ho2 hbs2 z0 z1 z2 z3 z4 p0 p1 p2 p3 p4
  obtain ⟨x0, x1, x2, x3, x4⟩ := rows4 (heapB HBX.out (alloc1B w2 (.cells #[] 86)))
  go_upto_region 3 with (at_builtin; refine wpList_append_rowsM rfl (.tmp 7) (.tmp 9) 31 rfl w2.heap.size 86 i1 (.agg #[.int .i64 0, .int .i64 0]) 2 16 Try.underlying31 hj hy0 hy1 hy2 rfl (by decide) _ 0 [] rfl (World.ownsRow_made w2 #[] 0 (Nat.le_refl _) (Nat.zero_le _) rfl) _ b.ress.length (b.ress.flatMap rsC) rfl ((HRR.out _ HB2.out).below (alloc1B w2 _)) (rsC_one _) (by have := HR20.out; unfold maxLen; omega) (by have := HR20.out; omega) (by simp) ?_; intro v3 w3 hown3 hg3 hor3; rw [Nat.zero_add, List.nil_append] at hown3; obtain ⟨A3, c3, rfl⟩ := own_slice hown3; have HO3 := Lib.hid hown3; have HB3 := Lib.hid ((alloc1B w2 (.cells #[] 86)).grown hg3 (by simp) (by intro k h; injection h with h; simp only at h; omega)); clear hown3 hg3 hor3; obtain ⟨z0, z1, z2, z3, z4⟩ := rows4 (heapB HBX.out HB3.out))
  have hgo : ∀ i, i ≠ w.heap.size → (w3.setCell ⟨w.heap.size, 3, none⟩ (.slice A3 b.ress.length c3)).heap[i]? = w3.heap[i]? := fun i hi => Go.Deep.blk_setCell_other _ _ _ _ hi
  have hz3 : (w3.setCell ⟨w.heap.size, 3, none⟩ (.slice A3 b.ress.length c3)).heap.size = w3.heap.size := by simp
  have hbox3 : (w3.setCell ⟨w.heap.size, 3, none⟩ (.slice A3 b.ress.length c3)).heap[w.heap.size]? = some (.cells #[.int .i64 b.h, .string (strB b.prev), .slice A1 b.reqs.length c1, .slice A3 b.ress.length c3] 33 (0, 0)) := by simp [World.setCell, Array.getElem?_modify, heapB HBX.out HB3.out]
  have hzb3 := (hgo (w.heap.size + 1) (by omega)).trans (heapB HZB.out HB3.out)
  have hbel3 : Below w.heap.size w (w3.setCell ⟨w.heap.size, 3, none⟩ (.slice A3 b.ress.length c3)) := (bel2M HB2.out HB3.out).setCell (p := ⟨w.heap.size, 3, none⟩) (Nat.le_refl _) _
  have hz2 := (Array.getElem?_eq_some_iff.1 HZB.out).1
  have hk1 : RowC (fun i => w.heap.size + 2 ≤ i) (w3.setCell ⟨w.heap.size, 3, none⟩ (.slice A3 b.ress.length c3)) 2 (EnvC (fun i => w.heap.size + 2 ≤ i)) A1 c1 b.reqs := by
    obtain ⟨A', c', e1, h1⟩ := rowC_tri (C := fun i => w.heap.size + 2 ≤ i) (w := w3.setCell ⟨w.heap.size, 3, none⟩ (.slice A3 b.ress.length c3)) (own_keep (own_keep HO2.out fun i hi => HB3.out.block i (HO2.out.lt i hi).2) fun i hi => hgo i (by have := (HO2.out.lt i hi).1; omega)) (fun i hi => hi) fun p hp => ⟨((HBS.out p hp).1.below HB3.out (Nat.le_refl _)).keep (by rw [hz3]; exact Nat.le_refl _) fun hne i hi => hgo i (by have := (HBS.out p hp).2 hne i hi; omega), (HBS.out p hp).2⟩
    rw [HE.out] at h1
    injection e1 with e2 e3 e4
    subst e2 e4
    exact h1
  have hk2 : RowC (fun i => w.heap.size + 2 ≤ i) (w3.setCell ⟨w.heap.size, 3, none⟩ (.slice A3 b.ress.length c3)) 2 ResP A3 c3 b.ress := by
    obtain ⟨A', c', e1, h3⟩ := rowC_res (C := fun i => w.heap.size + 2 ≤ i) (w := w3.setCell ⟨w.heap.size, 3, none⟩ (.slice A3 b.ress.length c3)) (own_keep HO3.out fun i hi => hgo i (by have := (HO3.out.lt i hi).1; omega)) (fun i hi => by omega)
    injection e1 with e2 e3 e4
    subst e2 e4
    exact h3
  clear hgo hz3 z0 z1 z2 z3 z4 x0 x1 x2 x3 x4 y0 y1 y2 y3 y4
  generalize w3.setCell ⟨w.heap.size, 3, none⟩ (.slice A3 b.ress.length c3) = w4 at *
  obtain ⟨y0, y1, y2, y3, y4⟩ := rows4 hbox3
  obtain ⟨z0, z1, z2, z3, z4⟩ := rows4 hzb3
  have hzl := (Array.getElem?_eq_some_iff.1 hzb3).1
  go_wp2
  refine bodyPost_ret (v := agB b A1 c1 A3 c3) (by simp [results, Try.results68, go_sem, z0, z1, z2, z3, hzl]) rfl ⟨A1, c1, A3, c3, rfl, ?_, ?_⟩
  · have hk : KeptC (fun i => w.heap.size + 2 ≤ i) (fun i => w.heap.size ≤ i) w4 ((((w4.setCell ⟨w.heap.size + 1, 0, none⟩ (.int .i64 b.h)).setCell ⟨w.heap.size + 1, 1, none⟩ (.string (strB b.prev))).setCell ⟨w.heap.size + 1, 2, none⟩ (.slice A1 b.reqs.length c1)).setCell ⟨w.heap.size + 1, 3, none⟩ (.slice A3 b.ress.length c3)) := fun i _ hi => by
      have hne : i ≠ w.heap.size + 1 := by simp only at hi; omega
      exact ⟨by rw [Go.Deep.blk_setCell_other _ _ _ _ hne, Go.Deep.blk_setCell_other _ _ _ _ hne, Go.Deep.blk_setCell_other _ _ _ _ hne, Go.Deep.blk_setCell_other _ _ _ _ hne], by simp only at hi ⊢; omega⟩
    exact BlkC.keep ⟨hk1, hk2⟩ (by simp) hk
  · exact (((hbel3.setCell (p := ⟨w.heap.size + 1, 0, none⟩) (Nat.le_succ _) _).setCell (p := ⟨w.heap.size + 1, 1, none⟩) (Nat.le_succ _) _).setCell (p := ⟨w.heap.size + 1, 2, none⟩) (Nat.le_succ _) _).setCell (p := ⟨w.heap.size + 1, 3, none⟩) (Nat.le_succ _) _

theorem four_le (a b c d : List UInt8) (ha : a.length = 8) (hb : b.length ≤ 10000000) (hc : c.length = 8) (hd : d.length ≤ 10000000) : (encT 5 [a, b, c, d]).length ≤ 10000000000000 := by
  rw [encT_length]
  simp [partsB, partB_length]
  omega
set_option maxHeartbeats 20000000 in
theorem rbDigest_any (hh : Int) (hp : List UInt8) (hn : Int) (hr : List UInt8) (w : World) (h1 : hp.length ≤ 10000000) (h2 : hr.length ≤ 10000000) : Calls Try.prog 86 #[agH hh hp hn hr] w (Tells (digB hh hp hn hr) w) := by
  have x1 := heap_alloc_new w (.cells #[.int .i64 hh, .string (strB hp), .int .i64 hn, .string (strB hr)] 107)
  have x3 := alloc1B w (.cells #[.int .i64 hh, .string (strB hp), .int .i64 hn, .string (strB hr)] 107)
  have HOF := Lib.hid (fun v W (hv : Bss W v [i8B hh, hp, i8B hn, hr]) => rOf_any 5 v [i8B hh, hp, i8B hn, hr] W hv (by simp) (by simp [i8B_length]; omega) (four_le _ _ _ _ (i8B_length _) h1 (i8B_length _) h2))
  have HP := Lib.hid (fun (n : Int) W => show Calls Try.prog 61 #[.slice none 0 0, .int .i64 n] W (Puts W (i8B n)) from rInt_any _ [] n W (Bs.nil W) (by simp))
  have HC1 := Lib.hid (show hp.length ≤ maxLen by unfold maxLen; omega)
  have HC2 := Lib.hid (show hr.length ≤ maxLen by unfold maxLen; omega)
  unfold digB
  generalize encT 5 [i8B hh, hp, i8B hn, hr] = en at *
  go_enter Try.func86, Try.ntmps86
  go_wp2
  generalize hw0 : (w.alloc (.cells #[.int .i64 hh, .string (strB hp), .int .i64 hn, .string (strB hr)] 107)) = w0 at *
  clear hw0
  have HB0 := Lib.hid x3
  have HK := Lib.hid (show ∀ W, Below w0.heap.size w0 W → (fun W => W.cell? ⟨w.heap.size, 0, none⟩ = some (.int .i64 hh) ∧ W.cell? ⟨w.heap.size, 1, none⟩ = some (.string (strB hp)) ∧ W.cell? ⟨w.heap.size, 2, none⟩ = some (.int .i64 hn) ∧ W.cell? ⟨w.heap.size, 3, none⟩ = some (.string (strB hr))) W from fun W h => ⟨cellB (rowCell x1 0 _ rfl) h, cellB (rowCell x1 1 _ rfl) h, cellB (rowCell x1 2 _ rfl) h, cellB (rowCell x1 3 _ rfl) h⟩)
  have HBC := Lib.hid (show Below w0.heap.size w0 w0.drew from (Below.refl _ _).drew)
  clear x1 x3 h1 h2
  refine wp_region_held_drew (S := (fun W => W.cell? ⟨w.heap.size, 0, none⟩ = some (.int .i64 hh) ∧ W.cell? ⟨w.heap.size, 1, none⟩ = some (.string (strB hp)) ∧ W.cell? ⟨w.heap.size, 2, none⟩ = some (.int .i64 hn) ∧ W.cell? ⟨w.heap.size, 3, none⟩ = some (.string (strB hr)))) (by kernel_rfl) (HK.out _ HBC.out) (fun hHeld => ?_)
  refine tk 0 ?_
  (try simp only [Act.put, sA, sB, sC])
  refine tk 1 ?_
  (try simp only [Act.put, sA, sB, sC])
  refine tk 3 ?_
  (try simp only [Act.put, sA, sB, sC])
  refine tk 4 ?_
  (try simp only [Act.put, sA, sB, sC])
  refine tk 6 ?_
  (try simp only [Act.put, sA, sB, sC])
  refine tk 7 ?_
  (try simp only [Act.put, sA, sB, sC])
  refine tk 9 ?_
  (try simp only [Act.put, sA, sB, sC])
  refine tk 10 ?_
  (try simp only [Act.put, sA, sB, sC])
  refine wpAnyH_norm (fuel' := 7) (listed' := #[true, true, false, true, true, false, true, true, false, true, true, false, false, false, false]) (by kernel_rfl) (by kernel_rfl) ?_
  refine wpAnyH_name (fun G hG => ?_)
  clear hHeld
  have st_2_5_8_11_12_13 : ∀ (A1 : Option Addr) (c1 : Nat) (C1A : Option Addr) (C1c : Nat) (A2 : Option Addr) (c2 : Nat) (C2A : Option Addr) (C2c : Nat) (g9 : Nat) (W : World) (HBC : Hid (Below w0.heap.size w0 W)) (F1 : Hid (Bs W (.slice A1 (i8B hh).length c1) (i8B hh))) (C1 : Hid (Bs W (.slice C1A hp.length C1c) hp)) (F2 : Hid (Bs W (.slice A2 (i8B hn).length c2) (i8B hn))) (C2 : Hid (Bs W (.slice C2A hr.length C2c) hr)) (GB : Hid (W.heap[g9]? = some (.cells #[.slice A1 (i8B hh).length c1, .slice C1A hp.length C1c, .slice A2 (i8B hn).length c2, .slice C2A hr.length C2c] 58 (0, 0)))), G 1 #[true, true, true, true, true, true, true, true, true, true, true, true, true, true, false] ⟨#[agH hh hp hn hr, .pointer (some ⟨w.heap.size, 0, none⟩), .string ⟨#[]⟩, .pointer (some ⟨w.heap.size, 0, none⟩), .int .i64 hh, .slice A1 (i8B hh).length c1, .pointer (some ⟨w.heap.size, 1, none⟩), .string (strB hp), .slice C1A hp.length C1c, .pointer (some ⟨w.heap.size, 2, none⟩), .int .i64 hn, .slice A2 (i8B hn).length c2, .pointer (some ⟨w.heap.size, 3, none⟩), .string (strB hr), .slice C2A hr.length C2c, .slice (some ⟨g9, 0, none⟩) 4 4, .string (strB en)], []⟩ W := by
    intro A1 c1 C1A C1c A2 c2 C2A C2c g9 W HBC F1 C1 F2 C2 GB
    rw [hG]
    have hHeld : ((fun W => W.cell? ⟨w.heap.size, 0, none⟩ = some (.int .i64 hh) ∧ W.cell? ⟨w.heap.size, 1, none⟩ = some (.string (strB hp)) ∧ W.cell? ⟨w.heap.size, 2, none⟩ = some (.int .i64 hn) ∧ W.cell? ⟨w.heap.size, 3, none⟩ = some (.string (strB hr)))) W := HK.out _ HBC.out
    refine wpAnyH_ready (rs := [14]) (by kernel_rfl) (by simp) ?_
    refine AllReadyH.cons (o := ?o9) ?g9 (fun K hK => ?j9) AllReadyH.nil
    case g9 => (simp only [gA, gB, gC]; rfl)
    case j9 =>
      go_simp
      refine hK.out _ _ (by (try dsimp only); exact hHeld) (fun _ => ?_)
      (try simp only [Act.put, sA, sB, sC])
      refine wpAnyH_done (by kernel_rfl) ?_ _
      go_wp2
      go_ret
      exact ⟨rfl, bel2M HB0.out HBC.out⟩
  have st_2_5_8_11_12 : ∀ (A1 : Option Addr) (c1 : Nat) (C1A : Option Addr) (C1c : Nat) (A2 : Option Addr) (c2 : Nat) (C2A : Option Addr) (C2c : Nat) (g9 : Nat) (W : World) (HBC : Hid (Below w0.heap.size w0 W)) (F1 : Hid (Bs W (.slice A1 (i8B hh).length c1) (i8B hh))) (C1 : Hid (Bs W (.slice C1A hp.length C1c) hp)) (F2 : Hid (Bs W (.slice A2 (i8B hn).length c2) (i8B hn))) (C2 : Hid (Bs W (.slice C2A hr.length C2c) hr)) (GB : Hid (W.heap[g9]? = some (.cells #[.slice A1 (i8B hh).length c1, .slice C1A hp.length C1c, .slice A2 (i8B hn).length c2, .slice C2A hr.length C2c] 58 (0, 0)))), G 2 #[true, true, true, true, true, true, true, true, true, true, true, true, true, false, false] ⟨#[agH hh hp hn hr, .pointer (some ⟨w.heap.size, 0, none⟩), .string ⟨#[]⟩, .pointer (some ⟨w.heap.size, 0, none⟩), .int .i64 hh, .slice A1 (i8B hh).length c1, .pointer (some ⟨w.heap.size, 1, none⟩), .string (strB hp), .slice C1A hp.length C1c, .pointer (some ⟨w.heap.size, 2, none⟩), .int .i64 hn, .slice A2 (i8B hn).length c2, .pointer (some ⟨w.heap.size, 3, none⟩), .string (strB hr), .slice C2A hr.length C2c, .slice (some ⟨g9, 0, none⟩) 4 4, undef], []⟩ W := by
    intro A1 c1 C1A C1c A2 c2 C2A C2c g9 W HBC F1 C1 F2 C2 GB
    rw [hG]
    have hHeld : ((fun W => W.cell? ⟨w.heap.size, 0, none⟩ = some (.int .i64 hh) ∧ W.cell? ⟨w.heap.size, 1, none⟩ = some (.string (strB hp)) ∧ W.cell? ⟨w.heap.size, 2, none⟩ = some (.int .i64 hn) ∧ W.cell? ⟨w.heap.size, 3, none⟩ = some (.string (strB hr)))) W := HK.out _ HBC.out
    refine wpAnyH_ready (rs := [13]) (by kernel_rfl) (by simp) ?_
    refine AllReadyH.cons (o := ?o10) ?g10 (fun K hK => ?j10) AllReadyH.nil
    case g10 => (simp only [gA, gB, gC]; rfl)
    case j10 =>
      go_simp
      (go_at_call 65; refine (HOF.out _ _ (bss_heap (vs := [.slice A1 (i8B hh).length c1, .slice C1A hp.length C1c, .slice A2 (i8B hn).length c2, .slice C2A hr.length C2c]) GB.out [i8B hh, hp, i8B hn, hr] 4 rfl (by decide) ⟨F1.out, C1.out, F2.out, C2.out, trivial⟩)).mono ?_)
      rintro e wz ⟨rfl, hbm⟩
      refine hK.out _ _ (by (try dsimp only); exact HK.out _ (bel2M HBC.out hbm)) (fun _ => ?_)
      (try simp only [Act.put, sA, sB, sC])
      refine wpAnyH_norm (fuel' := 1) (listed' := #[true, true, true, true, true, true, true, true, true, true, true, true, true, true, false]) (by kernel_rfl) (by kernel_rfl) ?_
      have hst := st_2_5_8_11_12_13 A1 c1 C1A C1c A2 c2 C2A C2c g9 _ (Lib.hid (bel2M HBC.out hbm)) (Lib.hid (F1.out.below hbm (Nat.le_refl _))) (Lib.hid (C1.out.below hbm (Nat.le_refl _))) (Lib.hid (F2.out.below hbm (Nat.le_refl _))) (Lib.hid (C2.out.below hbm (Nat.le_refl _))) (Lib.hid (heapB GB.out hbm))
      rw [hG] at hst
      exact hst
  have st_2_5_8_11 : ∀ (A1 : Option Addr) (c1 : Nat) (C1A : Option Addr) (C1c : Nat) (A2 : Option Addr) (c2 : Nat) (C2A : Option Addr) (C2c : Nat) (W : World) (HBC : Hid (Below w0.heap.size w0 W)) (F1 : Hid (Bs W (.slice A1 (i8B hh).length c1) (i8B hh))) (C1 : Hid (Bs W (.slice C1A hp.length C1c) hp)) (F2 : Hid (Bs W (.slice A2 (i8B hn).length c2) (i8B hn))) (C2 : Hid (Bs W (.slice C2A hr.length C2c) hr)), G 3 #[true, true, true, true, true, true, true, true, true, true, true, true, false, false, false] ⟨#[agH hh hp hn hr, .pointer (some ⟨w.heap.size, 0, none⟩), .string ⟨#[]⟩, .pointer (some ⟨w.heap.size, 0, none⟩), .int .i64 hh, .slice A1 (i8B hh).length c1, .pointer (some ⟨w.heap.size, 1, none⟩), .string (strB hp), .slice C1A hp.length C1c, .pointer (some ⟨w.heap.size, 2, none⟩), .int .i64 hn, .slice A2 (i8B hn).length c2, .pointer (some ⟨w.heap.size, 3, none⟩), .string (strB hr), .slice C2A hr.length C2c, undef, undef], []⟩ W := by
    intro A1 c1 C1A C1c A2 c2 C2A C2c W HBC F1 C1 F2 C2
    rw [hG]
    have hHeld : ((fun W => W.cell? ⟨w.heap.size, 0, none⟩ = some (.int .i64 hh) ∧ W.cell? ⟨w.heap.size, 1, none⟩ = some (.string (strB hp)) ∧ W.cell? ⟨w.heap.size, 2, none⟩ = some (.int .i64 hn) ∧ W.cell? ⟨w.heap.size, 3, none⟩ = some (.string (strB hr)))) W := HK.out _ HBC.out
    refine wpAnyH_ready (rs := [12]) (by kernel_rfl) (by simp) ?_
    refine AllReadyH.cons (o := ?o11) ?g11 (fun K hK => ?j11) AllReadyH.nil
    case g11 => (simp only [gA, gB, gC]; rfl)
    case j11 =>
      refine step_built rfl 98 4 _ rfl #[.slice A1 (i8B hh).length c1, .slice C1A hp.length C1c, .slice A2 (i8B hn).length c2, .slice C2A hr.length C2c] 58 (fun W => by go_simp) ?_
      intro g9 w' hg hbm hge
      have GB := Lib.hid hg
      refine hK.out _ _ (by (try dsimp only); exact HK.out _ (bel2M HBC.out hbm)) (fun _ => ?_)
      (try simp only [Act.put, sA, sB, sC])
      refine wpAnyH_norm (fuel' := 2) (listed' := #[true, true, true, true, true, true, true, true, true, true, true, true, true, false, false]) (by kernel_rfl) (by kernel_rfl) ?_
      have hst := st_2_5_8_11_12 A1 c1 C1A C1c A2 c2 C2A C2c g9 _ (Lib.hid (bel2M HBC.out hbm)) (Lib.hid (F1.out.below hbm (Nat.le_refl _))) (Lib.hid (C1.out.below hbm (Nat.le_refl _))) (Lib.hid (F2.out.below hbm (Nat.le_refl _))) (Lib.hid (C2.out.below hbm (Nat.le_refl _))) GB
      rw [hG] at hst
      exact hst
  have st_2_5_11 : ∀ (A1 : Option Addr) (c1 : Nat) (C1A : Option Addr) (C1c : Nat) (C2A : Option Addr) (C2c : Nat) (W : World) (HBC : Hid (Below w0.heap.size w0 W)) (F1 : Hid (Bs W (.slice A1 (i8B hh).length c1) (i8B hh))) (C1 : Hid (Bs W (.slice C1A hp.length C1c) hp)) (C2 : Hid (Bs W (.slice C2A hr.length C2c) hr)), G 4 #[true, true, true, true, true, true, true, true, false, true, true, true, false, false, false] ⟨#[agH hh hp hn hr, .pointer (some ⟨w.heap.size, 0, none⟩), .string ⟨#[]⟩, .pointer (some ⟨w.heap.size, 0, none⟩), .int .i64 hh, .slice A1 (i8B hh).length c1, .pointer (some ⟨w.heap.size, 1, none⟩), .string (strB hp), .slice C1A hp.length C1c, .pointer (some ⟨w.heap.size, 2, none⟩), .int .i64 hn, undef, .pointer (some ⟨w.heap.size, 3, none⟩), .string (strB hr), .slice C2A hr.length C2c, undef, undef], []⟩ W := by
    intro A1 c1 C1A C1c C2A C2c W HBC F1 C1 C2
    rw [hG]
    have hHeld : ((fun W => W.cell? ⟨w.heap.size, 0, none⟩ = some (.int .i64 hh) ∧ W.cell? ⟨w.heap.size, 1, none⟩ = some (.string (strB hp)) ∧ W.cell? ⟨w.heap.size, 2, none⟩ = some (.int .i64 hn) ∧ W.cell? ⟨w.heap.size, 3, none⟩ = some (.string (strB hr)))) W := HK.out _ HBC.out
    refine wpAnyH_ready (rs := [8]) (by kernel_rfl) (by simp) ?_
    refine AllReadyH.cons (o := ?o12) ?g12 (fun K hK => ?j12) AllReadyH.nil
    case g12 => (simp only [gA, gB, gC]; rfl)
    case j12 =>
      go_simp
      (go_at_call 61; refine (HP.out hn _).mono ?_)
      rintro e wa ⟨va, rfl, hoa, hbm⟩
      obtain ⟨A2, c2, rfl, -⟩ := (own_bs hoa).open
      have F2 := Lib.hid (own_bs hoa)
      refine hK.out _ _ (by (try dsimp only); exact HK.out _ (bel2M HBC.out hbm)) (fun _ => ?_)
      (try simp only [Act.put, sA, sB, sC])
      refine wpAnyH_norm (fuel' := 3) (listed' := #[true, true, true, true, true, true, true, true, true, true, true, true, false, false, false]) (by kernel_rfl) (by kernel_rfl) ?_
      have hst := st_2_5_8_11 A1 c1 C1A C1c A2 c2 C2A C2c _ (Lib.hid (bel2M HBC.out hbm)) (Lib.hid (F1.out.below hbm (Nat.le_refl _))) (Lib.hid (C1.out.below hbm (Nat.le_refl _))) F2 (Lib.hid (C2.out.below hbm (Nat.le_refl _)))
      rw [hG] at hst
      exact hst
  have st_2_8_11 : ∀ (A1 : Option Addr) (c1 : Nat) (A2 : Option Addr) (c2 : Nat) (C2A : Option Addr) (C2c : Nat) (W : World) (HBC : Hid (Below w0.heap.size w0 W)) (F1 : Hid (Bs W (.slice A1 (i8B hh).length c1) (i8B hh))) (F2 : Hid (Bs W (.slice A2 (i8B hn).length c2) (i8B hn))) (C2 : Hid (Bs W (.slice C2A hr.length C2c) hr)), G 4 #[true, true, true, true, true, false, true, true, true, true, true, true, false, false, false] ⟨#[agH hh hp hn hr, .pointer (some ⟨w.heap.size, 0, none⟩), .string ⟨#[]⟩, .pointer (some ⟨w.heap.size, 0, none⟩), .int .i64 hh, .slice A1 (i8B hh).length c1, .pointer (some ⟨w.heap.size, 1, none⟩), .string (strB hp), undef, .pointer (some ⟨w.heap.size, 2, none⟩), .int .i64 hn, .slice A2 (i8B hn).length c2, .pointer (some ⟨w.heap.size, 3, none⟩), .string (strB hr), .slice C2A hr.length C2c, undef, undef], []⟩ W := by
    intro A1 c1 A2 c2 C2A C2c W HBC F1 F2 C2
    rw [hG]
    have hHeld : ((fun W => W.cell? ⟨w.heap.size, 0, none⟩ = some (.int .i64 hh) ∧ W.cell? ⟨w.heap.size, 1, none⟩ = some (.string (strB hp)) ∧ W.cell? ⟨w.heap.size, 2, none⟩ = some (.int .i64 hn) ∧ W.cell? ⟨w.heap.size, 3, none⟩ = some (.string (strB hr)))) W := HK.out _ HBC.out
    refine wpAnyH_ready (rs := [5]) (by kernel_rfl) (by simp) ?_
    refine AllReadyH.cons (o := ?o13) ?g13 (fun K hK => ?j13) AllReadyH.nil
    case g13 => (simp only [gA, gB, gC]; rfl)
    case j13 =>
      refine step_conv rfl _ 29 58 rfl _ Try.underlying29 Try.underlying58 Try.underlying5 hp rfl (HC1.out) ?_
      intro C1A C1c w' hcs hbm
      have C1 := Lib.hid hcs
      refine hK.out _ _ (by (try dsimp only); exact HK.out _ (bel2M HBC.out hbm)) (fun _ => ?_)
      (try simp only [Act.put, sA, sB, sC])
      refine wpAnyH_norm (fuel' := 3) (listed' := #[true, true, true, true, true, true, true, true, true, true, true, true, false, false, false]) (by kernel_rfl) (by kernel_rfl) ?_
      have hst := st_2_5_8_11 A1 c1 C1A C1c A2 c2 C2A C2c _ (Lib.hid (bel2M HBC.out hbm)) (Lib.hid (F1.out.below hbm (Nat.le_refl _))) C1 (Lib.hid (F2.out.below hbm (Nat.le_refl _))) (Lib.hid (C2.out.below hbm (Nat.le_refl _)))
      rw [hG] at hst
      exact hst
  have st_2_5_8 : ∀ (A1 : Option Addr) (c1 : Nat) (C1A : Option Addr) (C1c : Nat) (A2 : Option Addr) (c2 : Nat) (W : World) (HBC : Hid (Below w0.heap.size w0 W)) (F1 : Hid (Bs W (.slice A1 (i8B hh).length c1) (i8B hh))) (C1 : Hid (Bs W (.slice C1A hp.length C1c) hp)) (F2 : Hid (Bs W (.slice A2 (i8B hn).length c2) (i8B hn))), G 4 #[true, true, true, true, true, true, true, true, true, true, true, false, false, false, false] ⟨#[agH hh hp hn hr, .pointer (some ⟨w.heap.size, 0, none⟩), .string ⟨#[]⟩, .pointer (some ⟨w.heap.size, 0, none⟩), .int .i64 hh, .slice A1 (i8B hh).length c1, .pointer (some ⟨w.heap.size, 1, none⟩), .string (strB hp), .slice C1A hp.length C1c, .pointer (some ⟨w.heap.size, 2, none⟩), .int .i64 hn, .slice A2 (i8B hn).length c2, .pointer (some ⟨w.heap.size, 3, none⟩), .string (strB hr), undef, undef, undef], []⟩ W := by
    intro A1 c1 C1A C1c A2 c2 W HBC F1 C1 F2
    rw [hG]
    have hHeld : ((fun W => W.cell? ⟨w.heap.size, 0, none⟩ = some (.int .i64 hh) ∧ W.cell? ⟨w.heap.size, 1, none⟩ = some (.string (strB hp)) ∧ W.cell? ⟨w.heap.size, 2, none⟩ = some (.int .i64 hn) ∧ W.cell? ⟨w.heap.size, 3, none⟩ = some (.string (strB hr)))) W := HK.out _ HBC.out
    refine wpAnyH_ready (rs := [11]) (by kernel_rfl) (by simp) ?_
    refine AllReadyH.cons (o := ?o14) ?g14 (fun K hK => ?j14) AllReadyH.nil
    case g14 => (simp only [gA, gB, gC]; rfl)
    case j14 =>
      refine step_conv rfl _ 29 58 rfl _ Try.underlying29 Try.underlying58 Try.underlying5 hr rfl (HC2.out) ?_
      intro C2A C2c w' hcs hbm
      have C2 := Lib.hid hcs
      refine hK.out _ _ (by (try dsimp only); exact HK.out _ (bel2M HBC.out hbm)) (fun _ => ?_)
      (try simp only [Act.put, sA, sB, sC])
      refine wpAnyH_norm (fuel' := 3) (listed' := #[true, true, true, true, true, true, true, true, true, true, true, true, false, false, false]) (by kernel_rfl) (by kernel_rfl) ?_
      have hst := st_2_5_8_11 A1 c1 C1A C1c A2 c2 C2A C2c _ (Lib.hid (bel2M HBC.out hbm)) (Lib.hid (F1.out.below hbm (Nat.le_refl _))) (Lib.hid (C1.out.below hbm (Nat.le_refl _))) (Lib.hid (F2.out.below hbm (Nat.le_refl _))) C2
      rw [hG] at hst
      exact hst
  have st_5_11 : ∀ (C1A : Option Addr) (C1c : Nat) (C2A : Option Addr) (C2c : Nat) (W : World) (HBC : Hid (Below w0.heap.size w0 W)) (C1 : Hid (Bs W (.slice C1A hp.length C1c) hp)) (C2 : Hid (Bs W (.slice C2A hr.length C2c) hr)), G 5 #[true, true, false, true, true, true, true, true, false, true, true, true, false, false, false] ⟨#[agH hh hp hn hr, .pointer (some ⟨w.heap.size, 0, none⟩), .string ⟨#[]⟩, .pointer (some ⟨w.heap.size, 0, none⟩), .int .i64 hh, undef, .pointer (some ⟨w.heap.size, 1, none⟩), .string (strB hp), .slice C1A hp.length C1c, .pointer (some ⟨w.heap.size, 2, none⟩), .int .i64 hn, undef, .pointer (some ⟨w.heap.size, 3, none⟩), .string (strB hr), .slice C2A hr.length C2c, undef, undef], []⟩ W := by
    intro C1A C1c C2A C2c W HBC C1 C2
    rw [hG]
    have hHeld : ((fun W => W.cell? ⟨w.heap.size, 0, none⟩ = some (.int .i64 hh) ∧ W.cell? ⟨w.heap.size, 1, none⟩ = some (.string (strB hp)) ∧ W.cell? ⟨w.heap.size, 2, none⟩ = some (.int .i64 hn) ∧ W.cell? ⟨w.heap.size, 3, none⟩ = some (.string (strB hr)))) W := HK.out _ HBC.out
    refine wpAnyH_ready (rs := [2]) (by kernel_rfl) (by simp) ?_
    refine AllReadyH.cons (o := ?o15) ?g15 (fun K hK => ?j15) AllReadyH.nil
    case g15 => (simp only [gA, gB, gC]; rfl)
    case j15 =>
      go_simp
      (go_at_call 61; refine (HP.out hh _).mono ?_)
      rintro e wa ⟨va, rfl, hoa, hbm⟩
      obtain ⟨A1, c1, rfl, -⟩ := (own_bs hoa).open
      have F1 := Lib.hid (own_bs hoa)
      refine hK.out _ _ (by (try dsimp only); exact HK.out _ (bel2M HBC.out hbm)) (fun _ => ?_)
      (try simp only [Act.put, sA, sB, sC])
      refine wpAnyH_norm (fuel' := 4) (listed' := #[true, true, true, true, true, true, true, true, false, true, true, true, false, false, false]) (by kernel_rfl) (by kernel_rfl) ?_
      have hst := st_2_5_11 A1 c1 C1A C1c C2A C2c _ (Lib.hid (bel2M HBC.out hbm)) F1 (Lib.hid (C1.out.below hbm (Nat.le_refl _))) (Lib.hid (C2.out.below hbm (Nat.le_refl _)))
      rw [hG] at hst
      exact hst
  have st_2_11 : ∀ (A1 : Option Addr) (c1 : Nat) (C2A : Option Addr) (C2c : Nat) (W : World) (HBC : Hid (Below w0.heap.size w0 W)) (F1 : Hid (Bs W (.slice A1 (i8B hh).length c1) (i8B hh))) (C2 : Hid (Bs W (.slice C2A hr.length C2c) hr)), G 5 #[true, true, true, true, true, false, true, true, false, true, true, true, false, false, false] ⟨#[agH hh hp hn hr, .pointer (some ⟨w.heap.size, 0, none⟩), .string ⟨#[]⟩, .pointer (some ⟨w.heap.size, 0, none⟩), .int .i64 hh, .slice A1 (i8B hh).length c1, .pointer (some ⟨w.heap.size, 1, none⟩), .string (strB hp), undef, .pointer (some ⟨w.heap.size, 2, none⟩), .int .i64 hn, undef, .pointer (some ⟨w.heap.size, 3, none⟩), .string (strB hr), .slice C2A hr.length C2c, undef, undef], []⟩ W := by
    intro A1 c1 C2A C2c W HBC F1 C2
    rw [hG]
    have hHeld : ((fun W => W.cell? ⟨w.heap.size, 0, none⟩ = some (.int .i64 hh) ∧ W.cell? ⟨w.heap.size, 1, none⟩ = some (.string (strB hp)) ∧ W.cell? ⟨w.heap.size, 2, none⟩ = some (.int .i64 hn) ∧ W.cell? ⟨w.heap.size, 3, none⟩ = some (.string (strB hr)))) W := HK.out _ HBC.out
    refine wpAnyH_ready (rs := [5, 8]) (by kernel_rfl) (by simp) ?_
    refine AllReadyH.cons (o := ?o16) ?g16 (fun K hK => ?j16) (AllReadyH.cons (o := ?o17) ?g17 (fun K hK => ?j17) AllReadyH.nil)
    case g16 => (simp only [gA, gB, gC]; rfl)
    case g17 => (simp only [gA, gB, gC]; rfl)
    case j16 =>
      refine step_conv rfl _ 29 58 rfl _ Try.underlying29 Try.underlying58 Try.underlying5 hp rfl (HC1.out) ?_
      intro C1A C1c w' hcs hbm
      have C1 := Lib.hid hcs
      refine hK.out _ _ (by (try dsimp only); exact HK.out _ (bel2M HBC.out hbm)) (fun _ => ?_)
      (try simp only [Act.put, sA, sB, sC])
      refine wpAnyH_norm (fuel' := 4) (listed' := #[true, true, true, true, true, true, true, true, false, true, true, true, false, false, false]) (by kernel_rfl) (by kernel_rfl) ?_
      have hst := st_2_5_11 A1 c1 C1A C1c C2A C2c _ (Lib.hid (bel2M HBC.out hbm)) (Lib.hid (F1.out.below hbm (Nat.le_refl _))) C1 (Lib.hid (C2.out.below hbm (Nat.le_refl _)))
      rw [hG] at hst
      exact hst
    case j17 =>
      go_simp
      (go_at_call 61; refine (HP.out hn _).mono ?_)
      rintro e wa ⟨va, rfl, hoa, hbm⟩
      obtain ⟨A2, c2, rfl, -⟩ := (own_bs hoa).open
      have F2 := Lib.hid (own_bs hoa)
      refine hK.out _ _ (by (try dsimp only); exact HK.out _ (bel2M HBC.out hbm)) (fun _ => ?_)
      (try simp only [Act.put, sA, sB, sC])
      refine wpAnyH_norm (fuel' := 4) (listed' := #[true, true, true, true, true, false, true, true, true, true, true, true, false, false, false]) (by kernel_rfl) (by kernel_rfl) ?_
      have hst := st_2_8_11 A1 c1 A2 c2 C2A C2c _ (Lib.hid (bel2M HBC.out hbm)) (Lib.hid (F1.out.below hbm (Nat.le_refl _))) F2 (Lib.hid (C2.out.below hbm (Nat.le_refl _)))
      rw [hG] at hst
      exact hst
  have st_2_5 : ∀ (A1 : Option Addr) (c1 : Nat) (C1A : Option Addr) (C1c : Nat) (W : World) (HBC : Hid (Below w0.heap.size w0 W)) (F1 : Hid (Bs W (.slice A1 (i8B hh).length c1) (i8B hh))) (C1 : Hid (Bs W (.slice C1A hp.length C1c) hp)), G 5 #[true, true, true, true, true, true, true, true, false, true, true, false, false, false, false] ⟨#[agH hh hp hn hr, .pointer (some ⟨w.heap.size, 0, none⟩), .string ⟨#[]⟩, .pointer (some ⟨w.heap.size, 0, none⟩), .int .i64 hh, .slice A1 (i8B hh).length c1, .pointer (some ⟨w.heap.size, 1, none⟩), .string (strB hp), .slice C1A hp.length C1c, .pointer (some ⟨w.heap.size, 2, none⟩), .int .i64 hn, undef, .pointer (some ⟨w.heap.size, 3, none⟩), .string (strB hr), undef, undef, undef], []⟩ W := by
    intro A1 c1 C1A C1c W HBC F1 C1
    rw [hG]
    have hHeld : ((fun W => W.cell? ⟨w.heap.size, 0, none⟩ = some (.int .i64 hh) ∧ W.cell? ⟨w.heap.size, 1, none⟩ = some (.string (strB hp)) ∧ W.cell? ⟨w.heap.size, 2, none⟩ = some (.int .i64 hn) ∧ W.cell? ⟨w.heap.size, 3, none⟩ = some (.string (strB hr)))) W := HK.out _ HBC.out
    refine wpAnyH_ready (rs := [8, 11]) (by kernel_rfl) (by simp) ?_
    refine AllReadyH.cons (o := ?o18) ?g18 (fun K hK => ?j18) (AllReadyH.cons (o := ?o19) ?g19 (fun K hK => ?j19) AllReadyH.nil)
    case g18 => (simp only [gA, gB, gC]; rfl)
    case g19 => (simp only [gA, gB, gC]; rfl)
    case j18 =>
      go_simp
      (go_at_call 61; refine (HP.out hn _).mono ?_)
      rintro e wa ⟨va, rfl, hoa, hbm⟩
      obtain ⟨A2, c2, rfl, -⟩ := (own_bs hoa).open
      have F2 := Lib.hid (own_bs hoa)
      refine hK.out _ _ (by (try dsimp only); exact HK.out _ (bel2M HBC.out hbm)) (fun _ => ?_)
      (try simp only [Act.put, sA, sB, sC])
      refine wpAnyH_norm (fuel' := 4) (listed' := #[true, true, true, true, true, true, true, true, true, true, true, false, false, false, false]) (by kernel_rfl) (by kernel_rfl) ?_
      have hst := st_2_5_8 A1 c1 C1A C1c A2 c2 _ (Lib.hid (bel2M HBC.out hbm)) (Lib.hid (F1.out.below hbm (Nat.le_refl _))) (Lib.hid (C1.out.below hbm (Nat.le_refl _))) F2
      rw [hG] at hst
      exact hst
    case j19 =>
      refine step_conv rfl _ 29 58 rfl _ Try.underlying29 Try.underlying58 Try.underlying5 hr rfl (HC2.out) ?_
      intro C2A C2c w' hcs hbm
      have C2 := Lib.hid hcs
      refine hK.out _ _ (by (try dsimp only); exact HK.out _ (bel2M HBC.out hbm)) (fun _ => ?_)
      (try simp only [Act.put, sA, sB, sC])
      refine wpAnyH_norm (fuel' := 4) (listed' := #[true, true, true, true, true, true, true, true, false, true, true, true, false, false, false]) (by kernel_rfl) (by kernel_rfl) ?_
      have hst := st_2_5_11 A1 c1 C1A C1c C2A C2c _ (Lib.hid (bel2M HBC.out hbm)) (Lib.hid (F1.out.below hbm (Nat.le_refl _))) (Lib.hid (C1.out.below hbm (Nat.le_refl _))) C2
      rw [hG] at hst
      exact hst
  have st_2_8 : ∀ (A1 : Option Addr) (c1 : Nat) (A2 : Option Addr) (c2 : Nat) (W : World) (HBC : Hid (Below w0.heap.size w0 W)) (F1 : Hid (Bs W (.slice A1 (i8B hh).length c1) (i8B hh))) (F2 : Hid (Bs W (.slice A2 (i8B hn).length c2) (i8B hn))), G 5 #[true, true, true, true, true, false, true, true, true, true, true, false, false, false, false] ⟨#[agH hh hp hn hr, .pointer (some ⟨w.heap.size, 0, none⟩), .string ⟨#[]⟩, .pointer (some ⟨w.heap.size, 0, none⟩), .int .i64 hh, .slice A1 (i8B hh).length c1, .pointer (some ⟨w.heap.size, 1, none⟩), .string (strB hp), undef, .pointer (some ⟨w.heap.size, 2, none⟩), .int .i64 hn, .slice A2 (i8B hn).length c2, .pointer (some ⟨w.heap.size, 3, none⟩), .string (strB hr), undef, undef, undef], []⟩ W := by
    intro A1 c1 A2 c2 W HBC F1 F2
    rw [hG]
    have hHeld : ((fun W => W.cell? ⟨w.heap.size, 0, none⟩ = some (.int .i64 hh) ∧ W.cell? ⟨w.heap.size, 1, none⟩ = some (.string (strB hp)) ∧ W.cell? ⟨w.heap.size, 2, none⟩ = some (.int .i64 hn) ∧ W.cell? ⟨w.heap.size, 3, none⟩ = some (.string (strB hr)))) W := HK.out _ HBC.out
    refine wpAnyH_ready (rs := [5, 11]) (by kernel_rfl) (by simp) ?_
    refine AllReadyH.cons (o := ?o20) ?g20 (fun K hK => ?j20) (AllReadyH.cons (o := ?o21) ?g21 (fun K hK => ?j21) AllReadyH.nil)
    case g20 => (simp only [gA, gB, gC]; rfl)
    case g21 => (simp only [gA, gB, gC]; rfl)
    case j20 =>
      refine step_conv rfl _ 29 58 rfl _ Try.underlying29 Try.underlying58 Try.underlying5 hp rfl (HC1.out) ?_
      intro C1A C1c w' hcs hbm
      have C1 := Lib.hid hcs
      refine hK.out _ _ (by (try dsimp only); exact HK.out _ (bel2M HBC.out hbm)) (fun _ => ?_)
      (try simp only [Act.put, sA, sB, sC])
      refine wpAnyH_norm (fuel' := 4) (listed' := #[true, true, true, true, true, true, true, true, true, true, true, false, false, false, false]) (by kernel_rfl) (by kernel_rfl) ?_
      have hst := st_2_5_8 A1 c1 C1A C1c A2 c2 _ (Lib.hid (bel2M HBC.out hbm)) (Lib.hid (F1.out.below hbm (Nat.le_refl _))) C1 (Lib.hid (F2.out.below hbm (Nat.le_refl _)))
      rw [hG] at hst
      exact hst
    case j21 =>
      refine step_conv rfl _ 29 58 rfl _ Try.underlying29 Try.underlying58 Try.underlying5 hr rfl (HC2.out) ?_
      intro C2A C2c w' hcs hbm
      have C2 := Lib.hid hcs
      refine hK.out _ _ (by (try dsimp only); exact HK.out _ (bel2M HBC.out hbm)) (fun _ => ?_)
      (try simp only [Act.put, sA, sB, sC])
      refine wpAnyH_norm (fuel' := 4) (listed' := #[true, true, true, true, true, false, true, true, true, true, true, true, false, false, false]) (by kernel_rfl) (by kernel_rfl) ?_
      have hst := st_2_8_11 A1 c1 A2 c2 C2A C2c _ (Lib.hid (bel2M HBC.out hbm)) (Lib.hid (F1.out.below hbm (Nat.le_refl _))) (Lib.hid (F2.out.below hbm (Nat.le_refl _))) C2
      rw [hG] at hst
      exact hst
  have st_11 : ∀ (C2A : Option Addr) (C2c : Nat) (W : World) (HBC : Hid (Below w0.heap.size w0 W)) (C2 : Hid (Bs W (.slice C2A hr.length C2c) hr)), G 6 #[true, true, false, true, true, false, true, true, false, true, true, true, false, false, false] ⟨#[agH hh hp hn hr, .pointer (some ⟨w.heap.size, 0, none⟩), .string ⟨#[]⟩, .pointer (some ⟨w.heap.size, 0, none⟩), .int .i64 hh, undef, .pointer (some ⟨w.heap.size, 1, none⟩), .string (strB hp), undef, .pointer (some ⟨w.heap.size, 2, none⟩), .int .i64 hn, undef, .pointer (some ⟨w.heap.size, 3, none⟩), .string (strB hr), .slice C2A hr.length C2c, undef, undef], []⟩ W := by
    intro C2A C2c W HBC C2
    rw [hG]
    have hHeld : ((fun W => W.cell? ⟨w.heap.size, 0, none⟩ = some (.int .i64 hh) ∧ W.cell? ⟨w.heap.size, 1, none⟩ = some (.string (strB hp)) ∧ W.cell? ⟨w.heap.size, 2, none⟩ = some (.int .i64 hn) ∧ W.cell? ⟨w.heap.size, 3, none⟩ = some (.string (strB hr)))) W := HK.out _ HBC.out
    refine wpAnyH_ready (rs := [2, 5]) (by kernel_rfl) (by simp) ?_
    refine AllReadyH.cons (o := ?o22) ?g22 (fun K hK => ?j22) (AllReadyH.cons (o := ?o23) ?g23 (fun K hK => ?j23) AllReadyH.nil)
    case g22 => (simp only [gA, gB, gC]; rfl)
    case g23 => (simp only [gA, gB, gC]; rfl)
    case j22 =>
      go_simp
      (go_at_call 61; refine (HP.out hh _).mono ?_)
      rintro e wa ⟨va, rfl, hoa, hbm⟩
      obtain ⟨A1, c1, rfl, -⟩ := (own_bs hoa).open
      have F1 := Lib.hid (own_bs hoa)
      refine hK.out _ _ (by (try dsimp only); exact HK.out _ (bel2M HBC.out hbm)) (fun _ => ?_)
      (try simp only [Act.put, sA, sB, sC])
      refine wpAnyH_norm (fuel' := 5) (listed' := #[true, true, true, true, true, false, true, true, false, true, true, true, false, false, false]) (by kernel_rfl) (by kernel_rfl) ?_
      have hst := st_2_11 A1 c1 C2A C2c _ (Lib.hid (bel2M HBC.out hbm)) F1 (Lib.hid (C2.out.below hbm (Nat.le_refl _)))
      rw [hG] at hst
      exact hst
    case j23 =>
      refine step_conv rfl _ 29 58 rfl _ Try.underlying29 Try.underlying58 Try.underlying5 hp rfl (HC1.out) ?_
      intro C1A C1c w' hcs hbm
      have C1 := Lib.hid hcs
      refine hK.out _ _ (by (try dsimp only); exact HK.out _ (bel2M HBC.out hbm)) (fun _ => ?_)
      (try simp only [Act.put, sA, sB, sC])
      refine wpAnyH_norm (fuel' := 5) (listed' := #[true, true, false, true, true, true, true, true, false, true, true, true, false, false, false]) (by kernel_rfl) (by kernel_rfl) ?_
      have hst := st_5_11 C1A C1c C2A C2c _ (Lib.hid (bel2M HBC.out hbm)) C1 (Lib.hid (C2.out.below hbm (Nat.le_refl _)))
      rw [hG] at hst
      exact hst
  have st_5 : ∀ (C1A : Option Addr) (C1c : Nat) (W : World) (HBC : Hid (Below w0.heap.size w0 W)) (C1 : Hid (Bs W (.slice C1A hp.length C1c) hp)), G 6 #[true, true, false, true, true, true, true, true, false, true, true, false, false, false, false] ⟨#[agH hh hp hn hr, .pointer (some ⟨w.heap.size, 0, none⟩), .string ⟨#[]⟩, .pointer (some ⟨w.heap.size, 0, none⟩), .int .i64 hh, undef, .pointer (some ⟨w.heap.size, 1, none⟩), .string (strB hp), .slice C1A hp.length C1c, .pointer (some ⟨w.heap.size, 2, none⟩), .int .i64 hn, undef, .pointer (some ⟨w.heap.size, 3, none⟩), .string (strB hr), undef, undef, undef], []⟩ W := by
    intro C1A C1c W HBC C1
    rw [hG]
    have hHeld : ((fun W => W.cell? ⟨w.heap.size, 0, none⟩ = some (.int .i64 hh) ∧ W.cell? ⟨w.heap.size, 1, none⟩ = some (.string (strB hp)) ∧ W.cell? ⟨w.heap.size, 2, none⟩ = some (.int .i64 hn) ∧ W.cell? ⟨w.heap.size, 3, none⟩ = some (.string (strB hr)))) W := HK.out _ HBC.out
    refine wpAnyH_ready (rs := [2, 11]) (by kernel_rfl) (by simp) ?_
    refine AllReadyH.cons (o := ?o24) ?g24 (fun K hK => ?j24) (AllReadyH.cons (o := ?o25) ?g25 (fun K hK => ?j25) AllReadyH.nil)
    case g24 => (simp only [gA, gB, gC]; rfl)
    case g25 => (simp only [gA, gB, gC]; rfl)
    case j24 =>
      go_simp
      (go_at_call 61; refine (HP.out hh _).mono ?_)
      rintro e wa ⟨va, rfl, hoa, hbm⟩
      obtain ⟨A1, c1, rfl, -⟩ := (own_bs hoa).open
      have F1 := Lib.hid (own_bs hoa)
      refine hK.out _ _ (by (try dsimp only); exact HK.out _ (bel2M HBC.out hbm)) (fun _ => ?_)
      (try simp only [Act.put, sA, sB, sC])
      refine wpAnyH_norm (fuel' := 5) (listed' := #[true, true, true, true, true, true, true, true, false, true, true, false, false, false, false]) (by kernel_rfl) (by kernel_rfl) ?_
      have hst := st_2_5 A1 c1 C1A C1c _ (Lib.hid (bel2M HBC.out hbm)) F1 (Lib.hid (C1.out.below hbm (Nat.le_refl _)))
      rw [hG] at hst
      exact hst
    case j25 =>
      refine step_conv rfl _ 29 58 rfl _ Try.underlying29 Try.underlying58 Try.underlying5 hr rfl (HC2.out) ?_
      intro C2A C2c w' hcs hbm
      have C2 := Lib.hid hcs
      refine hK.out _ _ (by (try dsimp only); exact HK.out _ (bel2M HBC.out hbm)) (fun _ => ?_)
      (try simp only [Act.put, sA, sB, sC])
      refine wpAnyH_norm (fuel' := 5) (listed' := #[true, true, false, true, true, true, true, true, false, true, true, true, false, false, false]) (by kernel_rfl) (by kernel_rfl) ?_
      have hst := st_5_11 C1A C1c C2A C2c _ (Lib.hid (bel2M HBC.out hbm)) (Lib.hid (C1.out.below hbm (Nat.le_refl _))) C2
      rw [hG] at hst
      exact hst
  have st_2 : ∀ (A1 : Option Addr) (c1 : Nat) (W : World) (HBC : Hid (Below w0.heap.size w0 W)) (F1 : Hid (Bs W (.slice A1 (i8B hh).length c1) (i8B hh))), G 6 #[true, true, true, true, true, false, true, true, false, true, true, false, false, false, false] ⟨#[agH hh hp hn hr, .pointer (some ⟨w.heap.size, 0, none⟩), .string ⟨#[]⟩, .pointer (some ⟨w.heap.size, 0, none⟩), .int .i64 hh, .slice A1 (i8B hh).length c1, .pointer (some ⟨w.heap.size, 1, none⟩), .string (strB hp), undef, .pointer (some ⟨w.heap.size, 2, none⟩), .int .i64 hn, undef, .pointer (some ⟨w.heap.size, 3, none⟩), .string (strB hr), undef, undef, undef], []⟩ W := by
    intro A1 c1 W HBC F1
    rw [hG]
    have hHeld : ((fun W => W.cell? ⟨w.heap.size, 0, none⟩ = some (.int .i64 hh) ∧ W.cell? ⟨w.heap.size, 1, none⟩ = some (.string (strB hp)) ∧ W.cell? ⟨w.heap.size, 2, none⟩ = some (.int .i64 hn) ∧ W.cell? ⟨w.heap.size, 3, none⟩ = some (.string (strB hr)))) W := HK.out _ HBC.out
    refine wpAnyH_ready (rs := [5, 8, 11]) (by kernel_rfl) (by simp) ?_
    refine AllReadyH.cons (o := ?o26) ?g26 (fun K hK => ?j26) (AllReadyH.cons (o := ?o27) ?g27 (fun K hK => ?j27) (AllReadyH.cons (o := ?o28) ?g28 (fun K hK => ?j28) AllReadyH.nil))
    case g26 => (simp only [gA, gB, gC]; rfl)
    case g27 => (simp only [gA, gB, gC]; rfl)
    case g28 => (simp only [gA, gB, gC]; rfl)
    case j26 =>
      refine step_conv rfl _ 29 58 rfl _ Try.underlying29 Try.underlying58 Try.underlying5 hp rfl (HC1.out) ?_
      intro C1A C1c w' hcs hbm
      have C1 := Lib.hid hcs
      refine hK.out _ _ (by (try dsimp only); exact HK.out _ (bel2M HBC.out hbm)) (fun _ => ?_)
      (try simp only [Act.put, sA, sB, sC])
      refine wpAnyH_norm (fuel' := 5) (listed' := #[true, true, true, true, true, true, true, true, false, true, true, false, false, false, false]) (by kernel_rfl) (by kernel_rfl) ?_
      have hst := st_2_5 A1 c1 C1A C1c _ (Lib.hid (bel2M HBC.out hbm)) (Lib.hid (F1.out.below hbm (Nat.le_refl _))) C1
      rw [hG] at hst
      exact hst
    case j27 =>
      go_simp
      (go_at_call 61; refine (HP.out hn _).mono ?_)
      rintro e wa ⟨va, rfl, hoa, hbm⟩
      obtain ⟨A2, c2, rfl, -⟩ := (own_bs hoa).open
      have F2 := Lib.hid (own_bs hoa)
      refine hK.out _ _ (by (try dsimp only); exact HK.out _ (bel2M HBC.out hbm)) (fun _ => ?_)
      (try simp only [Act.put, sA, sB, sC])
      refine wpAnyH_norm (fuel' := 5) (listed' := #[true, true, true, true, true, false, true, true, true, true, true, false, false, false, false]) (by kernel_rfl) (by kernel_rfl) ?_
      have hst := st_2_8 A1 c1 A2 c2 _ (Lib.hid (bel2M HBC.out hbm)) (Lib.hid (F1.out.below hbm (Nat.le_refl _))) F2
      rw [hG] at hst
      exact hst
    case j28 =>
      refine step_conv rfl _ 29 58 rfl _ Try.underlying29 Try.underlying58 Try.underlying5 hr rfl (HC2.out) ?_
      intro C2A C2c w' hcs hbm
      have C2 := Lib.hid hcs
      refine hK.out _ _ (by (try dsimp only); exact HK.out _ (bel2M HBC.out hbm)) (fun _ => ?_)
      (try simp only [Act.put, sA, sB, sC])
      refine wpAnyH_norm (fuel' := 5) (listed' := #[true, true, true, true, true, false, true, true, false, true, true, true, false, false, false]) (by kernel_rfl) (by kernel_rfl) ?_
      have hst := st_2_11 A1 c1 C2A C2c _ (Lib.hid (bel2M HBC.out hbm)) (Lib.hid (F1.out.below hbm (Nat.le_refl _))) C2
      rw [hG] at hst
      exact hst
  have st : ∀  (W : World) (HBC : Hid (Below w0.heap.size w0 W)) , G 7 #[true, true, false, true, true, false, true, true, false, true, true, false, false, false, false] ⟨#[agH hh hp hn hr, .pointer (some ⟨w.heap.size, 0, none⟩), .string ⟨#[]⟩, .pointer (some ⟨w.heap.size, 0, none⟩), .int .i64 hh, undef, .pointer (some ⟨w.heap.size, 1, none⟩), .string (strB hp), undef, .pointer (some ⟨w.heap.size, 2, none⟩), .int .i64 hn, undef, .pointer (some ⟨w.heap.size, 3, none⟩), .string (strB hr), undef, undef, undef], []⟩ W := by
    intro  W HBC 
    rw [hG]
    have hHeld : ((fun W => W.cell? ⟨w.heap.size, 0, none⟩ = some (.int .i64 hh) ∧ W.cell? ⟨w.heap.size, 1, none⟩ = some (.string (strB hp)) ∧ W.cell? ⟨w.heap.size, 2, none⟩ = some (.int .i64 hn) ∧ W.cell? ⟨w.heap.size, 3, none⟩ = some (.string (strB hr)))) W := HK.out _ HBC.out
    refine wpAnyH_ready (rs := [2, 5, 11]) (by kernel_rfl) (by simp) ?_
    refine AllReadyH.cons (o := ?o29) ?g29 (fun K hK => ?j29) (AllReadyH.cons (o := ?o30) ?g30 (fun K hK => ?j30) (AllReadyH.cons (o := ?o31) ?g31 (fun K hK => ?j31) AllReadyH.nil))
    case g29 => (simp only [gA, gB, gC]; rfl)
    case g30 => (simp only [gA, gB, gC]; rfl)
    case g31 => (simp only [gA, gB, gC]; rfl)
    case j29 =>
      go_simp
      (go_at_call 61; refine (HP.out hh _).mono ?_)
      rintro e wa ⟨va, rfl, hoa, hbm⟩
      obtain ⟨A1, c1, rfl, -⟩ := (own_bs hoa).open
      have F1 := Lib.hid (own_bs hoa)
      refine hK.out _ _ (by (try dsimp only); exact HK.out _ (bel2M HBC.out hbm)) (fun _ => ?_)
      (try simp only [Act.put, sA, sB, sC])
      refine wpAnyH_norm (fuel' := 6) (listed' := #[true, true, true, true, true, false, true, true, false, true, true, false, false, false, false]) (by kernel_rfl) (by kernel_rfl) ?_
      have hst := st_2 A1 c1 _ (Lib.hid (bel2M HBC.out hbm)) F1
      rw [hG] at hst
      exact hst
    case j30 =>
      refine step_conv rfl _ 29 58 rfl _ Try.underlying29 Try.underlying58 Try.underlying5 hp rfl (HC1.out) ?_
      intro C1A C1c w' hcs hbm
      have C1 := Lib.hid hcs
      refine hK.out _ _ (by (try dsimp only); exact HK.out _ (bel2M HBC.out hbm)) (fun _ => ?_)
      (try simp only [Act.put, sA, sB, sC])
      refine wpAnyH_norm (fuel' := 6) (listed' := #[true, true, false, true, true, true, true, true, false, true, true, false, false, false, false]) (by kernel_rfl) (by kernel_rfl) ?_
      have hst := st_5 C1A C1c _ (Lib.hid (bel2M HBC.out hbm)) C1
      rw [hG] at hst
      exact hst
    case j31 =>
      refine step_conv rfl _ 29 58 rfl _ Try.underlying29 Try.underlying58 Try.underlying5 hr rfl (HC2.out) ?_
      intro C2A C2c w' hcs hbm
      have C2 := Lib.hid hcs
      refine hK.out _ _ (by (try dsimp only); exact HK.out _ (bel2M HBC.out hbm)) (fun _ => ?_)
      (try simp only [Act.put, sA, sB, sC])
      refine wpAnyH_norm (fuel' := 6) (listed' := #[true, true, false, true, true, false, true, true, false, true, true, true, false, false, false]) (by kernel_rfl) (by kernel_rfl) ?_
      have hst := st_11 C2A C2c _ (Lib.hid (bel2M HBC.out hbm)) C2
      rw [hG] at hst
      exact hst
  exact st _ (Lib.hid (HBC.out))
set_option maxHeartbeats 20000000 in
theorem bDigest_any (hh : Int) (hp : List UInt8) (hn : Int) (hr : List UInt8) (w : World) (h1 : hp.length ≤ 10000000) (h2 : hr.length ≤ 10000000) : Calls Try.prog 72 #[agH hh hp hn hr] w (Tells (digB hh hp hn hr) w) := by
  have x1 := heap_alloc_new w (.cells #[.int .i64 hh, .string (strB hp), .int .i64 hn, .string (strB hr)] 107)
  have x3 := alloc1B w (.cells #[.int .i64 hh, .string (strB hp), .int .i64 hn, .string (strB hr)] 107)
  have HOF := Lib.hid (fun v W (hv : Bss W v [i8B hh, hp, i8B hn, hr]) => Of_any 5 v [i8B hh, hp, i8B hn, hr] W hv (by simp) (by simp [i8B_length]; omega) (four_le _ _ _ _ (i8B_length _) h1 (i8B_length _) h2))
  have HP := Lib.hid (fun (n : Int) W k hk => putInt1_any n W 3 k hk)
  have HC1 := Lib.hid (show hp.length ≤ maxLen by unfold maxLen; omega)
  have HC2 := Lib.hid (show hr.length ≤ maxLen by unfold maxLen; omega)
  unfold digB
  generalize encT 5 [i8B hh, hp, i8B hn, hr] = en at *
  go_enter Try.func72, Try.ntmps72
  go_wp2
  generalize hw0 : (w.alloc (.cells #[.int .i64 hh, .string (strB hp), .int .i64 hn, .string (strB hr)] 107)) = w0 at *
  clear hw0
  have HB0 := Lib.hid x3
  have HK := Lib.hid (show ∀ W, Below w0.heap.size w0 W → (fun W => W.cell? ⟨w.heap.size, 0, none⟩ = some (.int .i64 hh) ∧ W.cell? ⟨w.heap.size, 1, none⟩ = some (.string (strB hp)) ∧ W.cell? ⟨w.heap.size, 2, none⟩ = some (.int .i64 hn) ∧ W.cell? ⟨w.heap.size, 3, none⟩ = some (.string (strB hr))) W from fun W h => ⟨cellB (rowCell x1 0 _ rfl) h, cellB (rowCell x1 1 _ rfl) h, cellB (rowCell x1 2 _ rfl) h, cellB (rowCell x1 3 _ rfl) h⟩)
  have HBC := Lib.hid (show Below w0.heap.size w0 w0.drew from (Below.refl _ _).drew)
  clear x1 x3 h1 h2
  refine wp_region_held_drew (S := (fun W => W.cell? ⟨w.heap.size, 0, none⟩ = some (.int .i64 hh) ∧ W.cell? ⟨w.heap.size, 1, none⟩ = some (.string (strB hp)) ∧ W.cell? ⟨w.heap.size, 2, none⟩ = some (.int .i64 hn) ∧ W.cell? ⟨w.heap.size, 3, none⟩ = some (.string (strB hr)))) (by kernel_rfl) (HK.out _ HBC.out) (fun hHeld => ?_)
  refine tk 0 ?_
  (try simp only [Act.put, sA, sB, sC])
  refine tk 1 ?_
  (try simp only [Act.put, sA, sB, sC])
  refine tk 4 ?_
  (try simp only [Act.put, sA, sB, sC])
  refine tk 5 ?_
  (try simp only [Act.put, sA, sB, sC])
  refine tk 7 ?_
  (try simp only [Act.put, sA, sB, sC])
  refine tk 8 ?_
  (try simp only [Act.put, sA, sB, sC])
  refine tk 11 ?_
  (try simp only [Act.put, sA, sB, sC])
  refine tk 12 ?_
  (try simp only [Act.put, sA, sB, sC])
  refine wpAnyH_norm (fuel' := 9) (listed' := #[true, true, false, false, true, true, false, true, true, false, false, true, true, false, false, false, false]) (by kernel_rfl) (by kernel_rfl) ?_
  refine wpAnyH_name (fun G hG => ?_)
  clear hHeld
  have st_2_3_6_9_10_13_14_15 : ∀ (g1 : Nat) (A1 : Option Addr) (c1 : Nat) (C1A : Option Addr) (C1c : Nat) (g2 : Nat) (A2 : Option Addr) (c2 : Nat) (C2A : Option Addr) (C2c : Nat) (g9 : Nat) (W : World) (HBC : Hid (Below w0.heap.size w0 W)) (G1 : Hid (W.heap[g1]? = some (.cells #[.int .i64 hh] 3 (0, 0)))) (F1 : Hid (Bs W (.slice A1 (i8B hh).length c1) (i8B hh))) (C1 : Hid (Bs W (.slice C1A hp.length C1c) hp)) (G2 : Hid (W.heap[g2]? = some (.cells #[.int .i64 hn] 3 (0, 0)))) (F2 : Hid (Bs W (.slice A2 (i8B hn).length c2) (i8B hn))) (C2 : Hid (Bs W (.slice C2A hr.length C2c) hr)) (GB : Hid (W.heap[g9]? = some (.cells #[.slice A1 (i8B hh).length c1, .slice C1A hp.length C1c, .slice A2 (i8B hn).length c2, .slice C2A hr.length C2c] 58 (0, 0)))), G 1 #[true, true, true, true, true, true, true, true, true, true, true, true, true, true, true, true, false] ⟨#[agH hh hp hn hr, .pointer (some ⟨w.heap.size, 0, none⟩), .string ⟨#[]⟩, .pointer (some ⟨w.heap.size, 0, none⟩), .int .i64 hh, .slice (some ⟨g1, 0, none⟩) 1 1, .slice A1 (i8B hh).length c1, .pointer (some ⟨w.heap.size, 1, none⟩), .string (strB hp), .slice C1A hp.length C1c, .pointer (some ⟨w.heap.size, 2, none⟩), .int .i64 hn, .slice (some ⟨g2, 0, none⟩) 1 1, .slice A2 (i8B hn).length c2, .pointer (some ⟨w.heap.size, 3, none⟩), .string (strB hr), .slice C2A hr.length C2c, .slice (some ⟨g9, 0, none⟩) 4 4, .string (strB en)], []⟩ W := by
    intro g1 A1 c1 C1A C1c g2 A2 c2 C2A C2c g9 W HBC G1 F1 C1 G2 F2 C2 GB
    rw [hG]
    have hHeld : ((fun W => W.cell? ⟨w.heap.size, 0, none⟩ = some (.int .i64 hh) ∧ W.cell? ⟨w.heap.size, 1, none⟩ = some (.string (strB hp)) ∧ W.cell? ⟨w.heap.size, 2, none⟩ = some (.int .i64 hn) ∧ W.cell? ⟨w.heap.size, 3, none⟩ = some (.string (strB hr)))) W := HK.out _ HBC.out
    refine wpAnyH_ready (rs := [16]) (by kernel_rfl) (by simp) ?_
    refine AllReadyH.cons (o := ?o40) ?g40 (fun K hK => ?j40) AllReadyH.nil
    case g40 => (simp only [gA, gB, gC]; rfl)
    case j40 =>
      go_simp
      refine hK.out _ _ (by (try dsimp only); exact hHeld) (fun _ => ?_)
      (try simp only [Act.put, sA, sB, sC])
      refine wpAnyH_done (by kernel_rfl) ?_ _
      go_wp2
      go_ret
      exact ⟨rfl, bel2M HB0.out HBC.out⟩
  have st_2_3_6_9_10_13_14 : ∀ (g1 : Nat) (A1 : Option Addr) (c1 : Nat) (C1A : Option Addr) (C1c : Nat) (g2 : Nat) (A2 : Option Addr) (c2 : Nat) (C2A : Option Addr) (C2c : Nat) (g9 : Nat) (W : World) (HBC : Hid (Below w0.heap.size w0 W)) (G1 : Hid (W.heap[g1]? = some (.cells #[.int .i64 hh] 3 (0, 0)))) (F1 : Hid (Bs W (.slice A1 (i8B hh).length c1) (i8B hh))) (C1 : Hid (Bs W (.slice C1A hp.length C1c) hp)) (G2 : Hid (W.heap[g2]? = some (.cells #[.int .i64 hn] 3 (0, 0)))) (F2 : Hid (Bs W (.slice A2 (i8B hn).length c2) (i8B hn))) (C2 : Hid (Bs W (.slice C2A hr.length C2c) hr)) (GB : Hid (W.heap[g9]? = some (.cells #[.slice A1 (i8B hh).length c1, .slice C1A hp.length C1c, .slice A2 (i8B hn).length c2, .slice C2A hr.length C2c] 58 (0, 0)))), G 2 #[true, true, true, true, true, true, true, true, true, true, true, true, true, true, true, false, false] ⟨#[agH hh hp hn hr, .pointer (some ⟨w.heap.size, 0, none⟩), .string ⟨#[]⟩, .pointer (some ⟨w.heap.size, 0, none⟩), .int .i64 hh, .slice (some ⟨g1, 0, none⟩) 1 1, .slice A1 (i8B hh).length c1, .pointer (some ⟨w.heap.size, 1, none⟩), .string (strB hp), .slice C1A hp.length C1c, .pointer (some ⟨w.heap.size, 2, none⟩), .int .i64 hn, .slice (some ⟨g2, 0, none⟩) 1 1, .slice A2 (i8B hn).length c2, .pointer (some ⟨w.heap.size, 3, none⟩), .string (strB hr), .slice C2A hr.length C2c, .slice (some ⟨g9, 0, none⟩) 4 4, undef], []⟩ W := by
    intro g1 A1 c1 C1A C1c g2 A2 c2 C2A C2c g9 W HBC G1 F1 C1 G2 F2 C2 GB
    rw [hG]
    have hHeld : ((fun W => W.cell? ⟨w.heap.size, 0, none⟩ = some (.int .i64 hh) ∧ W.cell? ⟨w.heap.size, 1, none⟩ = some (.string (strB hp)) ∧ W.cell? ⟨w.heap.size, 2, none⟩ = some (.int .i64 hn) ∧ W.cell? ⟨w.heap.size, 3, none⟩ = some (.string (strB hr)))) W := HK.out _ HBC.out
    refine wpAnyH_ready (rs := [15]) (by kernel_rfl) (by simp) ?_
    refine AllReadyH.cons (o := ?o41) ?g41 (fun K hK => ?j41) AllReadyH.nil
    case g41 => (simp only [gA, gB, gC]; rfl)
    case j41 =>
      go_simp
      (go_at_call 34; refine (HOF.out _ _ (bss_heap (vs := [.slice A1 (i8B hh).length c1, .slice C1A hp.length C1c, .slice A2 (i8B hn).length c2, .slice C2A hr.length C2c]) GB.out [i8B hh, hp, i8B hn, hr] 4 rfl (by decide) ⟨F1.out, C1.out, F2.out, C2.out, trivial⟩)).mono ?_)
      rintro e wz ⟨rfl, hbm⟩
      refine hK.out _ _ (by (try dsimp only); exact HK.out _ (bel2M HBC.out hbm)) (fun _ => ?_)
      (try simp only [Act.put, sA, sB, sC])
      refine wpAnyH_norm (fuel' := 1) (listed' := #[true, true, true, true, true, true, true, true, true, true, true, true, true, true, true, true, false]) (by kernel_rfl) (by kernel_rfl) ?_
      have hst := st_2_3_6_9_10_13_14_15 g1 A1 c1 C1A C1c g2 A2 c2 C2A C2c g9 _ (Lib.hid (bel2M HBC.out hbm)) (Lib.hid (heapB G1.out hbm)) (Lib.hid (F1.out.below hbm (Nat.le_refl _))) (Lib.hid (C1.out.below hbm (Nat.le_refl _))) (Lib.hid (heapB G2.out hbm)) (Lib.hid (F2.out.below hbm (Nat.le_refl _))) (Lib.hid (C2.out.below hbm (Nat.le_refl _))) (Lib.hid (heapB GB.out hbm))
      rw [hG] at hst
      exact hst
  have st_2_3_6_9_10_13 : ∀ (g1 : Nat) (A1 : Option Addr) (c1 : Nat) (C1A : Option Addr) (C1c : Nat) (g2 : Nat) (A2 : Option Addr) (c2 : Nat) (C2A : Option Addr) (C2c : Nat) (W : World) (HBC : Hid (Below w0.heap.size w0 W)) (G1 : Hid (W.heap[g1]? = some (.cells #[.int .i64 hh] 3 (0, 0)))) (F1 : Hid (Bs W (.slice A1 (i8B hh).length c1) (i8B hh))) (C1 : Hid (Bs W (.slice C1A hp.length C1c) hp)) (G2 : Hid (W.heap[g2]? = some (.cells #[.int .i64 hn] 3 (0, 0)))) (F2 : Hid (Bs W (.slice A2 (i8B hn).length c2) (i8B hn))) (C2 : Hid (Bs W (.slice C2A hr.length C2c) hr)), G 3 #[true, true, true, true, true, true, true, true, true, true, true, true, true, true, false, false, false] ⟨#[agH hh hp hn hr, .pointer (some ⟨w.heap.size, 0, none⟩), .string ⟨#[]⟩, .pointer (some ⟨w.heap.size, 0, none⟩), .int .i64 hh, .slice (some ⟨g1, 0, none⟩) 1 1, .slice A1 (i8B hh).length c1, .pointer (some ⟨w.heap.size, 1, none⟩), .string (strB hp), .slice C1A hp.length C1c, .pointer (some ⟨w.heap.size, 2, none⟩), .int .i64 hn, .slice (some ⟨g2, 0, none⟩) 1 1, .slice A2 (i8B hn).length c2, .pointer (some ⟨w.heap.size, 3, none⟩), .string (strB hr), .slice C2A hr.length C2c, undef, undef], []⟩ W := by
    intro g1 A1 c1 C1A C1c g2 A2 c2 C2A C2c W HBC G1 F1 C1 G2 F2 C2
    rw [hG]
    have hHeld : ((fun W => W.cell? ⟨w.heap.size, 0, none⟩ = some (.int .i64 hh) ∧ W.cell? ⟨w.heap.size, 1, none⟩ = some (.string (strB hp)) ∧ W.cell? ⟨w.heap.size, 2, none⟩ = some (.int .i64 hn) ∧ W.cell? ⟨w.heap.size, 3, none⟩ = some (.string (strB hr)))) W := HK.out _ HBC.out
    refine wpAnyH_ready (rs := [14]) (by kernel_rfl) (by simp) ?_
    refine AllReadyH.cons (o := ?o42) ?g42 (fun K hK => ?j42) AllReadyH.nil
    case g42 => (simp only [gA, gB, gC]; rfl)
    case j42 =>
      refine step_built rfl 98 4 _ rfl #[.slice A1 (i8B hh).length c1, .slice C1A hp.length C1c, .slice A2 (i8B hn).length c2, .slice C2A hr.length C2c] 58 (fun W => by go_simp) ?_
      intro g9 w' hg hbm hge
      have GB := Lib.hid hg
      refine hK.out _ _ (by (try dsimp only); exact HK.out _ (bel2M HBC.out hbm)) (fun _ => ?_)
      (try simp only [Act.put, sA, sB, sC])
      refine wpAnyH_norm (fuel' := 2) (listed' := #[true, true, true, true, true, true, true, true, true, true, true, true, true, true, true, false, false]) (by kernel_rfl) (by kernel_rfl) ?_
      have hst := st_2_3_6_9_10_13_14 g1 A1 c1 C1A C1c g2 A2 c2 C2A C2c g9 _ (Lib.hid (bel2M HBC.out hbm)) (Lib.hid (heapB G1.out hbm)) (Lib.hid (F1.out.below hbm (Nat.le_refl _))) (Lib.hid (C1.out.below hbm (Nat.le_refl _))) (Lib.hid (heapB G2.out hbm)) (Lib.hid (F2.out.below hbm (Nat.le_refl _))) (Lib.hid (C2.out.below hbm (Nat.le_refl _))) GB
      rw [hG] at hst
      exact hst
  have st_2_3_6_9_13 : ∀ (g1 : Nat) (A1 : Option Addr) (c1 : Nat) (C1A : Option Addr) (C1c : Nat) (g2 : Nat) (C2A : Option Addr) (C2c : Nat) (W : World) (HBC : Hid (Below w0.heap.size w0 W)) (G1 : Hid (W.heap[g1]? = some (.cells #[.int .i64 hh] 3 (0, 0)))) (F1 : Hid (Bs W (.slice A1 (i8B hh).length c1) (i8B hh))) (C1 : Hid (Bs W (.slice C1A hp.length C1c) hp)) (G2 : Hid (W.heap[g2]? = some (.cells #[.int .i64 hn] 3 (0, 0)))) (C2 : Hid (Bs W (.slice C2A hr.length C2c) hr)), G 4 #[true, true, true, true, true, true, true, true, true, true, false, true, true, true, false, false, false] ⟨#[agH hh hp hn hr, .pointer (some ⟨w.heap.size, 0, none⟩), .string ⟨#[]⟩, .pointer (some ⟨w.heap.size, 0, none⟩), .int .i64 hh, .slice (some ⟨g1, 0, none⟩) 1 1, .slice A1 (i8B hh).length c1, .pointer (some ⟨w.heap.size, 1, none⟩), .string (strB hp), .slice C1A hp.length C1c, .pointer (some ⟨w.heap.size, 2, none⟩), .int .i64 hn, .slice (some ⟨g2, 0, none⟩) 1 1, undef, .pointer (some ⟨w.heap.size, 3, none⟩), .string (strB hr), .slice C2A hr.length C2c, undef, undef], []⟩ W := by
    intro g1 A1 c1 C1A C1c g2 C2A C2c W HBC G1 F1 C1 G2 C2
    rw [hG]
    have hHeld : ((fun W => W.cell? ⟨w.heap.size, 0, none⟩ = some (.int .i64 hh) ∧ W.cell? ⟨w.heap.size, 1, none⟩ = some (.string (strB hp)) ∧ W.cell? ⟨w.heap.size, 2, none⟩ = some (.int .i64 hn) ∧ W.cell? ⟨w.heap.size, 3, none⟩ = some (.string (strB hr)))) W := HK.out _ HBC.out
    refine wpAnyH_ready (rs := [10]) (by kernel_rfl) (by simp) ?_
    refine AllReadyH.cons (o := ?o43) ?g43 (fun K hK => ?j43) AllReadyH.nil
    case g43 => (simp only [gA, gB, gC]; rfl)
    case j43 =>
      go_simp
      (go_at_call 89; refine (HP.out hn _ _ G2.out).mono ?_)
      rintro e wa ⟨va, rfl, hoa, hbm⟩
      obtain ⟨A2, c2, rfl, -⟩ := (own_bs hoa).open
      have F2 := Lib.hid (own_bs hoa)
      refine hK.out _ _ (by (try dsimp only); exact HK.out _ (bel2M HBC.out hbm)) (fun _ => ?_)
      (try simp only [Act.put, sA, sB, sC])
      refine wpAnyH_norm (fuel' := 3) (listed' := #[true, true, true, true, true, true, true, true, true, true, true, true, true, true, false, false, false]) (by kernel_rfl) (by kernel_rfl) ?_
      have hst := st_2_3_6_9_10_13 g1 A1 c1 C1A C1c g2 A2 c2 C2A C2c _ (Lib.hid (bel2M HBC.out hbm)) (Lib.hid (heapB G1.out hbm)) (Lib.hid (F1.out.below hbm (Nat.le_refl _))) (Lib.hid (C1.out.below hbm (Nat.le_refl _))) (Lib.hid (heapB G2.out hbm)) F2 (Lib.hid (C2.out.below hbm (Nat.le_refl _)))
      rw [hG] at hst
      exact hst
  have st_2_3_9_10_13 : ∀ (g1 : Nat) (A1 : Option Addr) (c1 : Nat) (g2 : Nat) (A2 : Option Addr) (c2 : Nat) (C2A : Option Addr) (C2c : Nat) (W : World) (HBC : Hid (Below w0.heap.size w0 W)) (G1 : Hid (W.heap[g1]? = some (.cells #[.int .i64 hh] 3 (0, 0)))) (F1 : Hid (Bs W (.slice A1 (i8B hh).length c1) (i8B hh))) (G2 : Hid (W.heap[g2]? = some (.cells #[.int .i64 hn] 3 (0, 0)))) (F2 : Hid (Bs W (.slice A2 (i8B hn).length c2) (i8B hn))) (C2 : Hid (Bs W (.slice C2A hr.length C2c) hr)), G 4 #[true, true, true, true, true, true, false, true, true, true, true, true, true, true, false, false, false] ⟨#[agH hh hp hn hr, .pointer (some ⟨w.heap.size, 0, none⟩), .string ⟨#[]⟩, .pointer (some ⟨w.heap.size, 0, none⟩), .int .i64 hh, .slice (some ⟨g1, 0, none⟩) 1 1, .slice A1 (i8B hh).length c1, .pointer (some ⟨w.heap.size, 1, none⟩), .string (strB hp), undef, .pointer (some ⟨w.heap.size, 2, none⟩), .int .i64 hn, .slice (some ⟨g2, 0, none⟩) 1 1, .slice A2 (i8B hn).length c2, .pointer (some ⟨w.heap.size, 3, none⟩), .string (strB hr), .slice C2A hr.length C2c, undef, undef], []⟩ W := by
    intro g1 A1 c1 g2 A2 c2 C2A C2c W HBC G1 F1 G2 F2 C2
    rw [hG]
    have hHeld : ((fun W => W.cell? ⟨w.heap.size, 0, none⟩ = some (.int .i64 hh) ∧ W.cell? ⟨w.heap.size, 1, none⟩ = some (.string (strB hp)) ∧ W.cell? ⟨w.heap.size, 2, none⟩ = some (.int .i64 hn) ∧ W.cell? ⟨w.heap.size, 3, none⟩ = some (.string (strB hr)))) W := HK.out _ HBC.out
    refine wpAnyH_ready (rs := [6]) (by kernel_rfl) (by simp) ?_
    refine AllReadyH.cons (o := ?o44) ?g44 (fun K hK => ?j44) AllReadyH.nil
    case g44 => (simp only [gA, gB, gC]; rfl)
    case j44 =>
      refine step_conv rfl _ 29 58 rfl _ Try.underlying29 Try.underlying58 Try.underlying5 hp rfl (HC1.out) ?_
      intro C1A C1c w' hcs hbm
      have C1 := Lib.hid hcs
      refine hK.out _ _ (by (try dsimp only); exact HK.out _ (bel2M HBC.out hbm)) (fun _ => ?_)
      (try simp only [Act.put, sA, sB, sC])
      refine wpAnyH_norm (fuel' := 3) (listed' := #[true, true, true, true, true, true, true, true, true, true, true, true, true, true, false, false, false]) (by kernel_rfl) (by kernel_rfl) ?_
      have hst := st_2_3_6_9_10_13 g1 A1 c1 C1A C1c g2 A2 c2 C2A C2c _ (Lib.hid (bel2M HBC.out hbm)) (Lib.hid (heapB G1.out hbm)) (Lib.hid (F1.out.below hbm (Nat.le_refl _))) C1 (Lib.hid (heapB G2.out hbm)) (Lib.hid (F2.out.below hbm (Nat.le_refl _))) (Lib.hid (C2.out.below hbm (Nat.le_refl _)))
      rw [hG] at hst
      exact hst
  have st_2_3_6_9_10 : ∀ (g1 : Nat) (A1 : Option Addr) (c1 : Nat) (C1A : Option Addr) (C1c : Nat) (g2 : Nat) (A2 : Option Addr) (c2 : Nat) (W : World) (HBC : Hid (Below w0.heap.size w0 W)) (G1 : Hid (W.heap[g1]? = some (.cells #[.int .i64 hh] 3 (0, 0)))) (F1 : Hid (Bs W (.slice A1 (i8B hh).length c1) (i8B hh))) (C1 : Hid (Bs W (.slice C1A hp.length C1c) hp)) (G2 : Hid (W.heap[g2]? = some (.cells #[.int .i64 hn] 3 (0, 0)))) (F2 : Hid (Bs W (.slice A2 (i8B hn).length c2) (i8B hn))), G 4 #[true, true, true, true, true, true, true, true, true, true, true, true, true, false, false, false, false] ⟨#[agH hh hp hn hr, .pointer (some ⟨w.heap.size, 0, none⟩), .string ⟨#[]⟩, .pointer (some ⟨w.heap.size, 0, none⟩), .int .i64 hh, .slice (some ⟨g1, 0, none⟩) 1 1, .slice A1 (i8B hh).length c1, .pointer (some ⟨w.heap.size, 1, none⟩), .string (strB hp), .slice C1A hp.length C1c, .pointer (some ⟨w.heap.size, 2, none⟩), .int .i64 hn, .slice (some ⟨g2, 0, none⟩) 1 1, .slice A2 (i8B hn).length c2, .pointer (some ⟨w.heap.size, 3, none⟩), .string (strB hr), undef, undef, undef], []⟩ W := by
    intro g1 A1 c1 C1A C1c g2 A2 c2 W HBC G1 F1 C1 G2 F2
    rw [hG]
    have hHeld : ((fun W => W.cell? ⟨w.heap.size, 0, none⟩ = some (.int .i64 hh) ∧ W.cell? ⟨w.heap.size, 1, none⟩ = some (.string (strB hp)) ∧ W.cell? ⟨w.heap.size, 2, none⟩ = some (.int .i64 hn) ∧ W.cell? ⟨w.heap.size, 3, none⟩ = some (.string (strB hr)))) W := HK.out _ HBC.out
    refine wpAnyH_ready (rs := [13]) (by kernel_rfl) (by simp) ?_
    refine AllReadyH.cons (o := ?o45) ?g45 (fun K hK => ?j45) AllReadyH.nil
    case g45 => (simp only [gA, gB, gC]; rfl)
    case j45 =>
      refine step_conv rfl _ 29 58 rfl _ Try.underlying29 Try.underlying58 Try.underlying5 hr rfl (HC2.out) ?_
      intro C2A C2c w' hcs hbm
      have C2 := Lib.hid hcs
      refine hK.out _ _ (by (try dsimp only); exact HK.out _ (bel2M HBC.out hbm)) (fun _ => ?_)
      (try simp only [Act.put, sA, sB, sC])
      refine wpAnyH_norm (fuel' := 3) (listed' := #[true, true, true, true, true, true, true, true, true, true, true, true, true, true, false, false, false]) (by kernel_rfl) (by kernel_rfl) ?_
      have hst := st_2_3_6_9_10_13 g1 A1 c1 C1A C1c g2 A2 c2 C2A C2c _ (Lib.hid (bel2M HBC.out hbm)) (Lib.hid (heapB G1.out hbm)) (Lib.hid (F1.out.below hbm (Nat.le_refl _))) (Lib.hid (C1.out.below hbm (Nat.le_refl _))) (Lib.hid (heapB G2.out hbm)) (Lib.hid (F2.out.below hbm (Nat.le_refl _))) C2
      rw [hG] at hst
      exact hst
  have st_2_6_9_13 : ∀ (g1 : Nat) (C1A : Option Addr) (C1c : Nat) (g2 : Nat) (C2A : Option Addr) (C2c : Nat) (W : World) (HBC : Hid (Below w0.heap.size w0 W)) (G1 : Hid (W.heap[g1]? = some (.cells #[.int .i64 hh] 3 (0, 0)))) (C1 : Hid (Bs W (.slice C1A hp.length C1c) hp)) (G2 : Hid (W.heap[g2]? = some (.cells #[.int .i64 hn] 3 (0, 0)))) (C2 : Hid (Bs W (.slice C2A hr.length C2c) hr)), G 5 #[true, true, true, false, true, true, true, true, true, true, false, true, true, true, false, false, false] ⟨#[agH hh hp hn hr, .pointer (some ⟨w.heap.size, 0, none⟩), .string ⟨#[]⟩, .pointer (some ⟨w.heap.size, 0, none⟩), .int .i64 hh, .slice (some ⟨g1, 0, none⟩) 1 1, undef, .pointer (some ⟨w.heap.size, 1, none⟩), .string (strB hp), .slice C1A hp.length C1c, .pointer (some ⟨w.heap.size, 2, none⟩), .int .i64 hn, .slice (some ⟨g2, 0, none⟩) 1 1, undef, .pointer (some ⟨w.heap.size, 3, none⟩), .string (strB hr), .slice C2A hr.length C2c, undef, undef], []⟩ W := by
    intro g1 C1A C1c g2 C2A C2c W HBC G1 C1 G2 C2
    rw [hG]
    have hHeld : ((fun W => W.cell? ⟨w.heap.size, 0, none⟩ = some (.int .i64 hh) ∧ W.cell? ⟨w.heap.size, 1, none⟩ = some (.string (strB hp)) ∧ W.cell? ⟨w.heap.size, 2, none⟩ = some (.int .i64 hn) ∧ W.cell? ⟨w.heap.size, 3, none⟩ = some (.string (strB hr)))) W := HK.out _ HBC.out
    refine wpAnyH_ready (rs := [3]) (by kernel_rfl) (by simp) ?_
    refine AllReadyH.cons (o := ?o46) ?g46 (fun K hK => ?j46) AllReadyH.nil
    case g46 => (simp only [gA, gB, gC]; rfl)
    case j46 =>
      go_simp
      (go_at_call 89; refine (HP.out hh _ _ G1.out).mono ?_)
      rintro e wa ⟨va, rfl, hoa, hbm⟩
      obtain ⟨A1, c1, rfl, -⟩ := (own_bs hoa).open
      have F1 := Lib.hid (own_bs hoa)
      refine hK.out _ _ (by (try dsimp only); exact HK.out _ (bel2M HBC.out hbm)) (fun _ => ?_)
      (try simp only [Act.put, sA, sB, sC])
      refine wpAnyH_norm (fuel' := 4) (listed' := #[true, true, true, true, true, true, true, true, true, true, false, true, true, true, false, false, false]) (by kernel_rfl) (by kernel_rfl) ?_
      have hst := st_2_3_6_9_13 g1 A1 c1 C1A C1c g2 C2A C2c _ (Lib.hid (bel2M HBC.out hbm)) (Lib.hid (heapB G1.out hbm)) F1 (Lib.hid (C1.out.below hbm (Nat.le_refl _))) (Lib.hid (heapB G2.out hbm)) (Lib.hid (C2.out.below hbm (Nat.le_refl _)))
      rw [hG] at hst
      exact hst
  have st_2_3_9_13 : ∀ (g1 : Nat) (A1 : Option Addr) (c1 : Nat) (g2 : Nat) (C2A : Option Addr) (C2c : Nat) (W : World) (HBC : Hid (Below w0.heap.size w0 W)) (G1 : Hid (W.heap[g1]? = some (.cells #[.int .i64 hh] 3 (0, 0)))) (F1 : Hid (Bs W (.slice A1 (i8B hh).length c1) (i8B hh))) (G2 : Hid (W.heap[g2]? = some (.cells #[.int .i64 hn] 3 (0, 0)))) (C2 : Hid (Bs W (.slice C2A hr.length C2c) hr)), G 5 #[true, true, true, true, true, true, false, true, true, true, false, true, true, true, false, false, false] ⟨#[agH hh hp hn hr, .pointer (some ⟨w.heap.size, 0, none⟩), .string ⟨#[]⟩, .pointer (some ⟨w.heap.size, 0, none⟩), .int .i64 hh, .slice (some ⟨g1, 0, none⟩) 1 1, .slice A1 (i8B hh).length c1, .pointer (some ⟨w.heap.size, 1, none⟩), .string (strB hp), undef, .pointer (some ⟨w.heap.size, 2, none⟩), .int .i64 hn, .slice (some ⟨g2, 0, none⟩) 1 1, undef, .pointer (some ⟨w.heap.size, 3, none⟩), .string (strB hr), .slice C2A hr.length C2c, undef, undef], []⟩ W := by
    intro g1 A1 c1 g2 C2A C2c W HBC G1 F1 G2 C2
    rw [hG]
    have hHeld : ((fun W => W.cell? ⟨w.heap.size, 0, none⟩ = some (.int .i64 hh) ∧ W.cell? ⟨w.heap.size, 1, none⟩ = some (.string (strB hp)) ∧ W.cell? ⟨w.heap.size, 2, none⟩ = some (.int .i64 hn) ∧ W.cell? ⟨w.heap.size, 3, none⟩ = some (.string (strB hr)))) W := HK.out _ HBC.out
    refine wpAnyH_ready (rs := [6, 10]) (by kernel_rfl) (by simp) ?_
    refine AllReadyH.cons (o := ?o47) ?g47 (fun K hK => ?j47) (AllReadyH.cons (o := ?o48) ?g48 (fun K hK => ?j48) AllReadyH.nil)
    case g47 => (simp only [gA, gB, gC]; rfl)
    case g48 => (simp only [gA, gB, gC]; rfl)
    case j47 =>
      refine step_conv rfl _ 29 58 rfl _ Try.underlying29 Try.underlying58 Try.underlying5 hp rfl (HC1.out) ?_
      intro C1A C1c w' hcs hbm
      have C1 := Lib.hid hcs
      refine hK.out _ _ (by (try dsimp only); exact HK.out _ (bel2M HBC.out hbm)) (fun _ => ?_)
      (try simp only [Act.put, sA, sB, sC])
      refine wpAnyH_norm (fuel' := 4) (listed' := #[true, true, true, true, true, true, true, true, true, true, false, true, true, true, false, false, false]) (by kernel_rfl) (by kernel_rfl) ?_
      have hst := st_2_3_6_9_13 g1 A1 c1 C1A C1c g2 C2A C2c _ (Lib.hid (bel2M HBC.out hbm)) (Lib.hid (heapB G1.out hbm)) (Lib.hid (F1.out.below hbm (Nat.le_refl _))) C1 (Lib.hid (heapB G2.out hbm)) (Lib.hid (C2.out.below hbm (Nat.le_refl _)))
      rw [hG] at hst
      exact hst
    case j48 =>
      go_simp
      (go_at_call 89; refine (HP.out hn _ _ G2.out).mono ?_)
      rintro e wa ⟨va, rfl, hoa, hbm⟩
      obtain ⟨A2, c2, rfl, -⟩ := (own_bs hoa).open
      have F2 := Lib.hid (own_bs hoa)
      refine hK.out _ _ (by (try dsimp only); exact HK.out _ (bel2M HBC.out hbm)) (fun _ => ?_)
      (try simp only [Act.put, sA, sB, sC])
      refine wpAnyH_norm (fuel' := 4) (listed' := #[true, true, true, true, true, true, false, true, true, true, true, true, true, true, false, false, false]) (by kernel_rfl) (by kernel_rfl) ?_
      have hst := st_2_3_9_10_13 g1 A1 c1 g2 A2 c2 C2A C2c _ (Lib.hid (bel2M HBC.out hbm)) (Lib.hid (heapB G1.out hbm)) (Lib.hid (F1.out.below hbm (Nat.le_refl _))) (Lib.hid (heapB G2.out hbm)) F2 (Lib.hid (C2.out.below hbm (Nat.le_refl _)))
      rw [hG] at hst
      exact hst
  have st_2_3_6_13 : ∀ (g1 : Nat) (A1 : Option Addr) (c1 : Nat) (C1A : Option Addr) (C1c : Nat) (C2A : Option Addr) (C2c : Nat) (W : World) (HBC : Hid (Below w0.heap.size w0 W)) (G1 : Hid (W.heap[g1]? = some (.cells #[.int .i64 hh] 3 (0, 0)))) (F1 : Hid (Bs W (.slice A1 (i8B hh).length c1) (i8B hh))) (C1 : Hid (Bs W (.slice C1A hp.length C1c) hp)) (C2 : Hid (Bs W (.slice C2A hr.length C2c) hr)), G 5 #[true, true, true, true, true, true, true, true, true, false, false, true, true, true, false, false, false] ⟨#[agH hh hp hn hr, .pointer (some ⟨w.heap.size, 0, none⟩), .string ⟨#[]⟩, .pointer (some ⟨w.heap.size, 0, none⟩), .int .i64 hh, .slice (some ⟨g1, 0, none⟩) 1 1, .slice A1 (i8B hh).length c1, .pointer (some ⟨w.heap.size, 1, none⟩), .string (strB hp), .slice C1A hp.length C1c, .pointer (some ⟨w.heap.size, 2, none⟩), .int .i64 hn, undef, undef, .pointer (some ⟨w.heap.size, 3, none⟩), .string (strB hr), .slice C2A hr.length C2c, undef, undef], []⟩ W := by
    intro g1 A1 c1 C1A C1c C2A C2c W HBC G1 F1 C1 C2
    rw [hG]
    have hHeld : ((fun W => W.cell? ⟨w.heap.size, 0, none⟩ = some (.int .i64 hh) ∧ W.cell? ⟨w.heap.size, 1, none⟩ = some (.string (strB hp)) ∧ W.cell? ⟨w.heap.size, 2, none⟩ = some (.int .i64 hn) ∧ W.cell? ⟨w.heap.size, 3, none⟩ = some (.string (strB hr)))) W := HK.out _ HBC.out
    refine wpAnyH_ready (rs := [9]) (by kernel_rfl) (by simp) ?_
    refine AllReadyH.cons (o := ?o49) ?g49 (fun K hK => ?j49) AllReadyH.nil
    case g49 => (simp only [gA, gB, gC]; rfl)
    case j49 =>
      refine step_built rfl 130 1 _ rfl #[.int .i64 hn] 3 (fun W => by go_simp) ?_
      intro g2 w' hg hbm hge
      have G2 := Lib.hid hg
      refine hK.out _ _ (by (try dsimp only); exact HK.out _ (bel2M HBC.out hbm)) (fun _ => ?_)
      (try simp only [Act.put, sA, sB, sC])
      refine wpAnyH_norm (fuel' := 4) (listed' := #[true, true, true, true, true, true, true, true, true, true, false, true, true, true, false, false, false]) (by kernel_rfl) (by kernel_rfl) ?_
      have hst := st_2_3_6_9_13 g1 A1 c1 C1A C1c g2 C2A C2c _ (Lib.hid (bel2M HBC.out hbm)) (Lib.hid (heapB G1.out hbm)) (Lib.hid (F1.out.below hbm (Nat.le_refl _))) (Lib.hid (C1.out.below hbm (Nat.le_refl _))) G2 (Lib.hid (C2.out.below hbm (Nat.le_refl _)))
      rw [hG] at hst
      exact hst
  have st_2_3_6_9 : ∀ (g1 : Nat) (A1 : Option Addr) (c1 : Nat) (C1A : Option Addr) (C1c : Nat) (g2 : Nat) (W : World) (HBC : Hid (Below w0.heap.size w0 W)) (G1 : Hid (W.heap[g1]? = some (.cells #[.int .i64 hh] 3 (0, 0)))) (F1 : Hid (Bs W (.slice A1 (i8B hh).length c1) (i8B hh))) (C1 : Hid (Bs W (.slice C1A hp.length C1c) hp)) (G2 : Hid (W.heap[g2]? = some (.cells #[.int .i64 hn] 3 (0, 0)))), G 5 #[true, true, true, true, true, true, true, true, true, true, false, true, true, false, false, false, false] ⟨#[agH hh hp hn hr, .pointer (some ⟨w.heap.size, 0, none⟩), .string ⟨#[]⟩, .pointer (some ⟨w.heap.size, 0, none⟩), .int .i64 hh, .slice (some ⟨g1, 0, none⟩) 1 1, .slice A1 (i8B hh).length c1, .pointer (some ⟨w.heap.size, 1, none⟩), .string (strB hp), .slice C1A hp.length C1c, .pointer (some ⟨w.heap.size, 2, none⟩), .int .i64 hn, .slice (some ⟨g2, 0, none⟩) 1 1, undef, .pointer (some ⟨w.heap.size, 3, none⟩), .string (strB hr), undef, undef, undef], []⟩ W := by
    intro g1 A1 c1 C1A C1c g2 W HBC G1 F1 C1 G2
    rw [hG]
    have hHeld : ((fun W => W.cell? ⟨w.heap.size, 0, none⟩ = some (.int .i64 hh) ∧ W.cell? ⟨w.heap.size, 1, none⟩ = some (.string (strB hp)) ∧ W.cell? ⟨w.heap.size, 2, none⟩ = some (.int .i64 hn) ∧ W.cell? ⟨w.heap.size, 3, none⟩ = some (.string (strB hr)))) W := HK.out _ HBC.out
    refine wpAnyH_ready (rs := [10, 13]) (by kernel_rfl) (by simp) ?_
    refine AllReadyH.cons (o := ?o50) ?g50 (fun K hK => ?j50) (AllReadyH.cons (o := ?o51) ?g51 (fun K hK => ?j51) AllReadyH.nil)
    case g50 => (simp only [gA, gB, gC]; rfl)
    case g51 => (simp only [gA, gB, gC]; rfl)
    case j50 =>
      go_simp
      (go_at_call 89; refine (HP.out hn _ _ G2.out).mono ?_)
      rintro e wa ⟨va, rfl, hoa, hbm⟩
      obtain ⟨A2, c2, rfl, -⟩ := (own_bs hoa).open
      have F2 := Lib.hid (own_bs hoa)
      refine hK.out _ _ (by (try dsimp only); exact HK.out _ (bel2M HBC.out hbm)) (fun _ => ?_)
      (try simp only [Act.put, sA, sB, sC])
      refine wpAnyH_norm (fuel' := 4) (listed' := #[true, true, true, true, true, true, true, true, true, true, true, true, true, false, false, false, false]) (by kernel_rfl) (by kernel_rfl) ?_
      have hst := st_2_3_6_9_10 g1 A1 c1 C1A C1c g2 A2 c2 _ (Lib.hid (bel2M HBC.out hbm)) (Lib.hid (heapB G1.out hbm)) (Lib.hid (F1.out.below hbm (Nat.le_refl _))) (Lib.hid (C1.out.below hbm (Nat.le_refl _))) (Lib.hid (heapB G2.out hbm)) F2
      rw [hG] at hst
      exact hst
    case j51 =>
      refine step_conv rfl _ 29 58 rfl _ Try.underlying29 Try.underlying58 Try.underlying5 hr rfl (HC2.out) ?_
      intro C2A C2c w' hcs hbm
      have C2 := Lib.hid hcs
      refine hK.out _ _ (by (try dsimp only); exact HK.out _ (bel2M HBC.out hbm)) (fun _ => ?_)
      (try simp only [Act.put, sA, sB, sC])
      refine wpAnyH_norm (fuel' := 4) (listed' := #[true, true, true, true, true, true, true, true, true, true, false, true, true, true, false, false, false]) (by kernel_rfl) (by kernel_rfl) ?_
      have hst := st_2_3_6_9_13 g1 A1 c1 C1A C1c g2 C2A C2c _ (Lib.hid (bel2M HBC.out hbm)) (Lib.hid (heapB G1.out hbm)) (Lib.hid (F1.out.below hbm (Nat.le_refl _))) (Lib.hid (C1.out.below hbm (Nat.le_refl _))) (Lib.hid (heapB G2.out hbm)) C2
      rw [hG] at hst
      exact hst
  have st_2_3_9_10 : ∀ (g1 : Nat) (A1 : Option Addr) (c1 : Nat) (g2 : Nat) (A2 : Option Addr) (c2 : Nat) (W : World) (HBC : Hid (Below w0.heap.size w0 W)) (G1 : Hid (W.heap[g1]? = some (.cells #[.int .i64 hh] 3 (0, 0)))) (F1 : Hid (Bs W (.slice A1 (i8B hh).length c1) (i8B hh))) (G2 : Hid (W.heap[g2]? = some (.cells #[.int .i64 hn] 3 (0, 0)))) (F2 : Hid (Bs W (.slice A2 (i8B hn).length c2) (i8B hn))), G 5 #[true, true, true, true, true, true, false, true, true, true, true, true, true, false, false, false, false] ⟨#[agH hh hp hn hr, .pointer (some ⟨w.heap.size, 0, none⟩), .string ⟨#[]⟩, .pointer (some ⟨w.heap.size, 0, none⟩), .int .i64 hh, .slice (some ⟨g1, 0, none⟩) 1 1, .slice A1 (i8B hh).length c1, .pointer (some ⟨w.heap.size, 1, none⟩), .string (strB hp), undef, .pointer (some ⟨w.heap.size, 2, none⟩), .int .i64 hn, .slice (some ⟨g2, 0, none⟩) 1 1, .slice A2 (i8B hn).length c2, .pointer (some ⟨w.heap.size, 3, none⟩), .string (strB hr), undef, undef, undef], []⟩ W := by
    intro g1 A1 c1 g2 A2 c2 W HBC G1 F1 G2 F2
    rw [hG]
    have hHeld : ((fun W => W.cell? ⟨w.heap.size, 0, none⟩ = some (.int .i64 hh) ∧ W.cell? ⟨w.heap.size, 1, none⟩ = some (.string (strB hp)) ∧ W.cell? ⟨w.heap.size, 2, none⟩ = some (.int .i64 hn) ∧ W.cell? ⟨w.heap.size, 3, none⟩ = some (.string (strB hr)))) W := HK.out _ HBC.out
    refine wpAnyH_ready (rs := [6, 13]) (by kernel_rfl) (by simp) ?_
    refine AllReadyH.cons (o := ?o52) ?g52 (fun K hK => ?j52) (AllReadyH.cons (o := ?o53) ?g53 (fun K hK => ?j53) AllReadyH.nil)
    case g52 => (simp only [gA, gB, gC]; rfl)
    case g53 => (simp only [gA, gB, gC]; rfl)
    case j52 =>
      refine step_conv rfl _ 29 58 rfl _ Try.underlying29 Try.underlying58 Try.underlying5 hp rfl (HC1.out) ?_
      intro C1A C1c w' hcs hbm
      have C1 := Lib.hid hcs
      refine hK.out _ _ (by (try dsimp only); exact HK.out _ (bel2M HBC.out hbm)) (fun _ => ?_)
      (try simp only [Act.put, sA, sB, sC])
      refine wpAnyH_norm (fuel' := 4) (listed' := #[true, true, true, true, true, true, true, true, true, true, true, true, true, false, false, false, false]) (by kernel_rfl) (by kernel_rfl) ?_
      have hst := st_2_3_6_9_10 g1 A1 c1 C1A C1c g2 A2 c2 _ (Lib.hid (bel2M HBC.out hbm)) (Lib.hid (heapB G1.out hbm)) (Lib.hid (F1.out.below hbm (Nat.le_refl _))) C1 (Lib.hid (heapB G2.out hbm)) (Lib.hid (F2.out.below hbm (Nat.le_refl _)))
      rw [hG] at hst
      exact hst
    case j53 =>
      refine step_conv rfl _ 29 58 rfl _ Try.underlying29 Try.underlying58 Try.underlying5 hr rfl (HC2.out) ?_
      intro C2A C2c w' hcs hbm
      have C2 := Lib.hid hcs
      refine hK.out _ _ (by (try dsimp only); exact HK.out _ (bel2M HBC.out hbm)) (fun _ => ?_)
      (try simp only [Act.put, sA, sB, sC])
      refine wpAnyH_norm (fuel' := 4) (listed' := #[true, true, true, true, true, true, false, true, true, true, true, true, true, true, false, false, false]) (by kernel_rfl) (by kernel_rfl) ?_
      have hst := st_2_3_9_10_13 g1 A1 c1 g2 A2 c2 C2A C2c _ (Lib.hid (bel2M HBC.out hbm)) (Lib.hid (heapB G1.out hbm)) (Lib.hid (F1.out.below hbm (Nat.le_refl _))) (Lib.hid (heapB G2.out hbm)) (Lib.hid (F2.out.below hbm (Nat.le_refl _))) C2
      rw [hG] at hst
      exact hst
  have st_6_9_13 : ∀ (C1A : Option Addr) (C1c : Nat) (g2 : Nat) (C2A : Option Addr) (C2c : Nat) (W : World) (HBC : Hid (Below w0.heap.size w0 W)) (C1 : Hid (Bs W (.slice C1A hp.length C1c) hp)) (G2 : Hid (W.heap[g2]? = some (.cells #[.int .i64 hn] 3 (0, 0)))) (C2 : Hid (Bs W (.slice C2A hr.length C2c) hr)), G 6 #[true, true, false, false, true, true, true, true, true, true, false, true, true, true, false, false, false] ⟨#[agH hh hp hn hr, .pointer (some ⟨w.heap.size, 0, none⟩), .string ⟨#[]⟩, .pointer (some ⟨w.heap.size, 0, none⟩), .int .i64 hh, undef, undef, .pointer (some ⟨w.heap.size, 1, none⟩), .string (strB hp), .slice C1A hp.length C1c, .pointer (some ⟨w.heap.size, 2, none⟩), .int .i64 hn, .slice (some ⟨g2, 0, none⟩) 1 1, undef, .pointer (some ⟨w.heap.size, 3, none⟩), .string (strB hr), .slice C2A hr.length C2c, undef, undef], []⟩ W := by
    intro C1A C1c g2 C2A C2c W HBC C1 G2 C2
    rw [hG]
    have hHeld : ((fun W => W.cell? ⟨w.heap.size, 0, none⟩ = some (.int .i64 hh) ∧ W.cell? ⟨w.heap.size, 1, none⟩ = some (.string (strB hp)) ∧ W.cell? ⟨w.heap.size, 2, none⟩ = some (.int .i64 hn) ∧ W.cell? ⟨w.heap.size, 3, none⟩ = some (.string (strB hr)))) W := HK.out _ HBC.out
    refine wpAnyH_ready (rs := [2]) (by kernel_rfl) (by simp) ?_
    refine AllReadyH.cons (o := ?o54) ?g54 (fun K hK => ?j54) AllReadyH.nil
    case g54 => (simp only [gA, gB, gC]; rfl)
    case j54 =>
      refine step_built rfl 130 1 _ rfl #[.int .i64 hh] 3 (fun W => by go_simp) ?_
      intro g1 w' hg hbm hge
      have G1 := Lib.hid hg
      refine hK.out _ _ (by (try dsimp only); exact HK.out _ (bel2M HBC.out hbm)) (fun _ => ?_)
      (try simp only [Act.put, sA, sB, sC])
      refine wpAnyH_norm (fuel' := 5) (listed' := #[true, true, true, false, true, true, true, true, true, true, false, true, true, true, false, false, false]) (by kernel_rfl) (by kernel_rfl) ?_
      have hst := st_2_6_9_13 g1 C1A C1c g2 C2A C2c _ (Lib.hid (bel2M HBC.out hbm)) G1 (Lib.hid (C1.out.below hbm (Nat.le_refl _))) (Lib.hid (heapB G2.out hbm)) (Lib.hid (C2.out.below hbm (Nat.le_refl _)))
      rw [hG] at hst
      exact hst
  have st_2_9_13 : ∀ (g1 : Nat) (g2 : Nat) (C2A : Option Addr) (C2c : Nat) (W : World) (HBC : Hid (Below w0.heap.size w0 W)) (G1 : Hid (W.heap[g1]? = some (.cells #[.int .i64 hh] 3 (0, 0)))) (G2 : Hid (W.heap[g2]? = some (.cells #[.int .i64 hn] 3 (0, 0)))) (C2 : Hid (Bs W (.slice C2A hr.length C2c) hr)), G 6 #[true, true, true, false, true, true, false, true, true, true, false, true, true, true, false, false, false] ⟨#[agH hh hp hn hr, .pointer (some ⟨w.heap.size, 0, none⟩), .string ⟨#[]⟩, .pointer (some ⟨w.heap.size, 0, none⟩), .int .i64 hh, .slice (some ⟨g1, 0, none⟩) 1 1, undef, .pointer (some ⟨w.heap.size, 1, none⟩), .string (strB hp), undef, .pointer (some ⟨w.heap.size, 2, none⟩), .int .i64 hn, .slice (some ⟨g2, 0, none⟩) 1 1, undef, .pointer (some ⟨w.heap.size, 3, none⟩), .string (strB hr), .slice C2A hr.length C2c, undef, undef], []⟩ W := by
    intro g1 g2 C2A C2c W HBC G1 G2 C2
    rw [hG]
    have hHeld : ((fun W => W.cell? ⟨w.heap.size, 0, none⟩ = some (.int .i64 hh) ∧ W.cell? ⟨w.heap.size, 1, none⟩ = some (.string (strB hp)) ∧ W.cell? ⟨w.heap.size, 2, none⟩ = some (.int .i64 hn) ∧ W.cell? ⟨w.heap.size, 3, none⟩ = some (.string (strB hr)))) W := HK.out _ HBC.out
    refine wpAnyH_ready (rs := [3, 6]) (by kernel_rfl) (by simp) ?_
    refine AllReadyH.cons (o := ?o55) ?g55 (fun K hK => ?j55) (AllReadyH.cons (o := ?o56) ?g56 (fun K hK => ?j56) AllReadyH.nil)
    case g55 => (simp only [gA, gB, gC]; rfl)
    case g56 => (simp only [gA, gB, gC]; rfl)
    case j55 =>
      go_simp
      (go_at_call 89; refine (HP.out hh _ _ G1.out).mono ?_)
      rintro e wa ⟨va, rfl, hoa, hbm⟩
      obtain ⟨A1, c1, rfl, -⟩ := (own_bs hoa).open
      have F1 := Lib.hid (own_bs hoa)
      refine hK.out _ _ (by (try dsimp only); exact HK.out _ (bel2M HBC.out hbm)) (fun _ => ?_)
      (try simp only [Act.put, sA, sB, sC])
      refine wpAnyH_norm (fuel' := 5) (listed' := #[true, true, true, true, true, true, false, true, true, true, false, true, true, true, false, false, false]) (by kernel_rfl) (by kernel_rfl) ?_
      have hst := st_2_3_9_13 g1 A1 c1 g2 C2A C2c _ (Lib.hid (bel2M HBC.out hbm)) (Lib.hid (heapB G1.out hbm)) F1 (Lib.hid (heapB G2.out hbm)) (Lib.hid (C2.out.below hbm (Nat.le_refl _)))
      rw [hG] at hst
      exact hst
    case j56 =>
      refine step_conv rfl _ 29 58 rfl _ Try.underlying29 Try.underlying58 Try.underlying5 hp rfl (HC1.out) ?_
      intro C1A C1c w' hcs hbm
      have C1 := Lib.hid hcs
      refine hK.out _ _ (by (try dsimp only); exact HK.out _ (bel2M HBC.out hbm)) (fun _ => ?_)
      (try simp only [Act.put, sA, sB, sC])
      refine wpAnyH_norm (fuel' := 5) (listed' := #[true, true, true, false, true, true, true, true, true, true, false, true, true, true, false, false, false]) (by kernel_rfl) (by kernel_rfl) ?_
      have hst := st_2_6_9_13 g1 C1A C1c g2 C2A C2c _ (Lib.hid (bel2M HBC.out hbm)) (Lib.hid (heapB G1.out hbm)) C1 (Lib.hid (heapB G2.out hbm)) (Lib.hid (C2.out.below hbm (Nat.le_refl _)))
      rw [hG] at hst
      exact hst
  have st_2_6_13 : ∀ (g1 : Nat) (C1A : Option Addr) (C1c : Nat) (C2A : Option Addr) (C2c : Nat) (W : World) (HBC : Hid (Below w0.heap.size w0 W)) (G1 : Hid (W.heap[g1]? = some (.cells #[.int .i64 hh] 3 (0, 0)))) (C1 : Hid (Bs W (.slice C1A hp.length C1c) hp)) (C2 : Hid (Bs W (.slice C2A hr.length C2c) hr)), G 6 #[true, true, true, false, true, true, true, true, true, false, false, true, true, true, false, false, false] ⟨#[agH hh hp hn hr, .pointer (some ⟨w.heap.size, 0, none⟩), .string ⟨#[]⟩, .pointer (some ⟨w.heap.size, 0, none⟩), .int .i64 hh, .slice (some ⟨g1, 0, none⟩) 1 1, undef, .pointer (some ⟨w.heap.size, 1, none⟩), .string (strB hp), .slice C1A hp.length C1c, .pointer (some ⟨w.heap.size, 2, none⟩), .int .i64 hn, undef, undef, .pointer (some ⟨w.heap.size, 3, none⟩), .string (strB hr), .slice C2A hr.length C2c, undef, undef], []⟩ W := by
    intro g1 C1A C1c C2A C2c W HBC G1 C1 C2
    rw [hG]
    have hHeld : ((fun W => W.cell? ⟨w.heap.size, 0, none⟩ = some (.int .i64 hh) ∧ W.cell? ⟨w.heap.size, 1, none⟩ = some (.string (strB hp)) ∧ W.cell? ⟨w.heap.size, 2, none⟩ = some (.int .i64 hn) ∧ W.cell? ⟨w.heap.size, 3, none⟩ = some (.string (strB hr)))) W := HK.out _ HBC.out
    refine wpAnyH_ready (rs := [3, 9]) (by kernel_rfl) (by simp) ?_
    refine AllReadyH.cons (o := ?o57) ?g57 (fun K hK => ?j57) (AllReadyH.cons (o := ?o58) ?g58 (fun K hK => ?j58) AllReadyH.nil)
    case g57 => (simp only [gA, gB, gC]; rfl)
    case g58 => (simp only [gA, gB, gC]; rfl)
    case j57 =>
      go_simp
      (go_at_call 89; refine (HP.out hh _ _ G1.out).mono ?_)
      rintro e wa ⟨va, rfl, hoa, hbm⟩
      obtain ⟨A1, c1, rfl, -⟩ := (own_bs hoa).open
      have F1 := Lib.hid (own_bs hoa)
      refine hK.out _ _ (by (try dsimp only); exact HK.out _ (bel2M HBC.out hbm)) (fun _ => ?_)
      (try simp only [Act.put, sA, sB, sC])
      refine wpAnyH_norm (fuel' := 5) (listed' := #[true, true, true, true, true, true, true, true, true, false, false, true, true, true, false, false, false]) (by kernel_rfl) (by kernel_rfl) ?_
      have hst := st_2_3_6_13 g1 A1 c1 C1A C1c C2A C2c _ (Lib.hid (bel2M HBC.out hbm)) (Lib.hid (heapB G1.out hbm)) F1 (Lib.hid (C1.out.below hbm (Nat.le_refl _))) (Lib.hid (C2.out.below hbm (Nat.le_refl _)))
      rw [hG] at hst
      exact hst
    case j58 =>
      refine step_built rfl 130 1 _ rfl #[.int .i64 hn] 3 (fun W => by go_simp) ?_
      intro g2 w' hg hbm hge
      have G2 := Lib.hid hg
      refine hK.out _ _ (by (try dsimp only); exact HK.out _ (bel2M HBC.out hbm)) (fun _ => ?_)
      (try simp only [Act.put, sA, sB, sC])
      refine wpAnyH_norm (fuel' := 5) (listed' := #[true, true, true, false, true, true, true, true, true, true, false, true, true, true, false, false, false]) (by kernel_rfl) (by kernel_rfl) ?_
      have hst := st_2_6_9_13 g1 C1A C1c g2 C2A C2c _ (Lib.hid (bel2M HBC.out hbm)) (Lib.hid (heapB G1.out hbm)) (Lib.hid (C1.out.below hbm (Nat.le_refl _))) G2 (Lib.hid (C2.out.below hbm (Nat.le_refl _)))
      rw [hG] at hst
      exact hst
  have st_2_3_13 : ∀ (g1 : Nat) (A1 : Option Addr) (c1 : Nat) (C2A : Option Addr) (C2c : Nat) (W : World) (HBC : Hid (Below w0.heap.size w0 W)) (G1 : Hid (W.heap[g1]? = some (.cells #[.int .i64 hh] 3 (0, 0)))) (F1 : Hid (Bs W (.slice A1 (i8B hh).length c1) (i8B hh))) (C2 : Hid (Bs W (.slice C2A hr.length C2c) hr)), G 6 #[true, true, true, true, true, true, false, true, true, false, false, true, true, true, false, false, false] ⟨#[agH hh hp hn hr, .pointer (some ⟨w.heap.size, 0, none⟩), .string ⟨#[]⟩, .pointer (some ⟨w.heap.size, 0, none⟩), .int .i64 hh, .slice (some ⟨g1, 0, none⟩) 1 1, .slice A1 (i8B hh).length c1, .pointer (some ⟨w.heap.size, 1, none⟩), .string (strB hp), undef, .pointer (some ⟨w.heap.size, 2, none⟩), .int .i64 hn, undef, undef, .pointer (some ⟨w.heap.size, 3, none⟩), .string (strB hr), .slice C2A hr.length C2c, undef, undef], []⟩ W := by
    intro g1 A1 c1 C2A C2c W HBC G1 F1 C2
    rw [hG]
    have hHeld : ((fun W => W.cell? ⟨w.heap.size, 0, none⟩ = some (.int .i64 hh) ∧ W.cell? ⟨w.heap.size, 1, none⟩ = some (.string (strB hp)) ∧ W.cell? ⟨w.heap.size, 2, none⟩ = some (.int .i64 hn) ∧ W.cell? ⟨w.heap.size, 3, none⟩ = some (.string (strB hr)))) W := HK.out _ HBC.out
    refine wpAnyH_ready (rs := [6, 9]) (by kernel_rfl) (by simp) ?_
    refine AllReadyH.cons (o := ?o59) ?g59 (fun K hK => ?j59) (AllReadyH.cons (o := ?o60) ?g60 (fun K hK => ?j60) AllReadyH.nil)
    case g59 => (simp only [gA, gB, gC]; rfl)
    case g60 => (simp only [gA, gB, gC]; rfl)
    case j59 =>
      refine step_conv rfl _ 29 58 rfl _ Try.underlying29 Try.underlying58 Try.underlying5 hp rfl (HC1.out) ?_
      intro C1A C1c w' hcs hbm
      have C1 := Lib.hid hcs
      refine hK.out _ _ (by (try dsimp only); exact HK.out _ (bel2M HBC.out hbm)) (fun _ => ?_)
      (try simp only [Act.put, sA, sB, sC])
      refine wpAnyH_norm (fuel' := 5) (listed' := #[true, true, true, true, true, true, true, true, true, false, false, true, true, true, false, false, false]) (by kernel_rfl) (by kernel_rfl) ?_
      have hst := st_2_3_6_13 g1 A1 c1 C1A C1c C2A C2c _ (Lib.hid (bel2M HBC.out hbm)) (Lib.hid (heapB G1.out hbm)) (Lib.hid (F1.out.below hbm (Nat.le_refl _))) C1 (Lib.hid (C2.out.below hbm (Nat.le_refl _)))
      rw [hG] at hst
      exact hst
    case j60 =>
      refine step_built rfl 130 1 _ rfl #[.int .i64 hn] 3 (fun W => by go_simp) ?_
      intro g2 w' hg hbm hge
      have G2 := Lib.hid hg
      refine hK.out _ _ (by (try dsimp only); exact HK.out _ (bel2M HBC.out hbm)) (fun _ => ?_)
      (try simp only [Act.put, sA, sB, sC])
      refine wpAnyH_norm (fuel' := 5) (listed' := #[true, true, true, true, true, true, false, true, true, true, false, true, true, true, false, false, false]) (by kernel_rfl) (by kernel_rfl) ?_
      have hst := st_2_3_9_13 g1 A1 c1 g2 C2A C2c _ (Lib.hid (bel2M HBC.out hbm)) (Lib.hid (heapB G1.out hbm)) (Lib.hid (F1.out.below hbm (Nat.le_refl _))) G2 (Lib.hid (C2.out.below hbm (Nat.le_refl _)))
      rw [hG] at hst
      exact hst
  have st_2_6_9 : ∀ (g1 : Nat) (C1A : Option Addr) (C1c : Nat) (g2 : Nat) (W : World) (HBC : Hid (Below w0.heap.size w0 W)) (G1 : Hid (W.heap[g1]? = some (.cells #[.int .i64 hh] 3 (0, 0)))) (C1 : Hid (Bs W (.slice C1A hp.length C1c) hp)) (G2 : Hid (W.heap[g2]? = some (.cells #[.int .i64 hn] 3 (0, 0)))), G 6 #[true, true, true, false, true, true, true, true, true, true, false, true, true, false, false, false, false] ⟨#[agH hh hp hn hr, .pointer (some ⟨w.heap.size, 0, none⟩), .string ⟨#[]⟩, .pointer (some ⟨w.heap.size, 0, none⟩), .int .i64 hh, .slice (some ⟨g1, 0, none⟩) 1 1, undef, .pointer (some ⟨w.heap.size, 1, none⟩), .string (strB hp), .slice C1A hp.length C1c, .pointer (some ⟨w.heap.size, 2, none⟩), .int .i64 hn, .slice (some ⟨g2, 0, none⟩) 1 1, undef, .pointer (some ⟨w.heap.size, 3, none⟩), .string (strB hr), undef, undef, undef], []⟩ W := by
    intro g1 C1A C1c g2 W HBC G1 C1 G2
    rw [hG]
    have hHeld : ((fun W => W.cell? ⟨w.heap.size, 0, none⟩ = some (.int .i64 hh) ∧ W.cell? ⟨w.heap.size, 1, none⟩ = some (.string (strB hp)) ∧ W.cell? ⟨w.heap.size, 2, none⟩ = some (.int .i64 hn) ∧ W.cell? ⟨w.heap.size, 3, none⟩ = some (.string (strB hr)))) W := HK.out _ HBC.out
    refine wpAnyH_ready (rs := [3, 13]) (by kernel_rfl) (by simp) ?_
    refine AllReadyH.cons (o := ?o61) ?g61 (fun K hK => ?j61) (AllReadyH.cons (o := ?o62) ?g62 (fun K hK => ?j62) AllReadyH.nil)
    case g61 => (simp only [gA, gB, gC]; rfl)
    case g62 => (simp only [gA, gB, gC]; rfl)
    case j61 =>
      go_simp
      (go_at_call 89; refine (HP.out hh _ _ G1.out).mono ?_)
      rintro e wa ⟨va, rfl, hoa, hbm⟩
      obtain ⟨A1, c1, rfl, -⟩ := (own_bs hoa).open
      have F1 := Lib.hid (own_bs hoa)
      refine hK.out _ _ (by (try dsimp only); exact HK.out _ (bel2M HBC.out hbm)) (fun _ => ?_)
      (try simp only [Act.put, sA, sB, sC])
      refine wpAnyH_norm (fuel' := 5) (listed' := #[true, true, true, true, true, true, true, true, true, true, false, true, true, false, false, false, false]) (by kernel_rfl) (by kernel_rfl) ?_
      have hst := st_2_3_6_9 g1 A1 c1 C1A C1c g2 _ (Lib.hid (bel2M HBC.out hbm)) (Lib.hid (heapB G1.out hbm)) F1 (Lib.hid (C1.out.below hbm (Nat.le_refl _))) (Lib.hid (heapB G2.out hbm))
      rw [hG] at hst
      exact hst
    case j62 =>
      refine step_conv rfl _ 29 58 rfl _ Try.underlying29 Try.underlying58 Try.underlying5 hr rfl (HC2.out) ?_
      intro C2A C2c w' hcs hbm
      have C2 := Lib.hid hcs
      refine hK.out _ _ (by (try dsimp only); exact HK.out _ (bel2M HBC.out hbm)) (fun _ => ?_)
      (try simp only [Act.put, sA, sB, sC])
      refine wpAnyH_norm (fuel' := 5) (listed' := #[true, true, true, false, true, true, true, true, true, true, false, true, true, true, false, false, false]) (by kernel_rfl) (by kernel_rfl) ?_
      have hst := st_2_6_9_13 g1 C1A C1c g2 C2A C2c _ (Lib.hid (bel2M HBC.out hbm)) (Lib.hid (heapB G1.out hbm)) (Lib.hid (C1.out.below hbm (Nat.le_refl _))) (Lib.hid (heapB G2.out hbm)) C2
      rw [hG] at hst
      exact hst
  have st_2_3_9 : ∀ (g1 : Nat) (A1 : Option Addr) (c1 : Nat) (g2 : Nat) (W : World) (HBC : Hid (Below w0.heap.size w0 W)) (G1 : Hid (W.heap[g1]? = some (.cells #[.int .i64 hh] 3 (0, 0)))) (F1 : Hid (Bs W (.slice A1 (i8B hh).length c1) (i8B hh))) (G2 : Hid (W.heap[g2]? = some (.cells #[.int .i64 hn] 3 (0, 0)))), G 6 #[true, true, true, true, true, true, false, true, true, true, false, true, true, false, false, false, false] ⟨#[agH hh hp hn hr, .pointer (some ⟨w.heap.size, 0, none⟩), .string ⟨#[]⟩, .pointer (some ⟨w.heap.size, 0, none⟩), .int .i64 hh, .slice (some ⟨g1, 0, none⟩) 1 1, .slice A1 (i8B hh).length c1, .pointer (some ⟨w.heap.size, 1, none⟩), .string (strB hp), undef, .pointer (some ⟨w.heap.size, 2, none⟩), .int .i64 hn, .slice (some ⟨g2, 0, none⟩) 1 1, undef, .pointer (some ⟨w.heap.size, 3, none⟩), .string (strB hr), undef, undef, undef], []⟩ W := by
    intro g1 A1 c1 g2 W HBC G1 F1 G2
    rw [hG]
    have hHeld : ((fun W => W.cell? ⟨w.heap.size, 0, none⟩ = some (.int .i64 hh) ∧ W.cell? ⟨w.heap.size, 1, none⟩ = some (.string (strB hp)) ∧ W.cell? ⟨w.heap.size, 2, none⟩ = some (.int .i64 hn) ∧ W.cell? ⟨w.heap.size, 3, none⟩ = some (.string (strB hr)))) W := HK.out _ HBC.out
    refine wpAnyH_ready (rs := [6, 10, 13]) (by kernel_rfl) (by simp) ?_
    refine AllReadyH.cons (o := ?o63) ?g63 (fun K hK => ?j63) (AllReadyH.cons (o := ?o64) ?g64 (fun K hK => ?j64) (AllReadyH.cons (o := ?o65) ?g65 (fun K hK => ?j65) AllReadyH.nil))
    case g63 => (simp only [gA, gB, gC]; rfl)
    case g64 => (simp only [gA, gB, gC]; rfl)
    case g65 => (simp only [gA, gB, gC]; rfl)
    case j63 =>
      refine step_conv rfl _ 29 58 rfl _ Try.underlying29 Try.underlying58 Try.underlying5 hp rfl (HC1.out) ?_
      intro C1A C1c w' hcs hbm
      have C1 := Lib.hid hcs
      refine hK.out _ _ (by (try dsimp only); exact HK.out _ (bel2M HBC.out hbm)) (fun _ => ?_)
      (try simp only [Act.put, sA, sB, sC])
      refine wpAnyH_norm (fuel' := 5) (listed' := #[true, true, true, true, true, true, true, true, true, true, false, true, true, false, false, false, false]) (by kernel_rfl) (by kernel_rfl) ?_
      have hst := st_2_3_6_9 g1 A1 c1 C1A C1c g2 _ (Lib.hid (bel2M HBC.out hbm)) (Lib.hid (heapB G1.out hbm)) (Lib.hid (F1.out.below hbm (Nat.le_refl _))) C1 (Lib.hid (heapB G2.out hbm))
      rw [hG] at hst
      exact hst
    case j64 =>
      go_simp
      (go_at_call 89; refine (HP.out hn _ _ G2.out).mono ?_)
      rintro e wa ⟨va, rfl, hoa, hbm⟩
      obtain ⟨A2, c2, rfl, -⟩ := (own_bs hoa).open
      have F2 := Lib.hid (own_bs hoa)
      refine hK.out _ _ (by (try dsimp only); exact HK.out _ (bel2M HBC.out hbm)) (fun _ => ?_)
      (try simp only [Act.put, sA, sB, sC])
      refine wpAnyH_norm (fuel' := 5) (listed' := #[true, true, true, true, true, true, false, true, true, true, true, true, true, false, false, false, false]) (by kernel_rfl) (by kernel_rfl) ?_
      have hst := st_2_3_9_10 g1 A1 c1 g2 A2 c2 _ (Lib.hid (bel2M HBC.out hbm)) (Lib.hid (heapB G1.out hbm)) (Lib.hid (F1.out.below hbm (Nat.le_refl _))) (Lib.hid (heapB G2.out hbm)) F2
      rw [hG] at hst
      exact hst
    case j65 =>
      refine step_conv rfl _ 29 58 rfl _ Try.underlying29 Try.underlying58 Try.underlying5 hr rfl (HC2.out) ?_
      intro C2A C2c w' hcs hbm
      have C2 := Lib.hid hcs
      refine hK.out _ _ (by (try dsimp only); exact HK.out _ (bel2M HBC.out hbm)) (fun _ => ?_)
      (try simp only [Act.put, sA, sB, sC])
      refine wpAnyH_norm (fuel' := 5) (listed' := #[true, true, true, true, true, true, false, true, true, true, false, true, true, true, false, false, false]) (by kernel_rfl) (by kernel_rfl) ?_
      have hst := st_2_3_9_13 g1 A1 c1 g2 C2A C2c _ (Lib.hid (bel2M HBC.out hbm)) (Lib.hid (heapB G1.out hbm)) (Lib.hid (F1.out.below hbm (Nat.le_refl _))) (Lib.hid (heapB G2.out hbm)) C2
      rw [hG] at hst
      exact hst
  have st_2_3_6 : ∀ (g1 : Nat) (A1 : Option Addr) (c1 : Nat) (C1A : Option Addr) (C1c : Nat) (W : World) (HBC : Hid (Below w0.heap.size w0 W)) (G1 : Hid (W.heap[g1]? = some (.cells #[.int .i64 hh] 3 (0, 0)))) (F1 : Hid (Bs W (.slice A1 (i8B hh).length c1) (i8B hh))) (C1 : Hid (Bs W (.slice C1A hp.length C1c) hp)), G 6 #[true, true, true, true, true, true, true, true, true, false, false, true, true, false, false, false, false] ⟨#[agH hh hp hn hr, .pointer (some ⟨w.heap.size, 0, none⟩), .string ⟨#[]⟩, .pointer (some ⟨w.heap.size, 0, none⟩), .int .i64 hh, .slice (some ⟨g1, 0, none⟩) 1 1, .slice A1 (i8B hh).length c1, .pointer (some ⟨w.heap.size, 1, none⟩), .string (strB hp), .slice C1A hp.length C1c, .pointer (some ⟨w.heap.size, 2, none⟩), .int .i64 hn, undef, undef, .pointer (some ⟨w.heap.size, 3, none⟩), .string (strB hr), undef, undef, undef], []⟩ W := by
    intro g1 A1 c1 C1A C1c W HBC G1 F1 C1
    rw [hG]
    have hHeld : ((fun W => W.cell? ⟨w.heap.size, 0, none⟩ = some (.int .i64 hh) ∧ W.cell? ⟨w.heap.size, 1, none⟩ = some (.string (strB hp)) ∧ W.cell? ⟨w.heap.size, 2, none⟩ = some (.int .i64 hn) ∧ W.cell? ⟨w.heap.size, 3, none⟩ = some (.string (strB hr)))) W := HK.out _ HBC.out
    refine wpAnyH_ready (rs := [9, 13]) (by kernel_rfl) (by simp) ?_
    refine AllReadyH.cons (o := ?o66) ?g66 (fun K hK => ?j66) (AllReadyH.cons (o := ?o67) ?g67 (fun K hK => ?j67) AllReadyH.nil)
    case g66 => (simp only [gA, gB, gC]; rfl)
    case g67 => (simp only [gA, gB, gC]; rfl)
    case j66 =>
      refine step_built rfl 130 1 _ rfl #[.int .i64 hn] 3 (fun W => by go_simp) ?_
      intro g2 w' hg hbm hge
      have G2 := Lib.hid hg
      refine hK.out _ _ (by (try dsimp only); exact HK.out _ (bel2M HBC.out hbm)) (fun _ => ?_)
      (try simp only [Act.put, sA, sB, sC])
      refine wpAnyH_norm (fuel' := 5) (listed' := #[true, true, true, true, true, true, true, true, true, true, false, true, true, false, false, false, false]) (by kernel_rfl) (by kernel_rfl) ?_
      have hst := st_2_3_6_9 g1 A1 c1 C1A C1c g2 _ (Lib.hid (bel2M HBC.out hbm)) (Lib.hid (heapB G1.out hbm)) (Lib.hid (F1.out.below hbm (Nat.le_refl _))) (Lib.hid (C1.out.below hbm (Nat.le_refl _))) G2
      rw [hG] at hst
      exact hst
    case j67 =>
      refine step_conv rfl _ 29 58 rfl _ Try.underlying29 Try.underlying58 Try.underlying5 hr rfl (HC2.out) ?_
      intro C2A C2c w' hcs hbm
      have C2 := Lib.hid hcs
      refine hK.out _ _ (by (try dsimp only); exact HK.out _ (bel2M HBC.out hbm)) (fun _ => ?_)
      (try simp only [Act.put, sA, sB, sC])
      refine wpAnyH_norm (fuel' := 5) (listed' := #[true, true, true, true, true, true, true, true, true, false, false, true, true, true, false, false, false]) (by kernel_rfl) (by kernel_rfl) ?_
      have hst := st_2_3_6_13 g1 A1 c1 C1A C1c C2A C2c _ (Lib.hid (bel2M HBC.out hbm)) (Lib.hid (heapB G1.out hbm)) (Lib.hid (F1.out.below hbm (Nat.le_refl _))) (Lib.hid (C1.out.below hbm (Nat.le_refl _))) C2
      rw [hG] at hst
      exact hst
  have st_9_13 : ∀ (g2 : Nat) (C2A : Option Addr) (C2c : Nat) (W : World) (HBC : Hid (Below w0.heap.size w0 W)) (G2 : Hid (W.heap[g2]? = some (.cells #[.int .i64 hn] 3 (0, 0)))) (C2 : Hid (Bs W (.slice C2A hr.length C2c) hr)), G 7 #[true, true, false, false, true, true, false, true, true, true, false, true, true, true, false, false, false] ⟨#[agH hh hp hn hr, .pointer (some ⟨w.heap.size, 0, none⟩), .string ⟨#[]⟩, .pointer (some ⟨w.heap.size, 0, none⟩), .int .i64 hh, undef, undef, .pointer (some ⟨w.heap.size, 1, none⟩), .string (strB hp), undef, .pointer (some ⟨w.heap.size, 2, none⟩), .int .i64 hn, .slice (some ⟨g2, 0, none⟩) 1 1, undef, .pointer (some ⟨w.heap.size, 3, none⟩), .string (strB hr), .slice C2A hr.length C2c, undef, undef], []⟩ W := by
    intro g2 C2A C2c W HBC G2 C2
    rw [hG]
    have hHeld : ((fun W => W.cell? ⟨w.heap.size, 0, none⟩ = some (.int .i64 hh) ∧ W.cell? ⟨w.heap.size, 1, none⟩ = some (.string (strB hp)) ∧ W.cell? ⟨w.heap.size, 2, none⟩ = some (.int .i64 hn) ∧ W.cell? ⟨w.heap.size, 3, none⟩ = some (.string (strB hr)))) W := HK.out _ HBC.out
    refine wpAnyH_ready (rs := [2, 6]) (by kernel_rfl) (by simp) ?_
    refine AllReadyH.cons (o := ?o68) ?g68 (fun K hK => ?j68) (AllReadyH.cons (o := ?o69) ?g69 (fun K hK => ?j69) AllReadyH.nil)
    case g68 => (simp only [gA, gB, gC]; rfl)
    case g69 => (simp only [gA, gB, gC]; rfl)
    case j68 =>
      refine step_built rfl 130 1 _ rfl #[.int .i64 hh] 3 (fun W => by go_simp) ?_
      intro g1 w' hg hbm hge
      have G1 := Lib.hid hg
      refine hK.out _ _ (by (try dsimp only); exact HK.out _ (bel2M HBC.out hbm)) (fun _ => ?_)
      (try simp only [Act.put, sA, sB, sC])
      refine wpAnyH_norm (fuel' := 6) (listed' := #[true, true, true, false, true, true, false, true, true, true, false, true, true, true, false, false, false]) (by kernel_rfl) (by kernel_rfl) ?_
      have hst := st_2_9_13 g1 g2 C2A C2c _ (Lib.hid (bel2M HBC.out hbm)) G1 (Lib.hid (heapB G2.out hbm)) (Lib.hid (C2.out.below hbm (Nat.le_refl _)))
      rw [hG] at hst
      exact hst
    case j69 =>
      refine step_conv rfl _ 29 58 rfl _ Try.underlying29 Try.underlying58 Try.underlying5 hp rfl (HC1.out) ?_
      intro C1A C1c w' hcs hbm
      have C1 := Lib.hid hcs
      refine hK.out _ _ (by (try dsimp only); exact HK.out _ (bel2M HBC.out hbm)) (fun _ => ?_)
      (try simp only [Act.put, sA, sB, sC])
      refine wpAnyH_norm (fuel' := 6) (listed' := #[true, true, false, false, true, true, true, true, true, true, false, true, true, true, false, false, false]) (by kernel_rfl) (by kernel_rfl) ?_
      have hst := st_6_9_13 C1A C1c g2 C2A C2c _ (Lib.hid (bel2M HBC.out hbm)) C1 (Lib.hid (heapB G2.out hbm)) (Lib.hid (C2.out.below hbm (Nat.le_refl _)))
      rw [hG] at hst
      exact hst
  have st_6_13 : ∀ (C1A : Option Addr) (C1c : Nat) (C2A : Option Addr) (C2c : Nat) (W : World) (HBC : Hid (Below w0.heap.size w0 W)) (C1 : Hid (Bs W (.slice C1A hp.length C1c) hp)) (C2 : Hid (Bs W (.slice C2A hr.length C2c) hr)), G 7 #[true, true, false, false, true, true, true, true, true, false, false, true, true, true, false, false, false] ⟨#[agH hh hp hn hr, .pointer (some ⟨w.heap.size, 0, none⟩), .string ⟨#[]⟩, .pointer (some ⟨w.heap.size, 0, none⟩), .int .i64 hh, undef, undef, .pointer (some ⟨w.heap.size, 1, none⟩), .string (strB hp), .slice C1A hp.length C1c, .pointer (some ⟨w.heap.size, 2, none⟩), .int .i64 hn, undef, undef, .pointer (some ⟨w.heap.size, 3, none⟩), .string (strB hr), .slice C2A hr.length C2c, undef, undef], []⟩ W := by
    intro C1A C1c C2A C2c W HBC C1 C2
    rw [hG]
    have hHeld : ((fun W => W.cell? ⟨w.heap.size, 0, none⟩ = some (.int .i64 hh) ∧ W.cell? ⟨w.heap.size, 1, none⟩ = some (.string (strB hp)) ∧ W.cell? ⟨w.heap.size, 2, none⟩ = some (.int .i64 hn) ∧ W.cell? ⟨w.heap.size, 3, none⟩ = some (.string (strB hr)))) W := HK.out _ HBC.out
    refine wpAnyH_ready (rs := [2, 9]) (by kernel_rfl) (by simp) ?_
    refine AllReadyH.cons (o := ?o70) ?g70 (fun K hK => ?j70) (AllReadyH.cons (o := ?o71) ?g71 (fun K hK => ?j71) AllReadyH.nil)
    case g70 => (simp only [gA, gB, gC]; rfl)
    case g71 => (simp only [gA, gB, gC]; rfl)
    case j70 =>
      refine step_built rfl 130 1 _ rfl #[.int .i64 hh] 3 (fun W => by go_simp) ?_
      intro g1 w' hg hbm hge
      have G1 := Lib.hid hg
      refine hK.out _ _ (by (try dsimp only); exact HK.out _ (bel2M HBC.out hbm)) (fun _ => ?_)
      (try simp only [Act.put, sA, sB, sC])
      refine wpAnyH_norm (fuel' := 6) (listed' := #[true, true, true, false, true, true, true, true, true, false, false, true, true, true, false, false, false]) (by kernel_rfl) (by kernel_rfl) ?_
      have hst := st_2_6_13 g1 C1A C1c C2A C2c _ (Lib.hid (bel2M HBC.out hbm)) G1 (Lib.hid (C1.out.below hbm (Nat.le_refl _))) (Lib.hid (C2.out.below hbm (Nat.le_refl _)))
      rw [hG] at hst
      exact hst
    case j71 =>
      refine step_built rfl 130 1 _ rfl #[.int .i64 hn] 3 (fun W => by go_simp) ?_
      intro g2 w' hg hbm hge
      have G2 := Lib.hid hg
      refine hK.out _ _ (by (try dsimp only); exact HK.out _ (bel2M HBC.out hbm)) (fun _ => ?_)
      (try simp only [Act.put, sA, sB, sC])
      refine wpAnyH_norm (fuel' := 6) (listed' := #[true, true, false, false, true, true, true, true, true, true, false, true, true, true, false, false, false]) (by kernel_rfl) (by kernel_rfl) ?_
      have hst := st_6_9_13 C1A C1c g2 C2A C2c _ (Lib.hid (bel2M HBC.out hbm)) (Lib.hid (C1.out.below hbm (Nat.le_refl _))) G2 (Lib.hid (C2.out.below hbm (Nat.le_refl _)))
      rw [hG] at hst
      exact hst
  have st_2_13 : ∀ (g1 : Nat) (C2A : Option Addr) (C2c : Nat) (W : World) (HBC : Hid (Below w0.heap.size w0 W)) (G1 : Hid (W.heap[g1]? = some (.cells #[.int .i64 hh] 3 (0, 0)))) (C2 : Hid (Bs W (.slice C2A hr.length C2c) hr)), G 7 #[true, true, true, false, true, true, false, true, true, false, false, true, true, true, false, false, false] ⟨#[agH hh hp hn hr, .pointer (some ⟨w.heap.size, 0, none⟩), .string ⟨#[]⟩, .pointer (some ⟨w.heap.size, 0, none⟩), .int .i64 hh, .slice (some ⟨g1, 0, none⟩) 1 1, undef, .pointer (some ⟨w.heap.size, 1, none⟩), .string (strB hp), undef, .pointer (some ⟨w.heap.size, 2, none⟩), .int .i64 hn, undef, undef, .pointer (some ⟨w.heap.size, 3, none⟩), .string (strB hr), .slice C2A hr.length C2c, undef, undef], []⟩ W := by
    intro g1 C2A C2c W HBC G1 C2
    rw [hG]
    have hHeld : ((fun W => W.cell? ⟨w.heap.size, 0, none⟩ = some (.int .i64 hh) ∧ W.cell? ⟨w.heap.size, 1, none⟩ = some (.string (strB hp)) ∧ W.cell? ⟨w.heap.size, 2, none⟩ = some (.int .i64 hn) ∧ W.cell? ⟨w.heap.size, 3, none⟩ = some (.string (strB hr)))) W := HK.out _ HBC.out
    refine wpAnyH_ready (rs := [3, 6, 9]) (by kernel_rfl) (by simp) ?_
    refine AllReadyH.cons (o := ?o72) ?g72 (fun K hK => ?j72) (AllReadyH.cons (o := ?o73) ?g73 (fun K hK => ?j73) (AllReadyH.cons (o := ?o74) ?g74 (fun K hK => ?j74) AllReadyH.nil))
    case g72 => (simp only [gA, gB, gC]; rfl)
    case g73 => (simp only [gA, gB, gC]; rfl)
    case g74 => (simp only [gA, gB, gC]; rfl)
    case j72 =>
      go_simp
      (go_at_call 89; refine (HP.out hh _ _ G1.out).mono ?_)
      rintro e wa ⟨va, rfl, hoa, hbm⟩
      obtain ⟨A1, c1, rfl, -⟩ := (own_bs hoa).open
      have F1 := Lib.hid (own_bs hoa)
      refine hK.out _ _ (by (try dsimp only); exact HK.out _ (bel2M HBC.out hbm)) (fun _ => ?_)
      (try simp only [Act.put, sA, sB, sC])
      refine wpAnyH_norm (fuel' := 6) (listed' := #[true, true, true, true, true, true, false, true, true, false, false, true, true, true, false, false, false]) (by kernel_rfl) (by kernel_rfl) ?_
      have hst := st_2_3_13 g1 A1 c1 C2A C2c _ (Lib.hid (bel2M HBC.out hbm)) (Lib.hid (heapB G1.out hbm)) F1 (Lib.hid (C2.out.below hbm (Nat.le_refl _)))
      rw [hG] at hst
      exact hst
    case j73 =>
      refine step_conv rfl _ 29 58 rfl _ Try.underlying29 Try.underlying58 Try.underlying5 hp rfl (HC1.out) ?_
      intro C1A C1c w' hcs hbm
      have C1 := Lib.hid hcs
      refine hK.out _ _ (by (try dsimp only); exact HK.out _ (bel2M HBC.out hbm)) (fun _ => ?_)
      (try simp only [Act.put, sA, sB, sC])
      refine wpAnyH_norm (fuel' := 6) (listed' := #[true, true, true, false, true, true, true, true, true, false, false, true, true, true, false, false, false]) (by kernel_rfl) (by kernel_rfl) ?_
      have hst := st_2_6_13 g1 C1A C1c C2A C2c _ (Lib.hid (bel2M HBC.out hbm)) (Lib.hid (heapB G1.out hbm)) C1 (Lib.hid (C2.out.below hbm (Nat.le_refl _)))
      rw [hG] at hst
      exact hst
    case j74 =>
      refine step_built rfl 130 1 _ rfl #[.int .i64 hn] 3 (fun W => by go_simp) ?_
      intro g2 w' hg hbm hge
      have G2 := Lib.hid hg
      refine hK.out _ _ (by (try dsimp only); exact HK.out _ (bel2M HBC.out hbm)) (fun _ => ?_)
      (try simp only [Act.put, sA, sB, sC])
      refine wpAnyH_norm (fuel' := 6) (listed' := #[true, true, true, false, true, true, false, true, true, true, false, true, true, true, false, false, false]) (by kernel_rfl) (by kernel_rfl) ?_
      have hst := st_2_9_13 g1 g2 C2A C2c _ (Lib.hid (bel2M HBC.out hbm)) (Lib.hid (heapB G1.out hbm)) G2 (Lib.hid (C2.out.below hbm (Nat.le_refl _)))
      rw [hG] at hst
      exact hst
  have st_6_9 : ∀ (C1A : Option Addr) (C1c : Nat) (g2 : Nat) (W : World) (HBC : Hid (Below w0.heap.size w0 W)) (C1 : Hid (Bs W (.slice C1A hp.length C1c) hp)) (G2 : Hid (W.heap[g2]? = some (.cells #[.int .i64 hn] 3 (0, 0)))), G 7 #[true, true, false, false, true, true, true, true, true, true, false, true, true, false, false, false, false] ⟨#[agH hh hp hn hr, .pointer (some ⟨w.heap.size, 0, none⟩), .string ⟨#[]⟩, .pointer (some ⟨w.heap.size, 0, none⟩), .int .i64 hh, undef, undef, .pointer (some ⟨w.heap.size, 1, none⟩), .string (strB hp), .slice C1A hp.length C1c, .pointer (some ⟨w.heap.size, 2, none⟩), .int .i64 hn, .slice (some ⟨g2, 0, none⟩) 1 1, undef, .pointer (some ⟨w.heap.size, 3, none⟩), .string (strB hr), undef, undef, undef], []⟩ W := by
    intro C1A C1c g2 W HBC C1 G2
    rw [hG]
    have hHeld : ((fun W => W.cell? ⟨w.heap.size, 0, none⟩ = some (.int .i64 hh) ∧ W.cell? ⟨w.heap.size, 1, none⟩ = some (.string (strB hp)) ∧ W.cell? ⟨w.heap.size, 2, none⟩ = some (.int .i64 hn) ∧ W.cell? ⟨w.heap.size, 3, none⟩ = some (.string (strB hr)))) W := HK.out _ HBC.out
    refine wpAnyH_ready (rs := [2, 13]) (by kernel_rfl) (by simp) ?_
    refine AllReadyH.cons (o := ?o75) ?g75 (fun K hK => ?j75) (AllReadyH.cons (o := ?o76) ?g76 (fun K hK => ?j76) AllReadyH.nil)
    case g75 => (simp only [gA, gB, gC]; rfl)
    case g76 => (simp only [gA, gB, gC]; rfl)
    case j75 =>
      refine step_built rfl 130 1 _ rfl #[.int .i64 hh] 3 (fun W => by go_simp) ?_
      intro g1 w' hg hbm hge
      have G1 := Lib.hid hg
      refine hK.out _ _ (by (try dsimp only); exact HK.out _ (bel2M HBC.out hbm)) (fun _ => ?_)
      (try simp only [Act.put, sA, sB, sC])
      refine wpAnyH_norm (fuel' := 6) (listed' := #[true, true, true, false, true, true, true, true, true, true, false, true, true, false, false, false, false]) (by kernel_rfl) (by kernel_rfl) ?_
      have hst := st_2_6_9 g1 C1A C1c g2 _ (Lib.hid (bel2M HBC.out hbm)) G1 (Lib.hid (C1.out.below hbm (Nat.le_refl _))) (Lib.hid (heapB G2.out hbm))
      rw [hG] at hst
      exact hst
    case j76 =>
      refine step_conv rfl _ 29 58 rfl _ Try.underlying29 Try.underlying58 Try.underlying5 hr rfl (HC2.out) ?_
      intro C2A C2c w' hcs hbm
      have C2 := Lib.hid hcs
      refine hK.out _ _ (by (try dsimp only); exact HK.out _ (bel2M HBC.out hbm)) (fun _ => ?_)
      (try simp only [Act.put, sA, sB, sC])
      refine wpAnyH_norm (fuel' := 6) (listed' := #[true, true, false, false, true, true, true, true, true, true, false, true, true, true, false, false, false]) (by kernel_rfl) (by kernel_rfl) ?_
      have hst := st_6_9_13 C1A C1c g2 C2A C2c _ (Lib.hid (bel2M HBC.out hbm)) (Lib.hid (C1.out.below hbm (Nat.le_refl _))) (Lib.hid (heapB G2.out hbm)) C2
      rw [hG] at hst
      exact hst
  have st_2_9 : ∀ (g1 : Nat) (g2 : Nat) (W : World) (HBC : Hid (Below w0.heap.size w0 W)) (G1 : Hid (W.heap[g1]? = some (.cells #[.int .i64 hh] 3 (0, 0)))) (G2 : Hid (W.heap[g2]? = some (.cells #[.int .i64 hn] 3 (0, 0)))), G 7 #[true, true, true, false, true, true, false, true, true, true, false, true, true, false, false, false, false] ⟨#[agH hh hp hn hr, .pointer (some ⟨w.heap.size, 0, none⟩), .string ⟨#[]⟩, .pointer (some ⟨w.heap.size, 0, none⟩), .int .i64 hh, .slice (some ⟨g1, 0, none⟩) 1 1, undef, .pointer (some ⟨w.heap.size, 1, none⟩), .string (strB hp), undef, .pointer (some ⟨w.heap.size, 2, none⟩), .int .i64 hn, .slice (some ⟨g2, 0, none⟩) 1 1, undef, .pointer (some ⟨w.heap.size, 3, none⟩), .string (strB hr), undef, undef, undef], []⟩ W := by
    intro g1 g2 W HBC G1 G2
    rw [hG]
    have hHeld : ((fun W => W.cell? ⟨w.heap.size, 0, none⟩ = some (.int .i64 hh) ∧ W.cell? ⟨w.heap.size, 1, none⟩ = some (.string (strB hp)) ∧ W.cell? ⟨w.heap.size, 2, none⟩ = some (.int .i64 hn) ∧ W.cell? ⟨w.heap.size, 3, none⟩ = some (.string (strB hr)))) W := HK.out _ HBC.out
    refine wpAnyH_ready (rs := [3, 6, 13]) (by kernel_rfl) (by simp) ?_
    refine AllReadyH.cons (o := ?o77) ?g77 (fun K hK => ?j77) (AllReadyH.cons (o := ?o78) ?g78 (fun K hK => ?j78) (AllReadyH.cons (o := ?o79) ?g79 (fun K hK => ?j79) AllReadyH.nil))
    case g77 => (simp only [gA, gB, gC]; rfl)
    case g78 => (simp only [gA, gB, gC]; rfl)
    case g79 => (simp only [gA, gB, gC]; rfl)
    case j77 =>
      go_simp
      (go_at_call 89; refine (HP.out hh _ _ G1.out).mono ?_)
      rintro e wa ⟨va, rfl, hoa, hbm⟩
      obtain ⟨A1, c1, rfl, -⟩ := (own_bs hoa).open
      have F1 := Lib.hid (own_bs hoa)
      refine hK.out _ _ (by (try dsimp only); exact HK.out _ (bel2M HBC.out hbm)) (fun _ => ?_)
      (try simp only [Act.put, sA, sB, sC])
      refine wpAnyH_norm (fuel' := 6) (listed' := #[true, true, true, true, true, true, false, true, true, true, false, true, true, false, false, false, false]) (by kernel_rfl) (by kernel_rfl) ?_
      have hst := st_2_3_9 g1 A1 c1 g2 _ (Lib.hid (bel2M HBC.out hbm)) (Lib.hid (heapB G1.out hbm)) F1 (Lib.hid (heapB G2.out hbm))
      rw [hG] at hst
      exact hst
    case j78 =>
      refine step_conv rfl _ 29 58 rfl _ Try.underlying29 Try.underlying58 Try.underlying5 hp rfl (HC1.out) ?_
      intro C1A C1c w' hcs hbm
      have C1 := Lib.hid hcs
      refine hK.out _ _ (by (try dsimp only); exact HK.out _ (bel2M HBC.out hbm)) (fun _ => ?_)
      (try simp only [Act.put, sA, sB, sC])
      refine wpAnyH_norm (fuel' := 6) (listed' := #[true, true, true, false, true, true, true, true, true, true, false, true, true, false, false, false, false]) (by kernel_rfl) (by kernel_rfl) ?_
      have hst := st_2_6_9 g1 C1A C1c g2 _ (Lib.hid (bel2M HBC.out hbm)) (Lib.hid (heapB G1.out hbm)) C1 (Lib.hid (heapB G2.out hbm))
      rw [hG] at hst
      exact hst
    case j79 =>
      refine step_conv rfl _ 29 58 rfl _ Try.underlying29 Try.underlying58 Try.underlying5 hr rfl (HC2.out) ?_
      intro C2A C2c w' hcs hbm
      have C2 := Lib.hid hcs
      refine hK.out _ _ (by (try dsimp only); exact HK.out _ (bel2M HBC.out hbm)) (fun _ => ?_)
      (try simp only [Act.put, sA, sB, sC])
      refine wpAnyH_norm (fuel' := 6) (listed' := #[true, true, true, false, true, true, false, true, true, true, false, true, true, true, false, false, false]) (by kernel_rfl) (by kernel_rfl) ?_
      have hst := st_2_9_13 g1 g2 C2A C2c _ (Lib.hid (bel2M HBC.out hbm)) (Lib.hid (heapB G1.out hbm)) (Lib.hid (heapB G2.out hbm)) C2
      rw [hG] at hst
      exact hst
  have st_2_6 : ∀ (g1 : Nat) (C1A : Option Addr) (C1c : Nat) (W : World) (HBC : Hid (Below w0.heap.size w0 W)) (G1 : Hid (W.heap[g1]? = some (.cells #[.int .i64 hh] 3 (0, 0)))) (C1 : Hid (Bs W (.slice C1A hp.length C1c) hp)), G 7 #[true, true, true, false, true, true, true, true, true, false, false, true, true, false, false, false, false] ⟨#[agH hh hp hn hr, .pointer (some ⟨w.heap.size, 0, none⟩), .string ⟨#[]⟩, .pointer (some ⟨w.heap.size, 0, none⟩), .int .i64 hh, .slice (some ⟨g1, 0, none⟩) 1 1, undef, .pointer (some ⟨w.heap.size, 1, none⟩), .string (strB hp), .slice C1A hp.length C1c, .pointer (some ⟨w.heap.size, 2, none⟩), .int .i64 hn, undef, undef, .pointer (some ⟨w.heap.size, 3, none⟩), .string (strB hr), undef, undef, undef], []⟩ W := by
    intro g1 C1A C1c W HBC G1 C1
    rw [hG]
    have hHeld : ((fun W => W.cell? ⟨w.heap.size, 0, none⟩ = some (.int .i64 hh) ∧ W.cell? ⟨w.heap.size, 1, none⟩ = some (.string (strB hp)) ∧ W.cell? ⟨w.heap.size, 2, none⟩ = some (.int .i64 hn) ∧ W.cell? ⟨w.heap.size, 3, none⟩ = some (.string (strB hr)))) W := HK.out _ HBC.out
    refine wpAnyH_ready (rs := [3, 9, 13]) (by kernel_rfl) (by simp) ?_
    refine AllReadyH.cons (o := ?o80) ?g80 (fun K hK => ?j80) (AllReadyH.cons (o := ?o81) ?g81 (fun K hK => ?j81) (AllReadyH.cons (o := ?o82) ?g82 (fun K hK => ?j82) AllReadyH.nil))
    case g80 => (simp only [gA, gB, gC]; rfl)
    case g81 => (simp only [gA, gB, gC]; rfl)
    case g82 => (simp only [gA, gB, gC]; rfl)
    case j80 =>
      go_simp
      (go_at_call 89; refine (HP.out hh _ _ G1.out).mono ?_)
      rintro e wa ⟨va, rfl, hoa, hbm⟩
      obtain ⟨A1, c1, rfl, -⟩ := (own_bs hoa).open
      have F1 := Lib.hid (own_bs hoa)
      refine hK.out _ _ (by (try dsimp only); exact HK.out _ (bel2M HBC.out hbm)) (fun _ => ?_)
      (try simp only [Act.put, sA, sB, sC])
      refine wpAnyH_norm (fuel' := 6) (listed' := #[true, true, true, true, true, true, true, true, true, false, false, true, true, false, false, false, false]) (by kernel_rfl) (by kernel_rfl) ?_
      have hst := st_2_3_6 g1 A1 c1 C1A C1c _ (Lib.hid (bel2M HBC.out hbm)) (Lib.hid (heapB G1.out hbm)) F1 (Lib.hid (C1.out.below hbm (Nat.le_refl _)))
      rw [hG] at hst
      exact hst
    case j81 =>
      refine step_built rfl 130 1 _ rfl #[.int .i64 hn] 3 (fun W => by go_simp) ?_
      intro g2 w' hg hbm hge
      have G2 := Lib.hid hg
      refine hK.out _ _ (by (try dsimp only); exact HK.out _ (bel2M HBC.out hbm)) (fun _ => ?_)
      (try simp only [Act.put, sA, sB, sC])
      refine wpAnyH_norm (fuel' := 6) (listed' := #[true, true, true, false, true, true, true, true, true, true, false, true, true, false, false, false, false]) (by kernel_rfl) (by kernel_rfl) ?_
      have hst := st_2_6_9 g1 C1A C1c g2 _ (Lib.hid (bel2M HBC.out hbm)) (Lib.hid (heapB G1.out hbm)) (Lib.hid (C1.out.below hbm (Nat.le_refl _))) G2
      rw [hG] at hst
      exact hst
    case j82 =>
      refine step_conv rfl _ 29 58 rfl _ Try.underlying29 Try.underlying58 Try.underlying5 hr rfl (HC2.out) ?_
      intro C2A C2c w' hcs hbm
      have C2 := Lib.hid hcs
      refine hK.out _ _ (by (try dsimp only); exact HK.out _ (bel2M HBC.out hbm)) (fun _ => ?_)
      (try simp only [Act.put, sA, sB, sC])
      refine wpAnyH_norm (fuel' := 6) (listed' := #[true, true, true, false, true, true, true, true, true, false, false, true, true, true, false, false, false]) (by kernel_rfl) (by kernel_rfl) ?_
      have hst := st_2_6_13 g1 C1A C1c C2A C2c _ (Lib.hid (bel2M HBC.out hbm)) (Lib.hid (heapB G1.out hbm)) (Lib.hid (C1.out.below hbm (Nat.le_refl _))) C2
      rw [hG] at hst
      exact hst
  have st_2_3 : ∀ (g1 : Nat) (A1 : Option Addr) (c1 : Nat) (W : World) (HBC : Hid (Below w0.heap.size w0 W)) (G1 : Hid (W.heap[g1]? = some (.cells #[.int .i64 hh] 3 (0, 0)))) (F1 : Hid (Bs W (.slice A1 (i8B hh).length c1) (i8B hh))), G 7 #[true, true, true, true, true, true, false, true, true, false, false, true, true, false, false, false, false] ⟨#[agH hh hp hn hr, .pointer (some ⟨w.heap.size, 0, none⟩), .string ⟨#[]⟩, .pointer (some ⟨w.heap.size, 0, none⟩), .int .i64 hh, .slice (some ⟨g1, 0, none⟩) 1 1, .slice A1 (i8B hh).length c1, .pointer (some ⟨w.heap.size, 1, none⟩), .string (strB hp), undef, .pointer (some ⟨w.heap.size, 2, none⟩), .int .i64 hn, undef, undef, .pointer (some ⟨w.heap.size, 3, none⟩), .string (strB hr), undef, undef, undef], []⟩ W := by
    intro g1 A1 c1 W HBC G1 F1
    rw [hG]
    have hHeld : ((fun W => W.cell? ⟨w.heap.size, 0, none⟩ = some (.int .i64 hh) ∧ W.cell? ⟨w.heap.size, 1, none⟩ = some (.string (strB hp)) ∧ W.cell? ⟨w.heap.size, 2, none⟩ = some (.int .i64 hn) ∧ W.cell? ⟨w.heap.size, 3, none⟩ = some (.string (strB hr)))) W := HK.out _ HBC.out
    refine wpAnyH_ready (rs := [6, 9, 13]) (by kernel_rfl) (by simp) ?_
    refine AllReadyH.cons (o := ?o83) ?g83 (fun K hK => ?j83) (AllReadyH.cons (o := ?o84) ?g84 (fun K hK => ?j84) (AllReadyH.cons (o := ?o85) ?g85 (fun K hK => ?j85) AllReadyH.nil))
    case g83 => (simp only [gA, gB, gC]; rfl)
    case g84 => (simp only [gA, gB, gC]; rfl)
    case g85 => (simp only [gA, gB, gC]; rfl)
    case j83 =>
      refine step_conv rfl _ 29 58 rfl _ Try.underlying29 Try.underlying58 Try.underlying5 hp rfl (HC1.out) ?_
      intro C1A C1c w' hcs hbm
      have C1 := Lib.hid hcs
      refine hK.out _ _ (by (try dsimp only); exact HK.out _ (bel2M HBC.out hbm)) (fun _ => ?_)
      (try simp only [Act.put, sA, sB, sC])
      refine wpAnyH_norm (fuel' := 6) (listed' := #[true, true, true, true, true, true, true, true, true, false, false, true, true, false, false, false, false]) (by kernel_rfl) (by kernel_rfl) ?_
      have hst := st_2_3_6 g1 A1 c1 C1A C1c _ (Lib.hid (bel2M HBC.out hbm)) (Lib.hid (heapB G1.out hbm)) (Lib.hid (F1.out.below hbm (Nat.le_refl _))) C1
      rw [hG] at hst
      exact hst
    case j84 =>
      refine step_built rfl 130 1 _ rfl #[.int .i64 hn] 3 (fun W => by go_simp) ?_
      intro g2 w' hg hbm hge
      have G2 := Lib.hid hg
      refine hK.out _ _ (by (try dsimp only); exact HK.out _ (bel2M HBC.out hbm)) (fun _ => ?_)
      (try simp only [Act.put, sA, sB, sC])
      refine wpAnyH_norm (fuel' := 6) (listed' := #[true, true, true, true, true, true, false, true, true, true, false, true, true, false, false, false, false]) (by kernel_rfl) (by kernel_rfl) ?_
      have hst := st_2_3_9 g1 A1 c1 g2 _ (Lib.hid (bel2M HBC.out hbm)) (Lib.hid (heapB G1.out hbm)) (Lib.hid (F1.out.below hbm (Nat.le_refl _))) G2
      rw [hG] at hst
      exact hst
    case j85 =>
      refine step_conv rfl _ 29 58 rfl _ Try.underlying29 Try.underlying58 Try.underlying5 hr rfl (HC2.out) ?_
      intro C2A C2c w' hcs hbm
      have C2 := Lib.hid hcs
      refine hK.out _ _ (by (try dsimp only); exact HK.out _ (bel2M HBC.out hbm)) (fun _ => ?_)
      (try simp only [Act.put, sA, sB, sC])
      refine wpAnyH_norm (fuel' := 6) (listed' := #[true, true, true, true, true, true, false, true, true, false, false, true, true, true, false, false, false]) (by kernel_rfl) (by kernel_rfl) ?_
      have hst := st_2_3_13 g1 A1 c1 C2A C2c _ (Lib.hid (bel2M HBC.out hbm)) (Lib.hid (heapB G1.out hbm)) (Lib.hid (F1.out.below hbm (Nat.le_refl _))) C2
      rw [hG] at hst
      exact hst
  have st_13 : ∀ (C2A : Option Addr) (C2c : Nat) (W : World) (HBC : Hid (Below w0.heap.size w0 W)) (C2 : Hid (Bs W (.slice C2A hr.length C2c) hr)), G 8 #[true, true, false, false, true, true, false, true, true, false, false, true, true, true, false, false, false] ⟨#[agH hh hp hn hr, .pointer (some ⟨w.heap.size, 0, none⟩), .string ⟨#[]⟩, .pointer (some ⟨w.heap.size, 0, none⟩), .int .i64 hh, undef, undef, .pointer (some ⟨w.heap.size, 1, none⟩), .string (strB hp), undef, .pointer (some ⟨w.heap.size, 2, none⟩), .int .i64 hn, undef, undef, .pointer (some ⟨w.heap.size, 3, none⟩), .string (strB hr), .slice C2A hr.length C2c, undef, undef], []⟩ W := by
    intro C2A C2c W HBC C2
    rw [hG]
    have hHeld : ((fun W => W.cell? ⟨w.heap.size, 0, none⟩ = some (.int .i64 hh) ∧ W.cell? ⟨w.heap.size, 1, none⟩ = some (.string (strB hp)) ∧ W.cell? ⟨w.heap.size, 2, none⟩ = some (.int .i64 hn) ∧ W.cell? ⟨w.heap.size, 3, none⟩ = some (.string (strB hr)))) W := HK.out _ HBC.out
    refine wpAnyH_ready (rs := [2, 6, 9]) (by kernel_rfl) (by simp) ?_
    refine AllReadyH.cons (o := ?o86) ?g86 (fun K hK => ?j86) (AllReadyH.cons (o := ?o87) ?g87 (fun K hK => ?j87) (AllReadyH.cons (o := ?o88) ?g88 (fun K hK => ?j88) AllReadyH.nil))
    case g86 => (simp only [gA, gB, gC]; rfl)
    case g87 => (simp only [gA, gB, gC]; rfl)
    case g88 => (simp only [gA, gB, gC]; rfl)
    case j86 =>
      refine step_built rfl 130 1 _ rfl #[.int .i64 hh] 3 (fun W => by go_simp) ?_
      intro g1 w' hg hbm hge
      have G1 := Lib.hid hg
      refine hK.out _ _ (by (try dsimp only); exact HK.out _ (bel2M HBC.out hbm)) (fun _ => ?_)
      (try simp only [Act.put, sA, sB, sC])
      refine wpAnyH_norm (fuel' := 7) (listed' := #[true, true, true, false, true, true, false, true, true, false, false, true, true, true, false, false, false]) (by kernel_rfl) (by kernel_rfl) ?_
      have hst := st_2_13 g1 C2A C2c _ (Lib.hid (bel2M HBC.out hbm)) G1 (Lib.hid (C2.out.below hbm (Nat.le_refl _)))
      rw [hG] at hst
      exact hst
    case j87 =>
      refine step_conv rfl _ 29 58 rfl _ Try.underlying29 Try.underlying58 Try.underlying5 hp rfl (HC1.out) ?_
      intro C1A C1c w' hcs hbm
      have C1 := Lib.hid hcs
      refine hK.out _ _ (by (try dsimp only); exact HK.out _ (bel2M HBC.out hbm)) (fun _ => ?_)
      (try simp only [Act.put, sA, sB, sC])
      refine wpAnyH_norm (fuel' := 7) (listed' := #[true, true, false, false, true, true, true, true, true, false, false, true, true, true, false, false, false]) (by kernel_rfl) (by kernel_rfl) ?_
      have hst := st_6_13 C1A C1c C2A C2c _ (Lib.hid (bel2M HBC.out hbm)) C1 (Lib.hid (C2.out.below hbm (Nat.le_refl _)))
      rw [hG] at hst
      exact hst
    case j88 =>
      refine step_built rfl 130 1 _ rfl #[.int .i64 hn] 3 (fun W => by go_simp) ?_
      intro g2 w' hg hbm hge
      have G2 := Lib.hid hg
      refine hK.out _ _ (by (try dsimp only); exact HK.out _ (bel2M HBC.out hbm)) (fun _ => ?_)
      (try simp only [Act.put, sA, sB, sC])
      refine wpAnyH_norm (fuel' := 7) (listed' := #[true, true, false, false, true, true, false, true, true, true, false, true, true, true, false, false, false]) (by kernel_rfl) (by kernel_rfl) ?_
      have hst := st_9_13 g2 C2A C2c _ (Lib.hid (bel2M HBC.out hbm)) G2 (Lib.hid (C2.out.below hbm (Nat.le_refl _)))
      rw [hG] at hst
      exact hst
  have st_9 : ∀ (g2 : Nat) (W : World) (HBC : Hid (Below w0.heap.size w0 W)) (G2 : Hid (W.heap[g2]? = some (.cells #[.int .i64 hn] 3 (0, 0)))), G 8 #[true, true, false, false, true, true, false, true, true, true, false, true, true, false, false, false, false] ⟨#[agH hh hp hn hr, .pointer (some ⟨w.heap.size, 0, none⟩), .string ⟨#[]⟩, .pointer (some ⟨w.heap.size, 0, none⟩), .int .i64 hh, undef, undef, .pointer (some ⟨w.heap.size, 1, none⟩), .string (strB hp), undef, .pointer (some ⟨w.heap.size, 2, none⟩), .int .i64 hn, .slice (some ⟨g2, 0, none⟩) 1 1, undef, .pointer (some ⟨w.heap.size, 3, none⟩), .string (strB hr), undef, undef, undef], []⟩ W := by
    intro g2 W HBC G2
    rw [hG]
    have hHeld : ((fun W => W.cell? ⟨w.heap.size, 0, none⟩ = some (.int .i64 hh) ∧ W.cell? ⟨w.heap.size, 1, none⟩ = some (.string (strB hp)) ∧ W.cell? ⟨w.heap.size, 2, none⟩ = some (.int .i64 hn) ∧ W.cell? ⟨w.heap.size, 3, none⟩ = some (.string (strB hr)))) W := HK.out _ HBC.out
    refine wpAnyH_ready (rs := [2, 6, 13]) (by kernel_rfl) (by simp) ?_
    refine AllReadyH.cons (o := ?o89) ?g89 (fun K hK => ?j89) (AllReadyH.cons (o := ?o90) ?g90 (fun K hK => ?j90) (AllReadyH.cons (o := ?o91) ?g91 (fun K hK => ?j91) AllReadyH.nil))
    case g89 => (simp only [gA, gB, gC]; rfl)
    case g90 => (simp only [gA, gB, gC]; rfl)
    case g91 => (simp only [gA, gB, gC]; rfl)
    case j89 =>
      refine step_built rfl 130 1 _ rfl #[.int .i64 hh] 3 (fun W => by go_simp) ?_
      intro g1 w' hg hbm hge
      have G1 := Lib.hid hg
      refine hK.out _ _ (by (try dsimp only); exact HK.out _ (bel2M HBC.out hbm)) (fun _ => ?_)
      (try simp only [Act.put, sA, sB, sC])
      refine wpAnyH_norm (fuel' := 7) (listed' := #[true, true, true, false, true, true, false, true, true, true, false, true, true, false, false, false, false]) (by kernel_rfl) (by kernel_rfl) ?_
      have hst := st_2_9 g1 g2 _ (Lib.hid (bel2M HBC.out hbm)) G1 (Lib.hid (heapB G2.out hbm))
      rw [hG] at hst
      exact hst
    case j90 =>
      refine step_conv rfl _ 29 58 rfl _ Try.underlying29 Try.underlying58 Try.underlying5 hp rfl (HC1.out) ?_
      intro C1A C1c w' hcs hbm
      have C1 := Lib.hid hcs
      refine hK.out _ _ (by (try dsimp only); exact HK.out _ (bel2M HBC.out hbm)) (fun _ => ?_)
      (try simp only [Act.put, sA, sB, sC])
      refine wpAnyH_norm (fuel' := 7) (listed' := #[true, true, false, false, true, true, true, true, true, true, false, true, true, false, false, false, false]) (by kernel_rfl) (by kernel_rfl) ?_
      have hst := st_6_9 C1A C1c g2 _ (Lib.hid (bel2M HBC.out hbm)) C1 (Lib.hid (heapB G2.out hbm))
      rw [hG] at hst
      exact hst
    case j91 =>
      refine step_conv rfl _ 29 58 rfl _ Try.underlying29 Try.underlying58 Try.underlying5 hr rfl (HC2.out) ?_
      intro C2A C2c w' hcs hbm
      have C2 := Lib.hid hcs
      refine hK.out _ _ (by (try dsimp only); exact HK.out _ (bel2M HBC.out hbm)) (fun _ => ?_)
      (try simp only [Act.put, sA, sB, sC])
      refine wpAnyH_norm (fuel' := 7) (listed' := #[true, true, false, false, true, true, false, true, true, true, false, true, true, true, false, false, false]) (by kernel_rfl) (by kernel_rfl) ?_
      have hst := st_9_13 g2 C2A C2c _ (Lib.hid (bel2M HBC.out hbm)) (Lib.hid (heapB G2.out hbm)) C2
      rw [hG] at hst
      exact hst
  have st_6 : ∀ (C1A : Option Addr) (C1c : Nat) (W : World) (HBC : Hid (Below w0.heap.size w0 W)) (C1 : Hid (Bs W (.slice C1A hp.length C1c) hp)), G 8 #[true, true, false, false, true, true, true, true, true, false, false, true, true, false, false, false, false] ⟨#[agH hh hp hn hr, .pointer (some ⟨w.heap.size, 0, none⟩), .string ⟨#[]⟩, .pointer (some ⟨w.heap.size, 0, none⟩), .int .i64 hh, undef, undef, .pointer (some ⟨w.heap.size, 1, none⟩), .string (strB hp), .slice C1A hp.length C1c, .pointer (some ⟨w.heap.size, 2, none⟩), .int .i64 hn, undef, undef, .pointer (some ⟨w.heap.size, 3, none⟩), .string (strB hr), undef, undef, undef], []⟩ W := by
    intro C1A C1c W HBC C1
    rw [hG]
    have hHeld : ((fun W => W.cell? ⟨w.heap.size, 0, none⟩ = some (.int .i64 hh) ∧ W.cell? ⟨w.heap.size, 1, none⟩ = some (.string (strB hp)) ∧ W.cell? ⟨w.heap.size, 2, none⟩ = some (.int .i64 hn) ∧ W.cell? ⟨w.heap.size, 3, none⟩ = some (.string (strB hr)))) W := HK.out _ HBC.out
    refine wpAnyH_ready (rs := [2, 9, 13]) (by kernel_rfl) (by simp) ?_
    refine AllReadyH.cons (o := ?o92) ?g92 (fun K hK => ?j92) (AllReadyH.cons (o := ?o93) ?g93 (fun K hK => ?j93) (AllReadyH.cons (o := ?o94) ?g94 (fun K hK => ?j94) AllReadyH.nil))
    case g92 => (simp only [gA, gB, gC]; rfl)
    case g93 => (simp only [gA, gB, gC]; rfl)
    case g94 => (simp only [gA, gB, gC]; rfl)
    case j92 =>
      refine step_built rfl 130 1 _ rfl #[.int .i64 hh] 3 (fun W => by go_simp) ?_
      intro g1 w' hg hbm hge
      have G1 := Lib.hid hg
      refine hK.out _ _ (by (try dsimp only); exact HK.out _ (bel2M HBC.out hbm)) (fun _ => ?_)
      (try simp only [Act.put, sA, sB, sC])
      refine wpAnyH_norm (fuel' := 7) (listed' := #[true, true, true, false, true, true, true, true, true, false, false, true, true, false, false, false, false]) (by kernel_rfl) (by kernel_rfl) ?_
      have hst := st_2_6 g1 C1A C1c _ (Lib.hid (bel2M HBC.out hbm)) G1 (Lib.hid (C1.out.below hbm (Nat.le_refl _)))
      rw [hG] at hst
      exact hst
    case j93 =>
      refine step_built rfl 130 1 _ rfl #[.int .i64 hn] 3 (fun W => by go_simp) ?_
      intro g2 w' hg hbm hge
      have G2 := Lib.hid hg
      refine hK.out _ _ (by (try dsimp only); exact HK.out _ (bel2M HBC.out hbm)) (fun _ => ?_)
      (try simp only [Act.put, sA, sB, sC])
      refine wpAnyH_norm (fuel' := 7) (listed' := #[true, true, false, false, true, true, true, true, true, true, false, true, true, false, false, false, false]) (by kernel_rfl) (by kernel_rfl) ?_
      have hst := st_6_9 C1A C1c g2 _ (Lib.hid (bel2M HBC.out hbm)) (Lib.hid (C1.out.below hbm (Nat.le_refl _))) G2
      rw [hG] at hst
      exact hst
    case j94 =>
      refine step_conv rfl _ 29 58 rfl _ Try.underlying29 Try.underlying58 Try.underlying5 hr rfl (HC2.out) ?_
      intro C2A C2c w' hcs hbm
      have C2 := Lib.hid hcs
      refine hK.out _ _ (by (try dsimp only); exact HK.out _ (bel2M HBC.out hbm)) (fun _ => ?_)
      (try simp only [Act.put, sA, sB, sC])
      refine wpAnyH_norm (fuel' := 7) (listed' := #[true, true, false, false, true, true, true, true, true, false, false, true, true, true, false, false, false]) (by kernel_rfl) (by kernel_rfl) ?_
      have hst := st_6_13 C1A C1c C2A C2c _ (Lib.hid (bel2M HBC.out hbm)) (Lib.hid (C1.out.below hbm (Nat.le_refl _))) C2
      rw [hG] at hst
      exact hst
  have st_2 : ∀ (g1 : Nat) (W : World) (HBC : Hid (Below w0.heap.size w0 W)) (G1 : Hid (W.heap[g1]? = some (.cells #[.int .i64 hh] 3 (0, 0)))), G 8 #[true, true, true, false, true, true, false, true, true, false, false, true, true, false, false, false, false] ⟨#[agH hh hp hn hr, .pointer (some ⟨w.heap.size, 0, none⟩), .string ⟨#[]⟩, .pointer (some ⟨w.heap.size, 0, none⟩), .int .i64 hh, .slice (some ⟨g1, 0, none⟩) 1 1, undef, .pointer (some ⟨w.heap.size, 1, none⟩), .string (strB hp), undef, .pointer (some ⟨w.heap.size, 2, none⟩), .int .i64 hn, undef, undef, .pointer (some ⟨w.heap.size, 3, none⟩), .string (strB hr), undef, undef, undef], []⟩ W := by
    intro g1 W HBC G1
    rw [hG]
    have hHeld : ((fun W => W.cell? ⟨w.heap.size, 0, none⟩ = some (.int .i64 hh) ∧ W.cell? ⟨w.heap.size, 1, none⟩ = some (.string (strB hp)) ∧ W.cell? ⟨w.heap.size, 2, none⟩ = some (.int .i64 hn) ∧ W.cell? ⟨w.heap.size, 3, none⟩ = some (.string (strB hr)))) W := HK.out _ HBC.out
    refine wpAnyH_ready (rs := [3, 6, 9, 13]) (by kernel_rfl) (by simp) ?_
    refine AllReadyH.cons (o := ?o95) ?g95 (fun K hK => ?j95) (AllReadyH.cons (o := ?o96) ?g96 (fun K hK => ?j96) (AllReadyH.cons (o := ?o97) ?g97 (fun K hK => ?j97) (AllReadyH.cons (o := ?o98) ?g98 (fun K hK => ?j98) AllReadyH.nil)))
    case g95 => (simp only [gA, gB, gC]; rfl)
    case g96 => (simp only [gA, gB, gC]; rfl)
    case g97 => (simp only [gA, gB, gC]; rfl)
    case g98 => (simp only [gA, gB, gC]; rfl)
    case j95 =>
      go_simp
      (go_at_call 89; refine (HP.out hh _ _ G1.out).mono ?_)
      rintro e wa ⟨va, rfl, hoa, hbm⟩
      obtain ⟨A1, c1, rfl, -⟩ := (own_bs hoa).open
      have F1 := Lib.hid (own_bs hoa)
      refine hK.out _ _ (by (try dsimp only); exact HK.out _ (bel2M HBC.out hbm)) (fun _ => ?_)
      (try simp only [Act.put, sA, sB, sC])
      refine wpAnyH_norm (fuel' := 7) (listed' := #[true, true, true, true, true, true, false, true, true, false, false, true, true, false, false, false, false]) (by kernel_rfl) (by kernel_rfl) ?_
      have hst := st_2_3 g1 A1 c1 _ (Lib.hid (bel2M HBC.out hbm)) (Lib.hid (heapB G1.out hbm)) F1
      rw [hG] at hst
      exact hst
    case j96 =>
      refine step_conv rfl _ 29 58 rfl _ Try.underlying29 Try.underlying58 Try.underlying5 hp rfl (HC1.out) ?_
      intro C1A C1c w' hcs hbm
      have C1 := Lib.hid hcs
      refine hK.out _ _ (by (try dsimp only); exact HK.out _ (bel2M HBC.out hbm)) (fun _ => ?_)
      (try simp only [Act.put, sA, sB, sC])
      refine wpAnyH_norm (fuel' := 7) (listed' := #[true, true, true, false, true, true, true, true, true, false, false, true, true, false, false, false, false]) (by kernel_rfl) (by kernel_rfl) ?_
      have hst := st_2_6 g1 C1A C1c _ (Lib.hid (bel2M HBC.out hbm)) (Lib.hid (heapB G1.out hbm)) C1
      rw [hG] at hst
      exact hst
    case j97 =>
      refine step_built rfl 130 1 _ rfl #[.int .i64 hn] 3 (fun W => by go_simp) ?_
      intro g2 w' hg hbm hge
      have G2 := Lib.hid hg
      refine hK.out _ _ (by (try dsimp only); exact HK.out _ (bel2M HBC.out hbm)) (fun _ => ?_)
      (try simp only [Act.put, sA, sB, sC])
      refine wpAnyH_norm (fuel' := 7) (listed' := #[true, true, true, false, true, true, false, true, true, true, false, true, true, false, false, false, false]) (by kernel_rfl) (by kernel_rfl) ?_
      have hst := st_2_9 g1 g2 _ (Lib.hid (bel2M HBC.out hbm)) (Lib.hid (heapB G1.out hbm)) G2
      rw [hG] at hst
      exact hst
    case j98 =>
      refine step_conv rfl _ 29 58 rfl _ Try.underlying29 Try.underlying58 Try.underlying5 hr rfl (HC2.out) ?_
      intro C2A C2c w' hcs hbm
      have C2 := Lib.hid hcs
      refine hK.out _ _ (by (try dsimp only); exact HK.out _ (bel2M HBC.out hbm)) (fun _ => ?_)
      (try simp only [Act.put, sA, sB, sC])
      refine wpAnyH_norm (fuel' := 7) (listed' := #[true, true, true, false, true, true, false, true, true, false, false, true, true, true, false, false, false]) (by kernel_rfl) (by kernel_rfl) ?_
      have hst := st_2_13 g1 C2A C2c _ (Lib.hid (bel2M HBC.out hbm)) (Lib.hid (heapB G1.out hbm)) C2
      rw [hG] at hst
      exact hst
  have st : ∀  (W : World) (HBC : Hid (Below w0.heap.size w0 W)) , G 9 #[true, true, false, false, true, true, false, true, true, false, false, true, true, false, false, false, false] ⟨#[agH hh hp hn hr, .pointer (some ⟨w.heap.size, 0, none⟩), .string ⟨#[]⟩, .pointer (some ⟨w.heap.size, 0, none⟩), .int .i64 hh, undef, undef, .pointer (some ⟨w.heap.size, 1, none⟩), .string (strB hp), undef, .pointer (some ⟨w.heap.size, 2, none⟩), .int .i64 hn, undef, undef, .pointer (some ⟨w.heap.size, 3, none⟩), .string (strB hr), undef, undef, undef], []⟩ W := by
    intro  W HBC 
    rw [hG]
    have hHeld : ((fun W => W.cell? ⟨w.heap.size, 0, none⟩ = some (.int .i64 hh) ∧ W.cell? ⟨w.heap.size, 1, none⟩ = some (.string (strB hp)) ∧ W.cell? ⟨w.heap.size, 2, none⟩ = some (.int .i64 hn) ∧ W.cell? ⟨w.heap.size, 3, none⟩ = some (.string (strB hr)))) W := HK.out _ HBC.out
    refine wpAnyH_ready (rs := [2, 6, 9, 13]) (by kernel_rfl) (by simp) ?_
    refine AllReadyH.cons (o := ?o99) ?g99 (fun K hK => ?j99) (AllReadyH.cons (o := ?o100) ?g100 (fun K hK => ?j100) (AllReadyH.cons (o := ?o101) ?g101 (fun K hK => ?j101) (AllReadyH.cons (o := ?o102) ?g102 (fun K hK => ?j102) AllReadyH.nil)))
    case g99 => (simp only [gA, gB, gC]; rfl)
    case g100 => (simp only [gA, gB, gC]; rfl)
    case g101 => (simp only [gA, gB, gC]; rfl)
    case g102 => (simp only [gA, gB, gC]; rfl)
    case j99 =>
      refine step_built rfl 130 1 _ rfl #[.int .i64 hh] 3 (fun W => by go_simp) ?_
      intro g1 w' hg hbm hge
      have G1 := Lib.hid hg
      refine hK.out _ _ (by (try dsimp only); exact HK.out _ (bel2M HBC.out hbm)) (fun _ => ?_)
      (try simp only [Act.put, sA, sB, sC])
      refine wpAnyH_norm (fuel' := 8) (listed' := #[true, true, true, false, true, true, false, true, true, false, false, true, true, false, false, false, false]) (by kernel_rfl) (by kernel_rfl) ?_
      have hst := st_2 g1 _ (Lib.hid (bel2M HBC.out hbm)) G1
      rw [hG] at hst
      exact hst
    case j100 =>
      refine step_conv rfl _ 29 58 rfl _ Try.underlying29 Try.underlying58 Try.underlying5 hp rfl (HC1.out) ?_
      intro C1A C1c w' hcs hbm
      have C1 := Lib.hid hcs
      refine hK.out _ _ (by (try dsimp only); exact HK.out _ (bel2M HBC.out hbm)) (fun _ => ?_)
      (try simp only [Act.put, sA, sB, sC])
      refine wpAnyH_norm (fuel' := 8) (listed' := #[true, true, false, false, true, true, true, true, true, false, false, true, true, false, false, false, false]) (by kernel_rfl) (by kernel_rfl) ?_
      have hst := st_6 C1A C1c _ (Lib.hid (bel2M HBC.out hbm)) C1
      rw [hG] at hst
      exact hst
    case j101 =>
      refine step_built rfl 130 1 _ rfl #[.int .i64 hn] 3 (fun W => by go_simp) ?_
      intro g2 w' hg hbm hge
      have G2 := Lib.hid hg
      refine hK.out _ _ (by (try dsimp only); exact HK.out _ (bel2M HBC.out hbm)) (fun _ => ?_)
      (try simp only [Act.put, sA, sB, sC])
      refine wpAnyH_norm (fuel' := 8) (listed' := #[true, true, false, false, true, true, false, true, true, true, false, true, true, false, false, false, false]) (by kernel_rfl) (by kernel_rfl) ?_
      have hst := st_9 g2 _ (Lib.hid (bel2M HBC.out hbm)) G2
      rw [hG] at hst
      exact hst
    case j102 =>
      refine step_conv rfl _ 29 58 rfl _ Try.underlying29 Try.underlying58 Try.underlying5 hr rfl (HC2.out) ?_
      intro C2A C2c w' hcs hbm
      have C2 := Lib.hid hcs
      refine hK.out _ _ (by (try dsimp only); exact HK.out _ (bel2M HBC.out hbm)) (fun _ => ?_)
      (try simp only [Act.put, sA, sB, sC])
      refine wpAnyH_norm (fuel' := 8) (listed' := #[true, true, false, false, true, true, false, true, true, false, false, true, true, true, false, false, false]) (by kernel_rfl) (by kernel_rfl) ?_
      have hst := st_13 C2A C2c _ (Lib.hid (bel2M HBC.out hbm)) C2
      rw [hG] at hst
      exact hst
  exact st _ (Lib.hid (HBC.out))

def TellL (v : Value) (w : World) (e : Ending) (w' : World) : Prop := e = .returned v ∧ Below w.heap.size w w'
theorem rows2 {W : World} {N : Nat} {x0 x1 : Value} {t : TypeId} (h : W.heap[N]? = some (.cells #[x0, x1] t (0, 0))) : W.cell? ⟨N, 0, none⟩ = some x0 ∧ W.cell? ⟨N, 1, none⟩ = some x1 ∧ (∀ j, W.frozen? ⟨N, j, none⟩ = false) ∧ N < W.heap.size :=
  ⟨rowCell h 0 _ rfl, rowCell h 1 _ rfl, fun j => by simp [World.frozen?, h], (Array.getElem?_eq_some_iff.1 h).1⟩
section
variable {S : Nat → Prop} {w : World} {g : Nat} {L : Ldg} {v : Value} {qs : List KB}
theorem has_any (g : Nat) (w : World) : Calls Try.prog 43 #[.pointer (some ⟨g, 0, none⟩)] w (Says (.pointer (some ⟨g, 0, none⟩)) w) := by
  go_enter Try.func43, Try.ntmps43
  go_wp2
  go_ret
  exact ⟨rfl, rfl⟩
theorem LgR.rowP (h : LgP S w g L v qs) : w.cell? ⟨g, 0, none⟩ = some (.int .i64 L.base) ∧ w.cell? ⟨g, 1, none⟩ = some (.string (strB L.dig)) ∧ w.cell? ⟨g, 2, none⟩ = some v ∧ w.cell? ⟨g, 3, none⟩ = some (.bool true) ∧ ∀ j, w.frozen? ⟨g, j, none⟩ = false := rows4 h.head
set_option maxHeartbeats 1000000 in
theorem lHeight_any (h : LgP S w g L v qs) {K : Nat} (hg : GoodL K L) : Calls Try.prog 18 #[.pointer (some ⟨g, 0, none⟩)] w (TellL (.int .i64 (topL L)) w) := by
  obtain ⟨A, cp, rfl, -, -, -⟩ := h.open
  obtain ⟨z0, z1, z2, z3, z4⟩ := h.rowP
  have hb := hg.b
  have hlen := h.len
  unfold topL at hb ⊢
  rw [← hlen] at hb ⊢
  obtain ⟨hb1, hb2⟩ := hb
  have HH := Lib.hid (fun W => has_any g W)
  have hsum : IntKind.i64.wrap (L.base + (qs.length : Int)) = L.base + (qs.length : Int) := by rw [IntKind.wrap_i64]; omega
  clear h hg hlen
  go_enter Try.func18, Try.ntmps18
  go_wp2_with (first | (go_at_call 43; refine (HH.out _).mono ?_; rintro e w1 ⟨rfl, hww⟩; rw [hww]; clear hww w1))
  go_region_held3 (fun W => W.cell? ⟨g, 0, none⟩ = some (.int .i64 L.base) ∧ W.cell? ⟨g, 2, none⟩ = some (.slice A qs.length cp)) (first | exact ⟨z0, z2⟩) (fail)
  go_wp2
  go_ret
  exact ⟨rfl, (Below.refl _ _).drew⟩
set_option maxHeartbeats 1000000 in
theorem lAt_any (h : LgP S w g L v qs) {K : Nat} (hg : GoodL K L) {j : Nat} (hj : j < qs.length) : Calls Try.prog 47 #[.pointer (some ⟨g, 0, none⟩), .int .i64 (L.base + (j : Int) + 1)] w (TellL (agB qs[j].b qs[j].A qs[j].c qs[j].D qs[j].d) w) := by
  have hl := h.lt
  obtain ⟨A, cp, rfl, -, -, hx⟩ := h.open
  obtain ⟨z0, z1, z2, z3, z4⟩ := h.rowP
  obtain ⟨ad, rfl, c0, c1, c2, c3, -⟩ := hx j hj
  have hb := hg.b
  have hlen := h.len
  unfold topL at hb
  obtain ⟨hb1, hb2⟩ := hb
  have hs1 : IntKind.i64.wrap (L.base + (j : Int) + 1 - L.base) = (j : Int) + 1 := by rw [IntKind.wrap_i64]; omega
  have hs2 : IntKind.i64.wrap ((j : Int)) = (j : Int) := by rw [IntKind.wrap_i64]; omega
  have hjI : (j : Int) < (qs.length : Int) := by omega
  have hjq : j < qs.length := hj
  have hB0 := alloc1B w (.cells #[.int .i64 0, .string ⟨#[]⟩, .slice none 0 0, .slice none 0 0] 33)
  have y0 := cellB z0 hB0
  have y2 := cellB z2 hB0
  have d0 := cellB c0 hB0
  have d1 := cellB c1 hB0
  have d2 := cellB c2 hB0
  have d3 := cellB c3 hB0
  obtain ⟨x0, x1, x2, x3, x4⟩ := rows4 (heap_alloc_new w (.cells #[.int .i64 0, .string ⟨#[]⟩, .slice none 0 0, .slice none 0 0] 33))
  have HBC := Lib.hid (show Below w.heap.size w (w.alloc (.cells #[.int .i64 0, .string ⟨#[]⟩, .slice none 0 0, .slice none 0 0] 33)).drew from hB0.drew)
  clear hx h hg hB0 hlen
  generalize qs[j] = q at *
  go_enter Try.func47, Try.ntmps47
  go_upto_region 1 with fail
  go_region
  go_wp2
  have hzl : w.heap.size < (w.alloc (.cells #[.int .i64 0, .string ⟨#[]⟩, .slice none 0 0, .slice none 0 0] 33)).heap.size := by simp
  refine bodyPost_ret (v := agB q.b q.A q.c q.D q.d) (by simp [results, Try.results47, go_sem, x0, x1, x2, x3, hzl]) rfl ⟨rfl, ?_⟩
  exact (alloc1B w _).drew
abbrev agM (h : Int) (d : List UInt8) : Value := .agg #[.int .i64 h, .string (strB d)]
set_option maxHeartbeats 1000000 in
theorem lMarkAt_any (h : LgP S w g L v qs) {K : Nat} (hg : GoodL K L) (hK : K ≤ 10000000) {n : Nat} (hn : n ≤ qs.length) : Calls Try.prog 44 #[.pointer (some ⟨g, 0, none⟩), .int .i64 (L.base + (n : Int))] w (TellL (agM (L.base + (n : Int)) (atL L n)) w) := by
  have hl := h.lt
  obtain ⟨z0, z1, z2, z3, z4⟩ := h.rowP
  have hB0 := alloc1B w (.cells #[.int .i64 0, .string ⟨#[]⟩] 72)
  have hm0 := heap_alloc_new w (.cells #[.int .i64 0, .string ⟨#[]⟩] 72)
  have hzl : w.heap.size < (w.alloc (.cells #[.int .i64 0, .string ⟨#[]⟩] 72)).heap.size := by simp
  have y0 := cellB z0 hB0
  have y1 := cellB z1 hB0
  have HB0 := Lib.hid hB0
  have HM0 := Lib.hid hm0
  have HH := Lib.hid (fun W (hb : Below w.heap.size w W) => h.below hb)
  rcases n with _ | j
  · have e0 : L.base + ((0 : Nat) : Int) = L.base := by omega
    rw [e0, atL_nil]
    obtain ⟨x0, x1⟩ : (w.alloc (.cells #[.int .i64 0, .string ⟨#[]⟩] 72)).cell? ⟨w.heap.size, 0, none⟩ = some (.int .i64 0) ∧ (w.alloc (.cells #[.int .i64 0, .string ⟨#[]⟩] 72)).cell? ⟨w.heap.size, 1, none⟩ = some (.string ⟨#[]⟩) := ⟨rowCell hm0 0 _ rfl, rowCell hm0 1 _ rfl⟩
    clear h hg hB0 hm0 e0
    go_enter Try.func44, Try.ntmps44
    go_wp2
    refine bodyPost_ret (v := agM L.base L.dig) (by simp [results, Try.results44, go_sem, x0, x1, hzl]) rfl ⟨rfl, ?_⟩
    exact alloc1B w _
  · have hj : j < qs.length := hn
    obtain ⟨hj', hjb⟩ := h.at hj
    rw [show L.base + ((j + 1 : Nat) : Int) = L.base + (j : Int) + 1 by omega, atL_succ hj', ← hjb]
    have e1 : (L.base + (j : Int) + 1 == L.base) = false := by simp; omega
    obtain ⟨hq1, -, -, hq2, -⟩ := hg.q _ (List.getElem_mem hj')
    rw [← hjb] at hq1 hq2
    have HAT := Lib.hid (fun W (hb : Below w.heap.size w W) => lAt_any (h.below hb) hg hj)
    obtain ⟨A, cp, -, -, -, hx⟩ := h.open
    obtain ⟨-, -, -, -, -, -, hk⟩ := hx j hj
    have HHD := Lib.hid (fun W (hb : Below w.heap.size w W) => bHeader_any qs[j].b qs[j].A qs[j].c qs[j].D qs[j].d W (hk.below hb) hq1)
    have hrt := hq1.root
    have HDG := Lib.hid (fun W => bDigest_any qs[j].b.h qs[j].b.prev ((leavesB qs[j].b).length : Nat) (rootB qs[j].b) W (by omega) (by omega))
    rw [show digB qs[j].b.h qs[j].b.prev ((leavesB qs[j].b).length : Nat) (rootB qs[j].b) = hdrL qs[j].b from rfl] at HDG
    unfold HdP at HHD
    clear h hg hB0 hm0 hk hx hrt hq1 hq2 hjb
    generalize hdrL qs[j].b = dd at *
    generalize rootB qs[j].b = rt at *
    generalize (leavesB qs[j].b).length = nn at *
    generalize qs[j] = q at *
    go_enter Try.func44, Try.ntmps44
    go_wp2_with (first
      | (go_at_call 47; refine (HAT.out _ HB0.out).mono ?_; rintro e w1 ⟨rfl, hb1⟩; have HB1 := Lib.hid (bel2M HB0.out hb1); have HM1 := Lib.hid (heapB HM0.out hb1); clear hb1)
      | (go_at_call 73; refine (HHD.out _ HB1.out).mono ?_; rintro e w2 ⟨rfl, hb2⟩; have HB2 := Lib.hid (bel2M HB1.out hb2); have HM2 := Lib.hid (heapB HM1.out hb2); clear hb2)
      | (go_at_call 72; refine (HDG.out _).mono ?_; rintro e w3 ⟨rfl, hb3⟩; have HB3 := Lib.hid (bel2M HB2.out hb3); have HM3 := Lib.hid (heapB HM2.out hb3); clear hb3; obtain ⟨x0, x1, x4, hzl3⟩ := rows2 HM3.out))
    refine bodyPost_ret (v := agM (L.base + (j : Int) + 1) dd) (by simp [results, Try.results44, go_sem, x0, x1, hzl3]) rfl ⟨rfl, ?_⟩
    exact (HB3.out.setCell (p := ⟨w.heap.size, 0, none⟩) (Nat.le_refl _) _).setCell (p := ⟨w.heap.size, 1, none⟩) (Nat.le_refl _) _
set_option maxHeartbeats 1000000 in
theorem lHead_any (h : LgP S w g L v qs) {K : Nat} (hg : GoodL K L) (hK : K ≤ 10000000) : Calls Try.prog 19 #[.pointer (some ⟨g, 0, none⟩)] w (TellL (.string (strB (headL L))) w) := by
  have hlen := h.len
  have HH := Lib.hid (fun W => has_any g W)
  have HHT := Lib.hid (lHeight_any h hg)
  have HMA := Lib.hid (fun W (hb : Below w.heap.size w W) => lMarkAt_any (h.below hb) hg hK (Nat.le_refl qs.length))
  rw [hlen] at HMA
  rw [show L.base + (L.bl.length : Int) = topL L from rfl, show atL L L.bl.length = headL L from rfl] at HMA
  clear h hg hlen
  have hfd := fun (w : World) => show (Instr.field 72 (agM (topL L) (headL L)) 1).run Try.prog w = .ok (.string (strB (headL L))) w by kernel_rfl
  generalize topL L = tp at *
  generalize headL L = hd at *
  go_enter Try.func19, Try.ntmps19
  go_wp2_with (first
    | (go_at_call 43; refine (HH.out _).mono ?_; rintro e w1 ⟨rfl, hww⟩; rw [hww]; clear hww w1)
    | (go_at_call 18; refine HHT.out.mono ?_; rintro e w1 ⟨rfl, hb1⟩; have HB1 := Lib.hid hb1; clear hb1)
    | (go_at_call 44; refine (HMA.out _ HB1.out).mono ?_; rintro e w2 ⟨rfl, hb2⟩; have HB2 := Lib.hid (bel2M HB1.out hb2); clear hb2))
  go_ret
  exact ⟨rfl, HB2.out⟩
set_option maxHeartbeats 1000000 in
theorem lBase_any (h : LgP S w g L v qs) : Calls Try.prog 22 #[.pointer (some ⟨g, 0, none⟩)] w (TellL (.tuple #[.int .i64 L.base, .string (strB L.dig)]) w) := by
  obtain ⟨z0, z1, z2, z3, z4⟩ := h.rowP
  have HH := Lib.hid (fun W => has_any g W)
  clear h
  go_enter Try.func22, Try.ntmps22
  go_wp2_with (first
    | (go_at_call 43; refine (HH.out _).mono ?_; rintro e w1 ⟨rfl, hww⟩; rw [hww]; clear hww w1))
  go_region_held3 (fun W => W.cell? ⟨g, 0, none⟩ = some (.int .i64 L.base) ∧ W.cell? ⟨g, 1, none⟩ = some (.string (strB L.dig))) (first | exact ⟨z0, z1⟩) (fail)
  go_wp2
  exact bodyPost_ret (v := .tuple #[.int .i64 L.base, .string (strB L.dig)]) (by simp [results, Try.results22, go_sem]) rfl ⟨rfl, (Below.refl _ _).drew⟩
end

section
variable {S : Nat → Prop} {w : World} {g : Nat} {L : Ldg} {v : Value} {qs : List KB}
theorem LgR.rowD (h : LgD S w g L v qs) : w.cell? ⟨g, 0, none⟩ = some (.bool true) ∧ w.cell? ⟨g, 1, none⟩ = some (.int .i64 L.base) ∧ w.cell? ⟨g, 2, none⟩ = some (.string (strB L.dig)) ∧ w.cell? ⟨g, 3, none⟩ = some v ∧ ∀ j, w.frozen? ⟨g, j, none⟩ = false := rows4 h.head
set_option maxHeartbeats 1000000 in
theorem rlHeight_any (h : LgD S w g L v qs) {K : Nat} (hg : GoodL K L) : Calls Try.prog 37 #[.pointer (some ⟨g, 0, none⟩)] w (TellL (.int .i64 (topL L)) w) := by
  obtain ⟨A, cp, rfl, -, -, -⟩ := h.open
  obtain ⟨z0, z1, z2, z3, z4⟩ := h.rowD
  have hb := hg.b
  have hlen := h.len
  unfold topL at hb ⊢
  rw [← hlen] at hb ⊢
  obtain ⟨hb1, hb2⟩ := hb
  have hsum : IntKind.i64.wrap (L.base + (qs.length : Int)) = L.base + (qs.length : Int) := by rw [IntKind.wrap_i64]; omega
  clear h hg hlen
  go_enter Try.func37, Try.ntmps37
  go_upto_region 1 with fail
  go_region_held3 (fun W => W.cell? ⟨g, 1, none⟩ = some (.int .i64 L.base) ∧ W.cell? ⟨g, 3, none⟩ = some (.slice A qs.length cp)) (first | exact ⟨z1, z3⟩) (fail)
  go_wp2
  go_ret
  exact ⟨rfl, (Below.refl _ _).drew⟩
set_option maxHeartbeats 1000000 in
theorem rlAt_any (h : LgD S w g L v qs) {K : Nat} (hg : GoodL K L) (hK : K ≤ 10000000) {n : Nat} (hn : n ≤ qs.length) : Calls Try.prog 66 #[.pointer (some ⟨g, 0, none⟩), .int .i64 (n : Int)] w (TellL (.string (strB (atL L n))) w) := by
  obtain ⟨z0, z1, z2, z3, z4⟩ := h.rowD
  rcases n with _ | j
  · rw [atL_nil, show ((0 : Nat) : Int) = 0 from rfl]
    clear h hg
    go_enter Try.func66, Try.ntmps66
    go_wp2
    go_ret
    exact ⟨rfl, Below.refl _ _⟩
  · have hj : j < qs.length := hn
    obtain ⟨hj', hjb⟩ := h.at hj
    rw [show ((j + 1 : Nat) : Int) = (j : Int) + 1 by omega, atL_succ hj', ← hjb]
    have e1 : ((j : Int) + 1 == 0) = false := by simp; omega
    have hs2 : IntKind.i64.wrap ((j : Int)) = (j : Int) := by rw [IntKind.wrap_i64]; have := hg.n; have := h.len; omega
    have hjI : (j : Int) < (qs.length : Int) := by omega
    obtain ⟨hq1, -, -, hq2, -⟩ := hg.q _ (List.getElem_mem hj')
    rw [← hjb] at hq1 hq2
    obtain ⟨A, cp, rfl, -, -, hx⟩ := h.open
    obtain ⟨ad, rfl, c0, c1, c2, c3, hk⟩ := hx j hj
    have HHD := Lib.hid (fun W (hb : Below w.heap.size w W) => rbHeader_any qs[j].b qs[j].A qs[j].c qs[j].D qs[j].d W (hk.below hb) hq1)
    have hrt := hq1.root
    have HDG := Lib.hid (fun W => rbDigest_any qs[j].b.h qs[j].b.prev ((leavesB qs[j].b).length : Nat) (rootB qs[j].b) W (by omega) (by omega))
    rw [show digB qs[j].b.h qs[j].b.prev ((leavesB qs[j].b).length : Nat) (rootB qs[j].b) = hdrL qs[j].b from rfl] at HDG
    unfold HdP at HHD
    clear h hg hk hx hrt hq1 hq2 hjb
    generalize hdrL qs[j].b = dd at *
    generalize rootB qs[j].b = rt at *
    generalize (leavesB qs[j].b).length = nn at *
    generalize qs[j] = q at *
    go_enter Try.func66, Try.ntmps66
    go_wp2_with (first
      | (go_at_call 87; refine (HHD.out _ (Below.refl _ _)).mono ?_; rintro e w2 ⟨rfl, hb2⟩; have HB2 := Lib.hid hb2; clear hb2)
      | (go_at_call 86; refine (HDG.out _).mono ?_; rintro e w3 ⟨rfl, hb3⟩; have HB3 := Lib.hid (bel2M HB2.out hb3); clear hb3))
    go_ret
    exact ⟨rfl, HB3.out⟩
set_option maxHeartbeats 1000000 in
theorem rlHead_any (h : LgD S w g L v qs) {K : Nat} (hg : GoodL K L) (hK : K ≤ 10000000) : Calls Try.prog 38 #[.pointer (some ⟨g, 0, none⟩)] w (TellL (.string (strB (headL L))) w) := by
  have hlen := h.len
  have HAT := Lib.hid (rlAt_any h hg hK (Nat.le_refl qs.length))
  rw [show atL L qs.length = headL L by rw [hlen]; rfl] at HAT
  obtain ⟨z0, z1, z2, z3, z4⟩ := h.rowD
  obtain ⟨A, cp, rfl, -, -, -⟩ := h.open
  clear h hg hlen
  generalize headL L = hd at *
  go_enter Try.func38, Try.ntmps38
  go_wp2_with (first
    | (go_at_call 66; refine HAT.out.mono ?_; rintro e w2 ⟨rfl, hb2⟩; have HB2 := Lib.hid hb2; clear hb2))
  go_ret
  exact ⟨rfl, HB2.out⟩
end

def BlT (b : Blk) (e : Int) (w : World) (x : Ending) (w' : World) : Prop := ∃ A c D d, x = .returned (.tuple #[agB b A c D d, .int .i64 e]) ∧ BlkK w' b A c D d ∧ Below w.heap.size w w'
theorem blk0_k (w : World) : BlkK w blk0 none 0 none 0 := ⟨RowM.none _ _ _, RowM.none _ _ _⟩
theorem blkE_zero {L : Ldg} {x : Int} (h : blkE L x = 0) : ∃ (j : Nat) (hj : j < L.bl.length), x = L.base + (j : Int) + 1 ∧ blkL L x = L.bl[j] := by
  have h' := h
  unfold blkE at h'
  by_cases hx : x ≤ L.base ∨ topL L < x
  · rw [if_pos hx] at h'; exact absurd h' (by decide)
  unfold topL at hx
  have hj : (x - L.base - 1).toNat < L.bl.length := by omega
  refine ⟨(x - L.base - 1).toNat, hj, by omega, ?_⟩
  unfold blkL
  rw [if_pos h, List.getElem?_eq_getElem hj]
  rfl
theorem blkE_one {L : Ldg} {x : Int} (h : x ≤ L.base ∨ topL L < x) : blkE L x = 4 ∧ blkL L x = blk0 := by
  have h1 : blkE L x = 4 := if_pos h
  refine ⟨h1, ?_⟩
  unfold blkL
  rw [h1, if_neg (by decide)]
section
variable {S : Nat → Prop} {w : World} {g : Nat} {L : Ldg} {v : Value} {qs : List KB}
set_option maxHeartbeats 1000000 in
theorem lBlock_any (h : LgP S w g L v qs) {K : Nat} (hg : GoodL K L) (x : Int) : Calls Try.prog 24 #[.pointer (some ⟨g, 0, none⟩), .int .i64 x] w (BlT (blkL L x) (blkE L x) w) := by
  obtain ⟨z0, z1, z2, z3, z4⟩ := h.rowP
  have hl := h.lt
  have HH := Lib.hid (fun W => has_any g W)
  have HHT := Lib.hid (fun W (hb : Below w.heap.size w W) => lHeight_any (h.below hb) hg)
  have hB0 := alloc1B w (.cells #[.int .i64 0, .string ⟨#[]⟩, .slice none 0 0, .slice none 0 0] 33)
  have hx0 := heap_alloc_new w (.cells #[.int .i64 0, .string ⟨#[]⟩, .slice none 0 0, .slice none 0 0] 33)
  have y0 := cellB z0 hB0
  obtain ⟨x0, x1, x2, x3, x4⟩ := rows4 hx0
  have HX0 := Lib.hid hx0
  have HB0 := Lib.hid hB0
  by_cases h1 : x ≤ L.base
  · obtain ⟨e1, e2⟩ := blkE_one (.inl h1)
    rw [e1, e2]
    have hzl := (Array.getElem?_eq_some_iff.1 hx0).1
    clear h hg hB0 hx0 e1 e2
    go_enter Try.func24, Try.ntmps24
    go_wp2_with (first | (go_at_call 43; refine (HH.out _).mono ?_; rintro e w1 ⟨rfl, hww⟩; rw [hww]; clear hww w1))
    refine bodyPost_ret (v := .tuple #[agB blk0 none 0 none 0, .int .i64 4]) (by simp [results, Try.results24, go_sem, x0, x1, x2, x3, hzl]; exact ⟨rfl, rfl, rfl, rfl⟩) rfl ⟨none, 0, none, 0, rfl, blk0_k _, ?_⟩
    exact alloc1B w _
  by_cases h2 : topL L < x
  · obtain ⟨e1, e2⟩ := blkE_one (.inr h2)
    rw [e1, e2]
    have h1I : ¬ x ≤ L.base := h1
    clear h hg hB0 hx0 e1 e2 x0 x1 x2 x3 x4
    generalize topL L = tp at *
    go_enter Try.func24, Try.ntmps24
    go_wp2_with (first
      | (go_at_call 43; refine (HH.out _).mono ?_; rintro e w1 ⟨rfl, hww⟩; rw [hww]; clear hww w1)
      | (go_at_call 18; refine (HHT.out _ HB0.out).mono ?_; rintro e w1 ⟨rfl, hb1⟩; have HB1 := Lib.hid (bel2M HB0.out hb1); have HX1 := Lib.hid (heapB HX0.out hb1); clear hb1; obtain ⟨x0, x1, x2, x3, x4⟩ := rows4 HX1.out))
    have hzl := (Array.getElem?_eq_some_iff.1 HX1.out).1
    refine bodyPost_ret (v := .tuple #[agB blk0 none 0 none 0, .int .i64 4]) (by simp [results, Try.results24, go_sem, x0, x1, x2, x3, hzl]; exact ⟨rfl, rfl, rfl, rfl⟩) rfl ⟨none, 0, none, 0, rfl, blk0_k _, ?_⟩
    exact (((HB1.out.setCell (p := ⟨w.heap.size, 0, none⟩) (Nat.le_refl _) _).setCell (p := ⟨w.heap.size, 1, none⟩) (Nat.le_refl _) _).setCell (p := ⟨w.heap.size, 2, none⟩) (Nat.le_refl _) _).setCell (p := ⟨w.heap.size, 3, none⟩) (Nat.le_refl _) _
  have h0 : blkE L x = 0 := if_neg (by omega)
  obtain ⟨j, hj', rfl, hbj⟩ := blkE_zero h0
  have hj : j < qs.length := by rw [h.len]; exact hj'
  obtain ⟨_, hjb⟩ := h.at hj
  rw [h0, hbj, ← hjb]
  obtain ⟨hq1, -, -, hq2, -⟩ := hg.q _ (List.getElem_mem hj')
  rw [← hjb] at hq1
  have HAT := Lib.hid (fun W (hb : Below w.heap.size w W) => lAt_any (h.below hb) hg hj)
  obtain ⟨A, cp, -, -, -, hx⟩ := h.open
  obtain ⟨-, -, -, -, -, -, hk⟩ := hx j hj
  have HCL := Lib.hid (fun W (hb : Below w.heap.size w W) => cloneB_any qs[j].b qs[j].A qs[j].c qs[j].D qs[j].d W (hk.below hb) hq1)
  have h1I : ¬ (L.base + (j : Int) + 1) ≤ L.base := h1
  clear h hg hB0 hx0 x0 x1 x2 x3 x4 hk hx hq1 hq2 hbj h0 hjb
  generalize topL L = tp at *
  generalize qs[j] = q at *
  go_enter Try.func24, Try.ntmps24
  go_wp2_with (first
    | (go_at_call 43; refine (HH.out _).mono ?_; rintro e w1 ⟨rfl, hww⟩; rw [hww]; clear hww w1)
    | (go_at_call 18; refine (HHT.out _ HB0.out).mono ?_; rintro e w1 ⟨rfl, hb1⟩; have HB1 := Lib.hid (bel2M HB0.out hb1); have HX1 := Lib.hid (heapB HX0.out hb1); clear hb1)
    | (go_at_call 47; refine (HAT.out _ HB1.out).mono ?_; rintro e w2 ⟨rfl, hb2⟩; have HB2 := Lib.hid (bel2M HB1.out hb2); have HX2 := Lib.hid (heapB HX1.out hb2); clear hb2)
    | (go_at_call 42; refine (HCL.out _ HB2.out).mono ?_; rintro e w3 ⟨A3, c3, D3, d3, rfl, hk3, hb3⟩; have HB3 := Lib.hid (bel2M HB2.out hb3); have HX3 := Lib.hid (heapB HX2.out hb3); have HK3 := Lib.hid hk3; have HZ := Lib.hid (Array.getElem?_eq_some_iff.1 HX2.out).1; clear hb3 hk3; obtain ⟨x0, x1, x2, x3, x4⟩ := rows4 HX3.out))
  have hzl := (Array.getElem?_eq_some_iff.1 HX3.out).1
  have hz2 := HZ.out
  refine bodyPost_ret (v := .tuple #[agB q.b A3 c3 D3 d3, .int .i64 0]) (by simp [results, Try.results24, go_sem, x0, x1, x2, x3, hzl]) rfl ⟨A3, c3, D3, d3, rfl, ?_, ?_⟩
  · refine (HK3.out.keep (C' := fun _ => True) (by simp) fun i _ hi => ⟨?_, trivial⟩).k
    have hi' : w2.heap.size ≤ i := hi
    have hne : i ≠ w.heap.size := by omega
    rw [Go.Deep.blk_setCell_other _ _ _ _ hne, Go.Deep.blk_setCell_other _ _ _ _ hne, Go.Deep.blk_setCell_other _ _ _ _ hne, Go.Deep.blk_setCell_other _ _ _ _ hne]
  · exact (((HB3.out.setCell (p := ⟨w.heap.size, 0, none⟩) (Nat.le_refl _) _).setCell (p := ⟨w.heap.size, 1, none⟩) (Nat.le_refl _) _).setCell (p := ⟨w.heap.size, 2, none⟩) (Nat.le_refl _) _).setCell (p := ⟨w.heap.size, 3, none⟩) (Nat.le_refl _) _
theorem set4_other {W : World} {N i : Nat} {a b c d : Value} (h : i ≠ N) : ((((W.setCell ⟨N, 0, none⟩ a).setCell ⟨N, 1, none⟩ b).setCell ⟨N, 2, none⟩ c).setCell ⟨N, 3, none⟩ d).heap[i]? = W.heap[i]? := by
  rw [Go.Deep.blk_setCell_other _ _ _ _ h, Go.Deep.blk_setCell_other _ _ _ _ h, Go.Deep.blk_setCell_other _ _ _ _ h, Go.Deep.blk_setCell_other _ _ _ _ h]
theorem set4_cell {W : World} {N : Nat} {p : Addr} {x a b c d : Value} (hp : W.cell? p = some x) (h : p.block ≠ N) : ((((W.setCell ⟨N, 0, none⟩ a).setCell ⟨N, 1, none⟩ b).setCell ⟨N, 2, none⟩ c).setCell ⟨N, 3, none⟩ d).cell? p = some x := (World.cell?_of_block (set4_other h)).trans hp
set_option maxHeartbeats 1000000 in
theorem rlBlock_any (h : LgD S w g L v qs) {K : Nat} (hg : GoodL K L) (x : Int) : Calls Try.prog 40 #[.pointer (some ⟨g, 0, none⟩), .int .i64 x] w (BlT (blkL L x) (blkE L x) w) := by
  obtain ⟨z0, z1, z2, z3, z4⟩ := h.rowD
  have hl := h.lt
  have HHT := Lib.hid (fun W (hb : Below w.heap.size w W) => rlHeight_any (h.below hb) hg)
  have hB0 := alloc1B w (.cells #[.int .i64 0, .string ⟨#[]⟩, .slice none 0 0, .slice none 0 0] 33)
  have hx0 := heap_alloc_new w (.cells #[.int .i64 0, .string ⟨#[]⟩, .slice none 0 0, .slice none 0 0] 33)
  have y1 := cellB z1 hB0
  have y3 := cellB z3 hB0
  obtain ⟨x0, x1, x2, x3, x4⟩ := rows4 hx0
  have HX0 := Lib.hid hx0
  have HB0 := Lib.hid hB0
  by_cases h1 : x ≤ L.base
  · obtain ⟨e1, e2⟩ := blkE_one (.inl h1)
    rw [e1, e2]
    have hzl := (Array.getElem?_eq_some_iff.1 hx0).1
    clear h hg hB0 hx0 e1 e2
    go_enter Try.func40, Try.ntmps40
    go_wp2
    refine bodyPost_ret (v := .tuple #[agB blk0 none 0 none 0, .int .i64 4]) (by simp [results, Try.results40, go_sem, x0, x1, x2, x3, hzl]; exact ⟨rfl, rfl, rfl, rfl⟩) rfl ⟨none, 0, none, 0, rfl, blk0_k _, ?_⟩
    exact alloc1B w _
  by_cases h2 : topL L < x
  · obtain ⟨e1, e2⟩ := blkE_one (.inr h2)
    rw [e1, e2]
    have h1I : ¬ x ≤ L.base := h1
    clear h hg hB0 hx0 e1 e2 x0 x1 x2 x3 x4
    generalize topL L = tp at *
    go_enter Try.func40, Try.ntmps40
    go_wp2_with (first
      | (go_at_call 37; refine (HHT.out _ HB0.out).mono ?_; rintro e w1 ⟨rfl, hb1⟩; have HB1 := Lib.hid (bel2M HB0.out hb1); have HX1 := Lib.hid (heapB HX0.out hb1); clear hb1; obtain ⟨x0, x1, x2, x3, x4⟩ := rows4 HX1.out))
    have hzl := (Array.getElem?_eq_some_iff.1 HX1.out).1
    refine bodyPost_ret (v := .tuple #[agB blk0 none 0 none 0, .int .i64 4]) (by simp [results, Try.results40, go_sem, x0, x1, x2, x3, hzl]; exact ⟨rfl, rfl, rfl, rfl⟩) rfl ⟨none, 0, none, 0, rfl, blk0_k _, ?_⟩
    exact (((HB1.out.setCell (p := ⟨w.heap.size, 0, none⟩) (Nat.le_refl _) _).setCell (p := ⟨w.heap.size, 1, none⟩) (Nat.le_refl _) _).setCell (p := ⟨w.heap.size, 2, none⟩) (Nat.le_refl _) _).setCell (p := ⟨w.heap.size, 3, none⟩) (Nat.le_refl _) _
  have h0 : blkE L x = 0 := if_neg (by omega)
  obtain ⟨j, hj', rfl, hbj⟩ := blkE_zero h0
  have hj : j < qs.length := by rw [h.len]; exact hj'
  obtain ⟨_, hjb⟩ := h.at hj
  rw [h0, hbj, ← hjb]
  obtain ⟨hq1, -, -, hq2, -⟩ := hg.q _ (List.getElem_mem hj')
  rw [← hjb] at hq1
  obtain ⟨A, cp, rfl, -, -, hx⟩ := h.open
  obtain ⟨ad, rfl, c0, c1, c2, c3, hk⟩ := hx j hj
  have hadl : ad.block < w.heap.size := by have := World.block_lt_of_cell? w _ c0; rwa [block_add] at this
  have HCL := Lib.hid (fun W (hb : Below w.heap.size w W) => rtwinB_any qs[j].b qs[j].A qs[j].c qs[j].D qs[j].d W (hk.below hb) hq1)
  have hb := hg.b
  unfold topL at hb
  have hs1 : IntKind.i64.wrap (L.base + (j : Int) + 1 - L.base) = (j : Int) + 1 := by rw [IntKind.wrap_i64]; omega
  have hs2 : IntKind.i64.wrap ((j : Int)) = (j : Int) := by rw [IntKind.wrap_i64]; omega
  have hjI : (j : Int) < (qs.length : Int) := by omega
  have h1I : ¬ (L.base + (j : Int) + 1) ≤ L.base := h1
  have HL := Lib.hid (And.intro hl hadl)
  have HC := Lib.hid (show ∀ W, Below w.heap.size w W → (fun W => W.cell? ⟨g, 1, none⟩ = some (.int .i64 L.base) ∧ W.cell? ⟨g, 3, none⟩ = some (.slice (some ad) qs.length cp) ∧ W.cell? (ad.add (j * 4)) = some (.int .i64 qs[j].b.h) ∧ W.cell? ⟨(ad.add (j * 4)).block, (ad.add (j * 4)).off + 1, none⟩ = some (.string (strB qs[j].b.prev)) ∧
      W.cell? ⟨(ad.add (j * 4)).block, (ad.add (j * 4)).off + 2, none⟩ = some (.slice qs[j].A qs[j].b.reqs.length qs[j].c) ∧ W.cell? ⟨(ad.add (j * 4)).block, (ad.add (j * 4)).off + 3, none⟩ = some (.slice qs[j].D qs[j].b.ress.length qs[j].d)) W from fun W h => ⟨cellB z1 h, cellB z3 h, cellB c0 h, cellB c1 h, cellB c2 h, cellB c3 h⟩)
  clear h hg hB0 hx0 x0 x1 x2 x3 x4 hk hx hq1 hq2 hbj h0 hjb hb c0 c1 c2 c3 z0 z1 z2 z3 z4 hl hadl
  generalize topL L = tp at *
  generalize qs[j] = q at *
  go_enter Try.func40, Try.ntmps40
  go_upto_region 3 with (first
    | (go_at_call 37; refine (HHT.out _ HB0.out).mono ?_; rintro e w1 ⟨rfl, hb1⟩; have HB1 := Lib.hid (bel2M HB0.out hb1); have HX1 := Lib.hid (heapB HX0.out hb1); clear hb1))
  replace HB1 := Lib.hid HB1.out.drew
  go_region_held3 (fun W => W.cell? ⟨g, 1, none⟩ = some (.int .i64 L.base) ∧ W.cell? ⟨g, 3, none⟩ = some (.slice (some ad) qs.length cp) ∧ W.cell? (ad.add (j * 4)) = some (.int .i64 q.b.h) ∧ W.cell? ⟨(ad.add (j * 4)).block, (ad.add (j * 4)).off + 1, none⟩ = some (.string (strB q.b.prev)) ∧
      W.cell? ⟨(ad.add (j * 4)).block, (ad.add (j * 4)).off + 2, none⟩ = some (.slice q.A q.b.reqs.length q.c) ∧ W.cell? ⟨(ad.add (j * 4)).block, (ad.add (j * 4)).off + 3, none⟩ = some (.slice q.D q.b.ress.length q.d))
    (first | exact HC.out _ HB1.out | exact HC.out _ HB3.out | (obtain ⟨k1, k2, k3, k4, k5, k6⟩ := HC.out _ HB3.out; exact ⟨set4_cell k1 (Nat.ne_of_lt HL.out.1), set4_cell k2 (Nat.ne_of_lt HL.out.1), set4_cell k3 (by rw [block_add]; exact Nat.ne_of_lt HL.out.2), set4_cell k4 (by rw [block_add]; exact Nat.ne_of_lt HL.out.2), set4_cell k5 (by rw [block_add]; exact Nat.ne_of_lt HL.out.2), set4_cell k6 (by rw [block_add]; exact Nat.ne_of_lt HL.out.2)⟩))
    (first | (go_at_call 68; refine (HCL.out _ HB1.out).mono ?_; rintro e w3 ⟨A3, c3, D3, d3, rfl, hk3, hb3⟩; have HB3 := Lib.hid (bel2M HB1.out hb3); have HX3 := Lib.hid (heapB (w := w1) HX1.out ((Below.refl _ _).drew.trans hb3)); have HK3 := Lib.hid hk3; have HZ := Lib.hid (Array.getElem?_eq_some_iff.1 HX1.out).1; clear hb3 hk3; obtain ⟨x0, x1, x2, x3, x4⟩ := rows4 HX3.out))
  go_wp2
  have hzl := (Array.getElem?_eq_some_iff.1 HX3.out).1
  have hz2 := HZ.out
  refine bodyPost_ret (v := .tuple #[agB q.b A3 c3 D3 d3, .int .i64 0]) (by simp [results, Try.results40, go_sem, x0, x1, x2, x3, hzl]) rfl ⟨A3, c3, D3, d3, rfl, ?_, ?_⟩
  · refine (HK3.out.keep (C' := fun _ => True) (by simp) fun i _ hi => ⟨?_, trivial⟩).k
    have hi' : w1.heap.size ≤ i := hi
    exact set4_other (by omega)
  · exact (((HB3.out.setCell (p := ⟨w.heap.size, 0, none⟩) (Nat.le_refl _) _).setCell (p := ⟨w.heap.size, 1, none⟩) (Nat.le_refl _) _).setCell (p := ⟨w.heap.size, 2, none⟩) (Nat.le_refl _) _).setCell (p := ⟨w.heap.size, 3, none⟩) (Nat.le_refl _) _
end

def firstL : List UInt8 := encT 6 []
theorem firstL_len : firstL.length ≤ 100 := by
  unfold firstL
  rw [encT_length]
  simp [partsB]
def L0 : Ldg := ⟨0, firstL, []⟩
theorem L0_good : GoodL 5000 L0 := ⟨⟨by decide, by decide⟩, by simp [L0], by have := firstL_len; show firstL.length ≤ 5000; omega, fun x hx => absurd hx (by simp [L0])⟩
theorem mark_good {h : Int} {d : List UInt8} (h1 : 0 ≤ h) (h2 : h ≤ 1099511627776) (hd : d.length ≤ 5000) : GoodL 5000 ⟨h, d, []⟩ := ⟨⟨h1, by unfold topL; simpa using h2⟩, by simp, hd, fun x hx => absurd hx (by simp)⟩
theorem LgR.fresh {cs : Ldg → Value → Array Value} {t : TypeId} {S : Nat → Prop} {w : World} {g : Nat} {L : Ldg} (h : w.heap[g]? = some (.cells (cs L (.slice none 0 0)) t (0, 0))) (hl : L.bl = []) (hS : S g) : LgR cs t S w g L (.slice none 0 0) [] :=
  ⟨by rw [hl]; rfl, h, World.ownsRow_nil _ _ _ _, fun q hq => absurd hq (by simp), hS, fun k hk => by cases hk⟩
def NwP (L : Ldg) (w : World) (e : Ending) (w' : World) : Prop := ∃ g, e = .returned (.pointer (some ⟨g, 0, none⟩)) ∧ LgP (fun k => w.heap.size ≤ k) w' g L (.slice none 0 0) [] ∧ Below w.heap.size w w'
def NwD (L : Ldg) (w : World) (e : Ending) (w' : World) : Prop := ∃ g, e = .returned (.pointer (some ⟨g, 0, none⟩)) ∧ LgD (fun k => w.heap.size ≤ k) w' g L (.slice none 0 0) [] ∧ Below w.heap.size w w'
theorem fromMark_any (h : Int) (d : List UInt8) (w : World) : Calls Try.prog 33 #[agM h d] w (NwP ⟨h, d, []⟩ w) := by
  have hb1 := alloc1B w (.cells #[.int .i64 h, .string (strB d)] 72)
  have hz1 : (w.alloc (.cells #[.int .i64 h, .string (strB d)] 72)).heap.size = w.heap.size + 1 := World.size_alloc _ _
  obtain ⟨x0, x1, -, -⟩ := rows2 (heap_alloc_new w (.cells #[.int .i64 h, .string (strB d)] 72))
  have hn := heap_alloc_new (w.alloc (.cells #[.int .i64 h, .string (strB d)] 72)) (.cells #[.int .i64 h, .string (strB d), .slice none 0 0, .bool true] 77)
  have hb2 := alloc1B (w.alloc (.cells #[.int .i64 h, .string (strB d)] 72)) (.cells #[.int .i64 h, .string (strB d), .slice none 0 0, .bool true] 77)
  have HN := Lib.hid hn
  have HB := Lib.hid (bel2M hb1 hb2)
  clear hn hb1 hb2
  go_enter Try.func33, Try.ntmps33
  go_wp2
  go_ret
  rw [hz1] at HN
  exact ⟨_, rfl, LgR.fresh (cs := csLP) (L := ⟨h, d, []⟩) HN.out rfl (Nat.le_succ _), HB.out⟩
theorem mayBe_any (h : Int) (w : World) : Calls Try.prog 41 #[.int .i64 h] w (Says (.bool (decide (0 ≤ h ∧ h ≤ 1099511627776))) w) := by
  by_cases h1 : 0 ≤ h
  · by_cases h2 : h ≤ 1099511627776
    · rw [decide_eq_true (And.intro h1 h2)]
      go_enter Try.func41, Try.ntmps41
      go_wp2
      go_ret
      exact ⟨rfl, rfl⟩
    · rw [decide_eq_false (fun h => h2 h.2)]
      go_enter Try.func41, Try.ntmps41
      go_wp2
      go_ret
      exact ⟨rfl, rfl⟩
  · rw [decide_eq_false (fun h => h1 h.1)]
    go_enter Try.func41, Try.ntmps41
    go_wp2
    go_ret
    exact ⟨rfl, rfl⟩
theorem lNew_any (w : World) : Calls Try.prog 10 #[] w (NwP L0 w) := by
  have HM := Lib.hid (fun W => fromMark_any 0 firstL W)
  have HO := Lib.hid (Of_any 6 (.slice none 0 0) [] w (Bss.nil _) (by simp) (by simp) (by have := firstL_len; unfold firstL at this; omega))
  rw [show encT 6 [] = firstL from rfl] at HO
  unfold L0
  generalize firstL = fl at *
  go_enter Try.func10, Try.ntmps10
  go_wp2_with (first
    | (go_at_call 34; refine HO.out.mono ?_; rintro e w1 ⟨rfl, hb1⟩; have HB1 := Lib.hid hb1; clear hb1)
    | (go_at_call 33; refine (HM.out _).mono ?_; rintro e w2 ⟨g, rfl, hg, hb2⟩; have HB2 := Lib.hid (bel2M HB1.out hb2); have HG := Lib.hid (LgR.mono hg (S' := fun k => w.heap.size ≤ k) (fun k _ hk => Nat.le_trans HB1.out.size hk)); clear hb2 hg))
  go_ret
  exact ⟨g, rfl, HG.out, HB2.out⟩
def frE (h : Int) : Int := if h < 0 ∨ 1099511627776 < h then 100 else 0
def FrP (h : Int) (d : List UInt8) (w : World) (e : Ending) (w' : World) : Prop := (frE h = 0 → ∃ g, e = .returned (.tuple #[.pointer (some ⟨g, 0, none⟩), .int .i64 0]) ∧ LgP (fun k => w.heap.size ≤ k) w' g ⟨h, d, []⟩ (.slice none 0 0) []) ∧ (frE h ≠ 0 → e = .returned (.tuple #[.pointer none, .int .i64 100])) ∧ Below w.heap.size w w'
def FrD (h : Int) (d : List UInt8) (w : World) (e : Ending) (w' : World) : Prop := (frE h = 0 → ∃ g, e = .returned (.tuple #[.pointer (some ⟨g, 0, none⟩), .int .i64 0]) ∧ LgD (fun k => w.heap.size ≤ k) w' g ⟨h, d, []⟩ (.slice none 0 0) []) ∧ (frE h ≠ 0 → e = .returned (.tuple #[.pointer none, .int .i64 100])) ∧ Below w.heap.size w w'
theorem lFrom_any (h : Int) (d : List UInt8) (w : World) : Calls Try.prog 15 #[.int .i64 h, .string (strB d)] w (FrP h d w) := by
  have HMB := Lib.hid (mayBe_any h w)
  by_cases hh : h < 0 ∨ 1099511627776 < h
  · have e0 : frE h = 100 := if_pos hh
    rw [decide_eq_false (by omega)] at HMB
    go_enter Try.func15, Try.ntmps15
    go_wp2_with (first
      | (go_at_call 41; refine HMB.out.mono ?_; rintro e w1 ⟨rfl, hww⟩; rw [hww]; clear hww w1))
    exact bodyPost_ret (v := .tuple #[.pointer none, .int .i64 100]) (by simp [results, Try.results15, go_sem]) rfl ⟨fun h0 => by rw [e0] at h0; exact absurd h0 (by decide), fun _ => rfl, Below.refl _ _⟩
  · have e0 : frE h = 0 := if_neg hh
    rw [decide_eq_true (by omega)] at HMB
    have HM := Lib.hid (fun W => fromMark_any h d W)
    go_enter Try.func15, Try.ntmps15
    go_wp2_with (first
      | (go_at_call 41; refine HMB.out.mono ?_; rintro e w1 ⟨rfl, hww⟩; rw [hww]; clear hww w1)
      | (go_at_call 33; refine (HM.out _).mono ?_; rintro e w2 ⟨g, rfl, hg, hb2⟩; have HB2 := Lib.hid hb2; have HG := Lib.hid hg; clear hb2 hg))
    exact bodyPost_ret (v := .tuple #[.pointer (some ⟨g, 0, none⟩), .int .i64 0]) (by simp [results, Try.results15, go_sem]) rfl ⟨fun _ => ⟨g, rfl, HG.out⟩, fun h0 => absurd e0 h0, HB2.out⟩
theorem rFirst_any (w : World) : Calls Try.prog 35 #[] w (Tells firstL w) := by
  have HO := Lib.hid (rOf_any 6 (.slice none 0 0) [] w (Bss.nil _) (by simp) (by simp) (by have := firstL_len; unfold firstL at this; omega))
  rw [show encT 6 [] = firstL from rfl] at HO
  generalize firstL = fl at *
  go_enter Try.func35, Try.ntmps35
  go_wp2_with (first
    | (go_at_call 65; refine HO.out.mono ?_; rintro e w1 ⟨rfl, hb1⟩; have HB1 := Lib.hid hb1; clear hb1))
  go_ret
  exact ⟨rfl, HB1.out⟩
theorem rlNew_any (w : World) : Calls Try.prog 11 #[] w (NwD L0 w) := by
  have HO := Lib.hid (rFirst_any w)
  unfold L0
  generalize firstL = fl at *
  go_enter Try.func11, Try.ntmps11
  go_wp2_with (first
    | (go_at_call 35; refine HO.out.mono ?_; rintro e w1 ⟨rfl, hb1⟩; have HB1 := Lib.hid hb1; clear hb1))
  go_ret
  exact ⟨_, rfl, LgR.fresh (cs := csLD) (L := ⟨0, fl, []⟩) (heap_alloc_new w1 _) rfl HB1.out.size, bel2M HB1.out (alloc1B w1 _)⟩
theorem rlFrom_any (h : Int) (d : List UInt8) (w : World) : Calls Try.prog 16 #[.int .i64 h, .string (strB d)] w (FrD h d w) := by
  by_cases hh : h < 0 ∨ 1099511627776 < h
  · have e0 : frE h = 100 := if_pos hh
    have hz : frE h ≠ 0 := by rw [e0]; decide
    have HZ := Lib.hid hz
    clear hz e0
    by_cases h1 : h < 0
    · go_enter Try.func16, Try.ntmps16
      clear hh
      go_wp2
      exact bodyPost_ret (v := .tuple #[.pointer none, .int .i64 100]) (by simp [results, Try.results16, go_sem]) rfl ⟨fun h0 => absurd h0 HZ.out, fun _ => rfl, Below.refl _ _⟩
    · have h2 : 1099511627776 < h := by omega
      clear hh
      go_enter Try.func16, Try.ntmps16
      go_wp2
      exact bodyPost_ret (v := .tuple #[.pointer none, .int .i64 100]) (by simp [results, Try.results16, go_sem]) rfl ⟨fun h0 => absurd h0 HZ.out, fun _ => rfl, Below.refl _ _⟩
  · have e0 : frE h = 0 := if_neg hh
    have h1 : ¬ h < 0 := by omega
    have h2 : ¬ 1099511627776 < h := by omega
    have HZ := Lib.hid e0
    clear hh e0
    go_enter Try.func16, Try.ntmps16
    go_wp2
    exact bodyPost_ret (v := .tuple #[.pointer (some ⟨w.heap.size, 0, none⟩), .int .i64 0]) (by simp [results, Try.results16, go_sem]) rfl ⟨fun _ => ⟨_, rfl, LgR.fresh (cs := csLD) (L := ⟨h, d, []⟩) (heap_alloc_new w _) rfl (Nat.le_refl _)⟩, fun h0 => absurd HZ.out h0, alloc1B w _⟩

theorem kbC_one (l : List KB) : ∀ u ∈ l.flatMap kbC, u.oneCell' = true := fun u hu => by
  obtain ⟨q, -, hq⟩ := List.mem_flatMap.1 hu
  simp only [kbC, List.mem_cons, List.not_mem_nil, or_false] at hq
  rcases hq with rfl | rfl | rfl | rfl <;> rfl
theorem kbC_one1 (q : KB) : ∀ u ∈ kbC q, u.oneCell' = true := fun u hu => kbC_one [q] u (by simpa using hu)
theorem built4 {w : World} {H : Nat} {q : KB} {t : TypeId} (h : w.heap[H]? = some (.cells #[.int .i64 q.b.h, .string (strB q.b.prev), .slice q.A q.b.reqs.length q.c, .slice q.D q.b.ress.length q.d] t (0, 0))) : RowMs w 4 (.slice (some ⟨H, 0, none⟩) 1 1) 1 (kbC q) := by
  refine ⟨some ⟨H, 0, none⟩, 1, rfl, rfl, fun h => (by cases h), fun a ha j u hj => ?_⟩
  injection ha with ha
  subst ha
  rw [Addr.add_lit, Nat.zero_add]
  match j, hj with
  | 0, hj => injection hj with hj; subst hj; exact rowCell h 0 _ rfl
  | 1, hj => injection hj with hj; subst hj; exact rowCell h 1 _ rfl
  | 2, hj => injection hj with hj; subst hj; exact rowCell h 2 _ rfl
  | 3, hj => injection hj with hj; subst hj; exact rowCell h 3 _ rfl
section
variable {cs : Ldg → Value → Array Value} {t : TypeId} {S : Nat → Prop} {g : Nat} {L : Ldg} {v : Value} {qs : List KB}
theorem set_cells {w : World} {g i : Nat} {cur : Array Value} {t : TypeId} {u : Value} (h : w.heap[g]? = some (.cells cur t (0, 0))) : (w.setCell ⟨g, i, none⟩ u).heap[g]? = some (.cells (cur.setIfInBounds i u) t (0, 0)) := heap_setCell_same w g i cur t u h
theorem LgR.push {w W2 w4 : World} {L' : Ldg} {v4 : Value} {q : KB} {i : Nat} (h : LgR cs t (fun k => k < w.heap.size ∧ S k) W2 g L v qs) (hS : ∀ k, w.heap.size ≤ k → S k) (hz : w.heap.size ≤ W2.heap.size) (hq : BlkC (fun k => w.heap.size ≤ k) W2 q.b q.A q.c q.D q.d)
    (hown : w4.ownsRow 0 33 4 v4 (qs.length + 1) (qs.flatMap kbC ++ kbC q)) (hgr : W2.grownBy w4 v.ownBlock) (hr : v4.ownBlock = v.ownBlock ∨ v4.ownBlock = some W2.heap.size)
    (hcs : (cs L v).setIfInBounds i v4 = cs L' v4) (hbl : L'.bl = L.bl ++ [q.b]) : LgR cs t S (w4.setCell ⟨g, i, none⟩ v4) g L' v4 (qs ++ [q]) := by
  have hgl := h.at_g.1
  have hgv : v.ownBlock ≠ some g := fun e => (h.at_v g e).2 rfl
  have hg4 : w4.heap[g]? = W2.heap[g]? := hgr.block g h.lt (fun e => hgv e.symm)
  have hset : ∀ k, k ≠ g → (w4.setCell ⟨g, i, none⟩ v4).heap[k]? = w4.heap[k]? := fun k hk => Go.Deep.blk_setCell_other _ _ _ _ hk
  have hv4 : ∀ k, v4.ownBlock = some k → S k ∧ k ≠ g := fun k hk => by
    rcases hr with hr | hr
    · rw [hr] at hk
      exact ⟨(h.at_v k hk).1.2, (h.at_v k hk).2⟩
    · rw [hk] at hr
      injection hr with hr
      exact ⟨hS k (by omega), by omega⟩
  have hsz : W2.heap.size ≤ (w4.setCell ⟨g, i, none⟩ v4).heap.size := by have := hgr.size; simpa using this
  refine ⟨by rw [List.map_append, h.bl, hbl]; rfl, ?_, ?_, fun p hp => ?_, h.at_g.2, hv4⟩
  · rw [set_cells (hg4.trans h.head), hcs]
  · rw [List.length_append, List.length_singleton, List.flatMap_append, List.flatMap_cons, List.flatMap_nil, List.append_nil]
    exact own_keep hown fun k hk => hset k (hv4 k hk).2
  · rcases List.mem_append.1 hp with hp | hp
    · refine (h.blk p hp).keep hsz fun k hk hc => ⟨(hset k hc.2.1).trans (hgr.block k hk (fun e => hc.2.2 e.symm)), hc.1.2, hc.2.1, fun e => ?_⟩
      rcases hr with hr | hr
      · exact hc.2.2 (hr ▸ e)
      · rw [e] at hr
        injection hr with hr
        omega
    · rw [List.mem_singleton.1 hp]
      refine hq.keep hsz fun k hk hc => ?_
      have hkg : k ≠ g := by omega
      have hkv : v.ownBlock ≠ some k := fun e => by have := (h.at_v k e).1.1; omega
      refine ⟨(hset k hkg).trans (hgr.block k hk (fun e => hkv e.symm)), hS k hc, hkg, fun e => ?_⟩
      rcases hr with hr | hr
      · exact hkv (hr ▸ e)
      · rw [e] at hr
        injection hr with hr
        omega
def cutA (A : Option Addr) (c k : Nat) : Option Addr := if c = k then A else A.map (·.add (k * 4))
theorem run_cutB (A : Option Addr) (n c k : Nat) (hk : k ≤ n) (w : World) : (Instr.slice 52 (.slice A n c) (some (.int .i64 (k : Int))) none none).run Try.prog w = .ok (.slice (cutA A c k) (n - k) (c - k)) w := by
  have hz : (sizeOf (Try.prog.elem 52)).run Try.prog w = .ok 4 w := by rfl
  rw [run_slice_l (P := Try.prog) w 52 A n c Try.underlying52 .i64 (k : Int) (by omega) (by omega), hz]
  simp only [Result.andThen, sliced, Int.toNat_natCast]
  rfl
theorem flat_drop : ∀ (l : List KB) (k : Nat), (l.drop k).flatMap kbC = (l.flatMap kbC).drop (k * 4)
  | l, 0 => by simp
  | [], k + 1 => by simp
  | q :: l, k + 1 => by
    rw [List.drop_succ_cons, flat_drop l k, List.flatMap_cons, List.drop_append, show (kbC q).drop ((k + 1) * 4) = [] from List.drop_eq_nil_of_le (show 4 ≤ (k + 1) * 4 by omega), List.nil_append]
    congr 1
    show k * 4 = (k + 1) * 4 - 4
    omega
theorem own_cut {w : World} {B : Nat} {t : TypeId} {A : Option Addr} {n c : Nat} (h : w.ownsRow B t 4 (.slice A n c) n (qs.flatMap kbC)) (hn : n = qs.length) {k : Nat} (hk : k ≤ n) : RowMs w 4 (.slice (cutA A c k) (n - k) (c - k)) (n - k) ((qs.drop k).flatMap kbC) := by
  have hl : ((qs.drop k).flatMap kbC).length = (n - k) * 4 := by rw [flatM_len kbC 4 (fun _ => rfl), List.length_drop, hn]
  refine ⟨cutA A c k, c - k, rfl, hl, fun ha => ?_, fun a ha j u hj => ?_⟩
  · unfold cutA at ha
    rcases h.2 with ⟨e, h0⟩ | ⟨g, cap, cur, e, -, -, hc, -⟩
    · injection e with e1 e2 e3
      omega
    · injection e with e1 e2 e3
      subst e1 e3
      by_cases hck : c = k
      · rw [if_pos hck] at ha; cases ha
      · rw [if_neg hck] at ha; cases ha
  · have hjl : j < (n - k) * 4 := by
      have := (List.getElem?_eq_some_iff.1 hj).1
      rwa [hl] at this
    rcases h.2 with ⟨e, h0⟩ | ⟨g, cap, cur, e, -, -, hc, -⟩
    · injection e with e1 e2 e3
      omega
    · injection e with e1 e2 e3
      subst e1 e3
      have hck : ¬ c = k := by omega
      unfold cutA at ha
      rw [if_neg hck] at ha
      injection ha with ha
      subst ha
      rw [flat_drop, List.getElem?_drop] at hj
      rw [Addr.add_add]
      exact h.cells rfl _ _ hj
theorem LgR.cutoff {w W5 : World} {L' : Ldg} {v5 : Value} {k : Nat} (h : LgR cs t (fun i => i < w.heap.size ∧ S i) w g L v qs) (hS : ∀ i, w.heap.size ≤ i → S i) (hz : w.heap.size ≤ W5.heap.size)
    (hk : ∀ i, i < w.heap.size → i ≠ g → W5.heap[i]? = w.heap[i]?) (hown : W5.ownsRow w.heap.size 33 4 v5 (qs.drop k).length ((qs.drop k).flatMap kbC)) (hhead : W5.heap[g]? = some (.cells (cs L' v5) t (0, 0))) (hbl : L'.bl = L.bl.drop k) : LgR cs t S W5 g L' v5 (qs.drop k) := by
  have hgl := h.at_g.1
  refine ⟨by rw [List.map_drop, h.bl, hbl], hhead, own_leL hown (Nat.zero_le _), fun p hp => ?_, h.at_g.2, fun i hi => ?_⟩
  · refine (h.blk p (List.mem_of_mem_drop hp)).keep hz fun i hi hc => ⟨hk i hi hc.2.1, hc.1.2, hc.2.1, fun e => ?_⟩
    have := (hown.lt i e).1
    omega
  · have := (hown.lt i hi).1
    exact ⟨hS i this, by omega⟩
end
def ApP (x : Int) (L : Ldg) (g : Nat) (S : Nat → Prop) (w : World) (e : Ending) (w' : World) : Prop := ∃ v qs, e = .returned (.int .i64 x) ∧ LgP S w' g L v qs ∧ Off S w w'
def ApD (x : Int) (L : Ldg) (g : Nat) (S : Nat → Prop) (w : World) (e : Ending) (w' : World) : Prop := ∃ v qs, e = .returned (.int .i64 x) ∧ LgD S w' g L v qs ∧ Off S w w'

set_option maxHeartbeats 4000000 in
theorem lAppend_any {S : Nat → Prop} {w : World} {g : Nat} {L : Ldg} {v : Value} {qs : List KB} (h : LgP S w g L v qs) {K : Nat} (hg : GoodL K L) (hK : K ≤ 10000000) (b : Blk) (A : Option Addr) (c : Nat) (D : Option Addr) (d : Nat) (hb : BlkK w b A c D d) (hf : FewQ b) (hS : ∀ k, w.heap.size ≤ k → S k) : Calls Try.prog 21 #[.pointer (some ⟨g, 0, none⟩), agB b A c D d] w (ApP (appE L b) (appL L b) g S w) := by
  have hx0 := heap_alloc_new w (.cells #[.int .i64 b.h, .string (strB b.prev), .slice A b.reqs.length c, .slice D b.ress.length d] 33)
  have hB0 := alloc1B w (.cells #[.int .i64 b.h, .string (strB b.prev), .slice A b.reqs.length c, .slice D b.ress.length d] 33)
  have HH := Lib.hid (fun W => has_any g W)
  have HCK := Lib.hid (fun W => bCheck_any b A c D d W (by have := hf.q; unfold maxLen; omega) (by have := hf.r; unfold maxLen; omega))
  have h' := h.mono (S' := fun k => k < w.heap.size ∧ S k) (fun k hk hs => ⟨hk, hs⟩)
  have HL := Lib.hid (fun W (hb : Below w.heap.size w W) => h'.below hb)
  have HS := Lib.hid hS
  have HG := Lib.hid hg
  have HB := Lib.hid (fun W (h : Below w.heap.size w W) => cloneB_any b A c D d W (hb.below h) hf)
  have hbnd := hg.b
  have hlen := h.len
  have hn1 := hg.n
  generalize hw0 : (w.alloc (.cells #[.int .i64 b.h, .string (strB b.prev), .slice A b.reqs.length c, .slice D b.ress.length d] 33)) = w0 at *
  have HW0 := Lib.hid hw0
  have HX0 := Lib.hid hx0
  have HB0 := Lib.hid hB0
  have hfin : ∀ x W, Below w0.heap.size w0 W → ApP x L g S w (.returned (.int .i64 x)) W := fun x W hbl => ⟨v, qs, rfl, (HL.out W (bel2M HB0.out hbl)).mono (fun k _ hk => hk.2), Off.of_below (bel2M HB0.out hbl)⟩
  have HFIN := Lib.hid hfin
  obtain ⟨x0, x1, x2, x3, x4⟩ := rows4 hx0
  obtain ⟨z0, z1, z2, z3, z4⟩ := (HL.out w0 hB0).rowP
  have HGL := Lib.hid h.lt
  clear h h' hg hb hf hS hx0 hB0 hfin hw0
  by_cases hc : checkB b ≠ 0
  · have e1 : appE L b = checkB b := if_pos hc
    rw [appL_no (by rw [e1]; exact hc), e1]
    have hn : (checkB b != 0) = true := by simpa using hc
    clear hc e1
    generalize checkB b = xb at *
    go_enter Try.func21, Try.ntmps21
    go_upto_region 1 with fail
    rw [HW0.out]
    go_wp2_with (first
    | (go_at_call 43; refine (HH.out _).mono ?_; rintro e w1 ⟨rfl, hww⟩; rw [hww]; clear hww w1)
      | (go_at_call 46; refine (HCK.out _).mono ?_; rintro e w1 ⟨rfl, hb1⟩; have HB1 := Lib.hid hb1; clear hb1))
    go_ret
    exact HFIN.out _ _ HB1.out
  have hc0 : checkB b = 0 := Classical.not_not.1 hc
  rw [hc0] at HCK
  have hsum : IntKind.i64.wrap (topL L + 1) = topL L + 1 := by rw [IntKind.wrap_i64]; unfold topL at hbnd ⊢; omega
  have HHT := Lib.hid (fun W (hb : Below w.heap.size w W) => lHeight_any (HL.out W hb) HG.out)
  by_cases ht : b.h ≠ topL L + 1
  · have e1 : appE L b = 100 := by unfold appE; rw [if_neg hc, if_pos ht]
    rw [appL_no (by rw [e1]; decide), e1]
    have hn : (b.h != topL L + 1) = true := by simpa using ht
    clear hc e1 ht hc0
    generalize topL L = tp at *
    go_enter Try.func21, Try.ntmps21
    go_upto_region 1 with fail
    rw [HW0.out]
    go_upto_region 6 with (first
    | (go_at_call 43; refine (HH.out _).mono ?_; rintro e w1 ⟨rfl, hww⟩; rw [hww]; clear hww w1)
      | (go_at_call 46; refine (HCK.out _).mono ?_; rintro e w1 ⟨rfl, hb1⟩; have HB1 := Lib.hid hb1; clear hb1))
    have HBC := Lib.hid (show Below w0.heap.size w0 w1.drew from HB1.out.drew)
    go_region_held3 (fun W => W.cell? ⟨w.heap.size, 0, none⟩ = some (.int .i64 b.h)) (first | exact rowCell (heapB HX0.out HBC.out) 0 _ rfl) (first
      | (go_at_call 18; refine (HHT.out _ (bel2M HB0.out HBC.out)).mono ?_; rintro e w2 ⟨rfl, hb2⟩; replace HBC := Lib.hid (bel2M HBC.out hb2); clear hb2))
    go_wp2
    go_ret
    exact HFIN.out _ _ HBC.out
  have ht0 : b.h = topL L + 1 := Classical.not_not.1 ht
  have hn0 : (b.h != topL L + 1) = false := by simp [ht0]
  have HHD := Lib.hid (fun W (hb : Below w.heap.size w W) => lHead_any (HL.out W hb) HG.out hK)
  by_cases hp : b.prev ≠ headL L
  · have e1 : appE L b = 101 := by unfold appE; rw [if_neg hc, if_neg ht, if_pos hp]
    rw [appL_no (by rw [e1]; decide), e1]
    have hst := strB_ne hp
    clear hc e1 ht hc0 ht0 hp
    generalize topL L = tp at *
    generalize headL L = hd at *
    go_enter Try.func21, Try.ntmps21
    go_upto_region 1 with fail
    rw [HW0.out]
    go_upto_region 6 with (first
    | (go_at_call 43; refine (HH.out _).mono ?_; rintro e w1 ⟨rfl, hww⟩; rw [hww]; clear hww w1)
      | (go_at_call 46; refine (HCK.out _).mono ?_; rintro e w1 ⟨rfl, hb1⟩; have HB1 := Lib.hid hb1; clear hb1))
    have HBC := Lib.hid (show Below w0.heap.size w0 w1.drew from HB1.out.drew)
    go_region_held3 (fun W => W.cell? ⟨w.heap.size, 0, none⟩ = some (.int .i64 b.h)) (first | exact rowCell (heapB HX0.out HBC.out) 0 _ rfl) (first
      | (go_at_call 18; refine (HHT.out _ (bel2M HB0.out HBC.out)).mono ?_; rintro e w2 ⟨rfl, hb2⟩; replace HBC := Lib.hid (bel2M HBC.out hb2); clear hb2))
    go_upto_region 8 with fail
    replace HBC := Lib.hid HBC.out.drew
    go_region_held3 (fun W => W.cell? ⟨w.heap.size, 1, none⟩ = some (.string (strB b.prev))) (first | exact rowCell (heapB HX0.out HBC.out) 1 _ rfl) (first
      | (go_at_call 19; refine (HHD.out _ (bel2M HB0.out HBC.out)).mono ?_; rintro e w3 ⟨rfl, hb3⟩; replace HBC := Lib.hid (bel2M HBC.out hb3); clear hb3))
    go_wp2
    go_ret
    exact HFIN.out _ _ HBC.out
  have hp0 : b.prev = headL L := Classical.not_not.1 hp
  have e1 : appE L b = 0 := by unfold appE; rw [if_neg hc, if_neg ht, if_neg hp]
  rw [appL_yes e1, e1]
  rw [← hp0] at HHD
  obtain ⟨i1, hj, hy0, hy1, hy2⟩ := info_parts infoBk
  obtain ⟨AV, cV, rfl⟩ := own_slice (HL.out w0 HB0.out).row
  have hq1000 : qs.length ≤ 1000000 := by omega
  clear hc e1 ht hc0 ht0 hp hp0 hbnd hlen hn1
  generalize topL L = tp at *
  go_enter Try.func21, Try.ntmps21
  go_upto_region 1 with fail
  rw [HW0.out]
  go_upto_region 6 with (first
    | (go_at_call 43; refine (HH.out _).mono ?_; rintro e w1 ⟨rfl, hww⟩; rw [hww]; clear hww w1)
    | (go_at_call 46; refine (HCK.out _).mono ?_; rintro e w1 ⟨rfl, hb1⟩; have HB1 := Lib.hid hb1; clear hb1))
  have HBC := Lib.hid (show Below w0.heap.size w0 w1.drew from HB1.out.drew)
  go_region_held3 (fun W => W.cell? ⟨w.heap.size, 0, none⟩ = some (.int .i64 b.h)) (first | exact rowCell (heapB HX0.out HBC.out) 0 _ rfl) (first
    | (go_at_call 18; refine (HHT.out _ (bel2M HB0.out HBC.out)).mono ?_; rintro e w2 ⟨rfl, hb2⟩; replace HBC := Lib.hid (bel2M HBC.out hb2); clear hb2))
  go_upto_region 8 with fail
  replace HBC := Lib.hid HBC.out.drew
  go_region_held3 (fun W => W.cell? ⟨w.heap.size, 1, none⟩ = some (.string (strB b.prev))) (first | exact rowCell (heapB HX0.out HBC.out) 1 _ rfl) (first
    | (go_at_call 19; refine (HHD.out _ (bel2M HB0.out HBC.out)).mono ?_; rintro e w3 ⟨rfl, hb3⟩; replace HBC := Lib.hid (bel2M HBC.out hb3); clear hb3))
  go_upto_region 10 with fail
  clear x0 x1 x2 x3 x4 z0 z1 z2 z3 z4
  go_cut [28] from 28 to 38 (fun s wx => ∃ v' qs', s = .pointer (some ⟨g, 0, none⟩) ∧ LgP S wx g ⟨L.base, L.dig, L.bl ++ [b]⟩ v' qs' ∧ Off S w wx)
  case first =>
    replace HBC := Lib.hid HBC.out.drew
    have HDR := Lib.hid (show Below w3.heap.size w3 w3.drew from (Below.refl _ _).drew)
    have HKS := Lib.hid (show ∀ W, Below w0.heap.size w0 W → (fun W => W.cell? ⟨w.heap.size, 0, none⟩ = some (.int .i64 b.h) ∧ W.cell? ⟨w.heap.size, 1, none⟩ = some (.string (strB b.prev)) ∧ W.cell? ⟨w.heap.size, 2, none⟩ = some (.slice A b.reqs.length c) ∧ W.cell? ⟨w.heap.size, 3, none⟩ = some (.slice D b.ress.length d)) W from fun W hW => by obtain ⟨e0, e1, e2, e3, -⟩ := rows4 (heapB HX0.out hW); exact ⟨e0, e1, e2, e3⟩)
    obtain ⟨z0, z1, z2, z3, z4⟩ := (HL.out _ (bel2M HB0.out HBC.out)).rowP
    refine wp_region_held_drew (S := (fun W => W.cell? ⟨w.heap.size, 0, none⟩ = some (.int .i64 b.h) ∧ W.cell? ⟨w.heap.size, 1, none⟩ = some (.string (strB b.prev)) ∧ W.cell? ⟨w.heap.size, 2, none⟩ = some (.slice A b.reqs.length c) ∧ W.cell? ⟨w.heap.size, 3, none⟩ = some (.slice D b.ress.length d))) (by kernel_rfl) (HKS.out _ HBC.out) (fun hHeld => ?_)
    refine tk 0 ?_
    (try simp only [Act.put, sA, sB, sC])
    refine tk 1 ?_
    (try simp only [Act.put, sA, sB, sC])
    refine tk 2 ?_
    (try simp only [Act.put, sA, sB, sC])
    refine tk 3 ?_
    (try simp only [Act.put, sA, sB, sC])
    refine tk 5 ?_
    (try simp only [Act.put, sA, sB, sC])
    refine wpAnyH_ready (rs := [4, 6]) (by kernel_rfl) (by simp) ?_
    refine AllReadyH.cons (o := ?o6) ?g6 (fun K hK => ?j6) (AllReadyH.cons (o := ?o7) ?g7 (fun K hK => ?j7) AllReadyH.nil)
    case g6 => (simp only [gA, gB, gC]; rfl)
    case g7 => (simp only [gA, gB, gC]; rfl)
    ·
     go_simp
     refine hK.out _ _ ?_ (fun hHeld => ?_)
     · (try dsimp only); exact HKS.out _ HBC.out
     clear hK K
     (try simp only [Act.put, sA, sB, sC])
     refine wpAnyH_ready (rs := [6]) (by kernel_rfl) (by simp) ?_
     refine AllReadyH.cons (o := ?o8) ?g8 (fun K hK => ?j8) AllReadyH.nil
     case g8 => (simp only [gA, gB, gC]; rfl)
     go_simp
     (go_at_call 42; refine (HB.out _ (bel2M HB0.out HBC.out)).mono ?_)
     rintro e w4 ⟨A4, c4, D4, d4, rfl, hk4, hb4⟩
     have HK4 := Lib.hid hk4
     have HZ4 := Lib.hid HBC.out.size
     replace HBC := Lib.hid (bel2M HBC.out hb4)
     clear hk4 hb4
     obtain ⟨z0, z1, z2, z3, z4⟩ := (HL.out _ (bel2M HB0.out HBC.out)).rowP
     have HB5 := Lib.hid (alloc1B w4 (.cells #[.int .i64 b.h, .string (strB b.prev), .slice A4 b.reqs.length c4, .slice D4 b.ress.length d4] 33))
     have HX5 := Lib.hid (heap_alloc_new w4 (.cells #[.int .i64 b.h, .string (strB b.prev), .slice A4 b.reqs.length c4, .slice D4 b.ress.length d4] 33))
     have HL5 := Lib.hid (HL.out _ (bel2M HB0.out (bel2M HBC.out HB5.out)))
     obtain ⟨k0, k1, k2, k3, k4⟩ := HL5.out.rowP
     refine hK.out _ _ ?_ (fun hHeld => ?_)
     · (try dsimp only); exact HKS.out _ HBC.out
     clear hK K
     (try simp only [Act.put, sA, sB, sC])
     refine wpAnyH_ready (rs := [7]) (by kernel_rfl) (by simp) ?_
     refine AllReadyH.cons (o := ?o9) ?g9 (fun K hK => ?j9) AllReadyH.nil
     case g9 => (simp only [gA, gB, gC]; rfl)
     go_simp
     refine hK.out _ _ ?_ (fun hHeld => ?_)
     · (try dsimp only); exact HKS.out _ (bel2M HBC.out HB5.out)
     clear hK K
     (try simp only [Act.put, sA, sB, sC])
     refine wpAnyH_ready (rs := [8]) (by kernel_rfl) (by simp) ?_
     refine AllReadyH.cons (o := ?o10) ?g10 (fun K hK => ?j10) AllReadyH.nil
     case g10 => (simp only [gA, gB, gC]; rfl)
     refine step_append_rowsM rfl (.tmp 32) (.tmp 35) 52 rfl 0 33 i1 (.agg #[.int .i64 0, .string ⟨#[]⟩, .slice none 0 0, .slice none 0 0]) 4 72 Try.underlying52 hj hy0 hy1 hy2 rfl (by decide) (.slice AV qs.length cV) qs.length (qs.flatMap kbC) rfl HL5.out.row (.slice (some ⟨w4.heap.size, 0, none⟩) 1 1) 1 (kbC ⟨b, A4, c4, D4, d4⟩) rfl (built4 (q := ⟨b, A4, c4, D4, d4⟩) HX5.out) (kbC_one1 _) (by unfold maxLen; omega) (by omega) (Nat.zero_le _) ?_
     intro v6 w6 hown6 hg6 ho6
     obtain ⟨A6, c6, rfl⟩ := own_slice hown6
     have HO6 := Lib.hid hown6
     have HG6 := Lib.hid hg6
     have HR6 := Lib.hid ho6
     have HH6 := Lib.hid ((hg6.block g HL5.out.lt (fun e => (HL5.out.at_v g e.symm).2 rfl)).trans HL5.out.head)
     have HX6 := Lib.hid ((hg6.block w.heap.size (Nat.lt_of_lt_of_le (Array.getElem?_eq_some_iff.1 HX0.out).1 (bel2M HBC.out HB5.out).size) (fun e => Nat.lt_irrefl _ (HL5.out.at_v _ e.symm).1.1)).trans (heapB HX0.out (bel2M HBC.out HB5.out)))
     clear hown6 hg6 ho6
     obtain ⟨m0, m1, m2, m3, m4⟩ := rows4 HH6.out
     refine hK.out _ _ ?_ (fun hHeld => ?_)
     · (try dsimp only); (obtain ⟨e0, e1, e2, e3, -⟩ := rows4 HX6.out; exact ⟨e0, e1, e2, e3⟩)
     clear hK K
     (try simp only [Act.put, sA, sB, sC])
     refine tk 9 ?_
     (try simp only [Act.put, sA, sB, sC])
     refine tk 10 ?_
     (try simp only [Act.put, sA, sB, sC])
     refine wpAnyH_ready (rs := [11]) (by kernel_rfl) (by simp) ?_
     refine AllReadyH.cons (o := ?o13) ?g13 (fun K hK => ?j13) AllReadyH.nil
     case g13 => (simp only [gA, gB, gC]; rfl)
     go_simp
     refine hK.out _ _ ?_ (fun hHeld => ?_)
     · (try dsimp only); (obtain ⟨e0, e1, e2, e3, -⟩ := rows4 HX6.out; exact ⟨setOtherB e0 (Nat.ne_of_gt HGL.out), setOtherB e1 (Nat.ne_of_gt HGL.out), setOtherB e2 (Nat.ne_of_gt HGL.out), setOtherB e3 (Nat.ne_of_gt HGL.out)⟩)
     clear hK K
     (try simp only [Act.put, sA, sB, sC])
     refine wpAnyH_done (by kernel_rfl) ?_ _
     go_wp2_with fail
     go_meet
     have hz0 := HB0.out.size
     have hz4 := HZ4.out
     have hz5 := HB5.out.size
     have hz6 := HBC.out.size
     refine ⟨_, _, rfl, LgR.push (w := w) HL5.out HS.out (by omega) ((HK4.out.keep hz5 (C' := fun k => w.heap.size ≤ k) fun k hk hc => ⟨HB5.out.block k hk, by have h1 : _ ≤ k := hc; omega⟩)) HO6.out HG6.out HR6.out rfl rfl, ?_⟩
     exact ((Off.of_below (bel2M HB0.out (bel2M HBC.out HB5.out))).trans (Off.of_grown HG6.out (fun k hk => (HL5.out.at_v k hk).1.2))).trans ⟨rfl, rfl, rfl, by simp, fun k hk hn => Go.Deep.blk_setCell_other _ _ _ _ (fun e => hn (by rw [e]; exact HL5.out.at_g.2))⟩
    ·
     go_simp
     (go_at_call 42; refine (HB.out _ (bel2M HB0.out HBC.out)).mono ?_)
     rintro e w4 ⟨A4, c4, D4, d4, rfl, hk4, hb4⟩
     have HK4 := Lib.hid hk4
     have HZ4 := Lib.hid HBC.out.size
     replace HBC := Lib.hid (bel2M HBC.out hb4)
     clear hk4 hb4
     obtain ⟨z0, z1, z2, z3, z4⟩ := (HL.out _ (bel2M HB0.out HBC.out)).rowP
     have HB5 := Lib.hid (alloc1B w4 (.cells #[.int .i64 b.h, .string (strB b.prev), .slice A4 b.reqs.length c4, .slice D4 b.ress.length d4] 33))
     have HX5 := Lib.hid (heap_alloc_new w4 (.cells #[.int .i64 b.h, .string (strB b.prev), .slice A4 b.reqs.length c4, .slice D4 b.ress.length d4] 33))
     have HL5 := Lib.hid (HL.out _ (bel2M HB0.out (bel2M HBC.out HB5.out)))
     obtain ⟨k0, k1, k2, k3, k4⟩ := HL5.out.rowP
     refine hK.out _ _ ?_ (fun hHeld => ?_)
     · (try dsimp only); exact HKS.out _ HBC.out
     clear hK K
     (try simp only [Act.put, sA, sB, sC])
     refine wpAnyH_ready (rs := [4, 7]) (by kernel_rfl) (by simp) ?_
     refine AllReadyH.cons (o := ?o14) ?g14 (fun K hK => ?j14) (AllReadyH.cons (o := ?o15) ?g15 (fun K hK => ?j15) AllReadyH.nil)
     case g14 => (simp only [gA, gB, gC]; rfl)
     case g15 => (simp only [gA, gB, gC]; rfl)
     ·
      go_simp
      refine hK.out _ _ ?_ (fun hHeld => ?_)
      · (try dsimp only); exact HKS.out _ HBC.out
      clear hK K
      (try simp only [Act.put, sA, sB, sC])
      refine wpAnyH_ready (rs := [7]) (by kernel_rfl) (by simp) ?_
      refine AllReadyH.cons (o := ?o16) ?g16 (fun K hK => ?j16) AllReadyH.nil
      case g16 => (simp only [gA, gB, gC]; rfl)
      go_simp
      refine hK.out _ _ ?_ (fun hHeld => ?_)
      · (try dsimp only); exact HKS.out _ (bel2M HBC.out HB5.out)
      clear hK K
      (try simp only [Act.put, sA, sB, sC])
      refine wpAnyH_ready (rs := [8]) (by kernel_rfl) (by simp) ?_
      refine AllReadyH.cons (o := ?o17) ?g17 (fun K hK => ?j17) AllReadyH.nil
      case g17 => (simp only [gA, gB, gC]; rfl)
      refine step_append_rowsM rfl (.tmp 32) (.tmp 35) 52 rfl 0 33 i1 (.agg #[.int .i64 0, .string ⟨#[]⟩, .slice none 0 0, .slice none 0 0]) 4 72 Try.underlying52 hj hy0 hy1 hy2 rfl (by decide) (.slice AV qs.length cV) qs.length (qs.flatMap kbC) rfl HL5.out.row (.slice (some ⟨w4.heap.size, 0, none⟩) 1 1) 1 (kbC ⟨b, A4, c4, D4, d4⟩) rfl (built4 (q := ⟨b, A4, c4, D4, d4⟩) HX5.out) (kbC_one1 _) (by unfold maxLen; omega) (by omega) (Nat.zero_le _) ?_
      intro v6 w6 hown6 hg6 ho6
      obtain ⟨A6, c6, rfl⟩ := own_slice hown6
      have HO6 := Lib.hid hown6
      have HG6 := Lib.hid hg6
      have HR6 := Lib.hid ho6
      have HH6 := Lib.hid ((hg6.block g HL5.out.lt (fun e => (HL5.out.at_v g e.symm).2 rfl)).trans HL5.out.head)
      have HX6 := Lib.hid ((hg6.block w.heap.size (Nat.lt_of_lt_of_le (Array.getElem?_eq_some_iff.1 HX0.out).1 (bel2M HBC.out HB5.out).size) (fun e => Nat.lt_irrefl _ (HL5.out.at_v _ e.symm).1.1)).trans (heapB HX0.out (bel2M HBC.out HB5.out)))
      clear hown6 hg6 ho6
      obtain ⟨m0, m1, m2, m3, m4⟩ := rows4 HH6.out
      refine hK.out _ _ ?_ (fun hHeld => ?_)
      · (try dsimp only); (obtain ⟨e0, e1, e2, e3, -⟩ := rows4 HX6.out; exact ⟨e0, e1, e2, e3⟩)
      clear hK K
      (try simp only [Act.put, sA, sB, sC])
      refine tk 9 ?_
      (try simp only [Act.put, sA, sB, sC])
      refine tk 10 ?_
      (try simp only [Act.put, sA, sB, sC])
      refine wpAnyH_ready (rs := [11]) (by kernel_rfl) (by simp) ?_
      refine AllReadyH.cons (o := ?o20) ?g20 (fun K hK => ?j20) AllReadyH.nil
      case g20 => (simp only [gA, gB, gC]; rfl)
      go_simp
      refine hK.out _ _ ?_ (fun hHeld => ?_)
      · (try dsimp only); (obtain ⟨e0, e1, e2, e3, -⟩ := rows4 HX6.out; exact ⟨setOtherB e0 (Nat.ne_of_gt HGL.out), setOtherB e1 (Nat.ne_of_gt HGL.out), setOtherB e2 (Nat.ne_of_gt HGL.out), setOtherB e3 (Nat.ne_of_gt HGL.out)⟩)
      clear hK K
      (try simp only [Act.put, sA, sB, sC])
      refine wpAnyH_done (by kernel_rfl) ?_ _
      go_wp2_with fail
      go_meet
      have hz0 := HB0.out.size
      have hz4 := HZ4.out
      have hz5 := HB5.out.size
      have hz6 := HBC.out.size
      refine ⟨_, _, rfl, LgR.push (w := w) HL5.out HS.out (by omega) ((HK4.out.keep hz5 (C' := fun k => w.heap.size ≤ k) fun k hk hc => ⟨HB5.out.block k hk, by have h1 : _ ≤ k := hc; omega⟩)) HO6.out HG6.out HR6.out rfl rfl, ?_⟩
      exact ((Off.of_below (bel2M HB0.out (bel2M HBC.out HB5.out))).trans (Off.of_grown HG6.out (fun k hk => (HL5.out.at_v k hk).1.2))).trans ⟨rfl, rfl, rfl, by simp, fun k hk hn => Go.Deep.blk_setCell_other _ _ _ _ (fun e => hn (by rw [e]; exact HL5.out.at_g.2))⟩
     ·
      go_simp
      refine hK.out _ _ ?_ (fun hHeld => ?_)
      · (try dsimp only); exact HKS.out _ (bel2M HBC.out HB5.out)
      clear hK K
      (try simp only [Act.put, sA, sB, sC])
      refine wpAnyH_ready (rs := [4]) (by kernel_rfl) (by simp) ?_
      refine AllReadyH.cons (o := ?o21) ?g21 (fun K hK => ?j21) AllReadyH.nil
      case g21 => (simp only [gA, gB, gC]; rfl)
      go_simp
      refine hK.out _ _ ?_ (fun hHeld => ?_)
      · (try dsimp only); exact HKS.out _ (bel2M HBC.out HB5.out)
      clear hK K
      (try simp only [Act.put, sA, sB, sC])
      refine wpAnyH_ready (rs := [8]) (by kernel_rfl) (by simp) ?_
      refine AllReadyH.cons (o := ?o22) ?g22 (fun K hK => ?j22) AllReadyH.nil
      case g22 => (simp only [gA, gB, gC]; rfl)
      refine step_append_rowsM rfl (.tmp 32) (.tmp 35) 52 rfl 0 33 i1 (.agg #[.int .i64 0, .string ⟨#[]⟩, .slice none 0 0, .slice none 0 0]) 4 72 Try.underlying52 hj hy0 hy1 hy2 rfl (by decide) (.slice AV qs.length cV) qs.length (qs.flatMap kbC) rfl HL5.out.row (.slice (some ⟨w4.heap.size, 0, none⟩) 1 1) 1 (kbC ⟨b, A4, c4, D4, d4⟩) rfl (built4 (q := ⟨b, A4, c4, D4, d4⟩) HX5.out) (kbC_one1 _) (by unfold maxLen; omega) (by omega) (Nat.zero_le _) ?_
      intro v6 w6 hown6 hg6 ho6
      obtain ⟨A6, c6, rfl⟩ := own_slice hown6
      have HO6 := Lib.hid hown6
      have HG6 := Lib.hid hg6
      have HR6 := Lib.hid ho6
      have HH6 := Lib.hid ((hg6.block g HL5.out.lt (fun e => (HL5.out.at_v g e.symm).2 rfl)).trans HL5.out.head)
      have HX6 := Lib.hid ((hg6.block w.heap.size (Nat.lt_of_lt_of_le (Array.getElem?_eq_some_iff.1 HX0.out).1 (bel2M HBC.out HB5.out).size) (fun e => Nat.lt_irrefl _ (HL5.out.at_v _ e.symm).1.1)).trans (heapB HX0.out (bel2M HBC.out HB5.out)))
      clear hown6 hg6 ho6
      obtain ⟨m0, m1, m2, m3, m4⟩ := rows4 HH6.out
      refine hK.out _ _ ?_ (fun hHeld => ?_)
      · (try dsimp only); (obtain ⟨e0, e1, e2, e3, -⟩ := rows4 HX6.out; exact ⟨e0, e1, e2, e3⟩)
      clear hK K
      (try simp only [Act.put, sA, sB, sC])
      refine tk 9 ?_
      (try simp only [Act.put, sA, sB, sC])
      refine tk 10 ?_
      (try simp only [Act.put, sA, sB, sC])
      refine wpAnyH_ready (rs := [11]) (by kernel_rfl) (by simp) ?_
      refine AllReadyH.cons (o := ?o25) ?g25 (fun K hK => ?j25) AllReadyH.nil
      case g25 => (simp only [gA, gB, gC]; rfl)
      go_simp
      refine hK.out _ _ ?_ (fun hHeld => ?_)
      · (try dsimp only); (obtain ⟨e0, e1, e2, e3, -⟩ := rows4 HX6.out; exact ⟨setOtherB e0 (Nat.ne_of_gt HGL.out), setOtherB e1 (Nat.ne_of_gt HGL.out), setOtherB e2 (Nat.ne_of_gt HGL.out), setOtherB e3 (Nat.ne_of_gt HGL.out)⟩)
      clear hK K
      (try simp only [Act.put, sA, sB, sC])
      refine wpAnyH_done (by kernel_rfl) ?_ _
      go_wp2_with fail
      go_meet
      have hz0 := HB0.out.size
      have hz4 := HZ4.out
      have hz5 := HB5.out.size
      have hz6 := HBC.out.size
      refine ⟨_, _, rfl, LgR.push (w := w) HL5.out HS.out (by omega) ((HK4.out.keep hz5 (C' := fun k => w.heap.size ≤ k) fun k hk hc => ⟨HB5.out.block k hk, by have h1 : _ ≤ k := hc; omega⟩)) HO6.out HG6.out HR6.out rfl rfl, ?_⟩
      exact ((Off.of_below (bel2M HB0.out (bel2M HBC.out HB5.out))).trans (Off.of_grown HG6.out (fun k hk => (HL5.out.at_v k hk).1.2))).trans ⟨rfl, rfl, rfl, by simp, fun k hk hn => Go.Deep.blk_setCell_other _ _ _ _ (fun e => hn (by rw [e]; exact HL5.out.at_g.2))⟩
  case rest =>
    obtain ⟨v7, qs7, -, hL7, hO7⟩ := hcut
    go_wp2
    go_ret
    exact ⟨v7, qs7, rfl, hL7, hO7⟩

set_option maxHeartbeats 4000000 in
theorem rlAppend_any {S : Nat → Prop} {w : World} {g : Nat} {L : Ldg} {v : Value} {qs : List KB} (h : LgD S w g L v qs) {K : Nat} (hg : GoodL K L) (hK : K ≤ 10000000) (b : Blk) (A : Option Addr) (c : Nat) (D : Option Addr) (d : Nat) (hb : BlkK w b A c D d) (hf : FewQ b) (hS : ∀ k, w.heap.size ≤ k → S k) : Calls Try.prog 39 #[.pointer (some ⟨g, 0, none⟩), agB b A c D d] w (ApD (appE L b) (appL L b) g S w) := by
  have hx0 := heap_alloc_new w (.cells #[.int .i64 b.h, .string (strB b.prev), .slice A b.reqs.length c, .slice D b.ress.length d] 33)
  have hB0 := alloc1B w (.cells #[.int .i64 b.h, .string (strB b.prev), .slice A b.reqs.length c, .slice D b.ress.length d] 33)
  have HCK := Lib.hid (fun W => rbCheck_any b A c D d W (by have := hf.q; unfold maxLen; omega) (by have := hf.r; unfold maxLen; omega))
  have h' := h.mono (S' := fun k => k < w.heap.size ∧ S k) (fun k hk hs => ⟨hk, hs⟩)
  have HL := Lib.hid (fun W (hb : Below w.heap.size w W) => h'.below hb)
  have HS := Lib.hid hS
  have HG := Lib.hid hg
  have HB := Lib.hid (fun W (h : Below w.heap.size w W) => rtwinB_any b A c D d W (hb.below h) hf)
  have hbnd := hg.b
  have hlen := h.len
  have hn1 := hg.n
  generalize hw0 : (w.alloc (.cells #[.int .i64 b.h, .string (strB b.prev), .slice A b.reqs.length c, .slice D b.ress.length d] 33)) = w0 at *
  have HW0 := Lib.hid hw0
  have HX0 := Lib.hid hx0
  have HB0 := Lib.hid hB0
  have hfin : ∀ x W, Below w0.heap.size w0 W → ApD x L g S w (.returned (.int .i64 x)) W := fun x W hbl => ⟨v, qs, rfl, (HL.out W (bel2M HB0.out hbl)).mono (fun k _ hk => hk.2), Off.of_below (bel2M HB0.out hbl)⟩
  have HFIN := Lib.hid hfin
  obtain ⟨x0, x1, x2, x3, x4⟩ := rows4 hx0
  obtain ⟨z0, z1, z2, z3, z4⟩ := (HL.out w0 hB0).rowD
  have HGL := Lib.hid h.lt
  clear h h' hg hb hf hS hx0 hB0 hfin hw0
  by_cases hc : checkB b ≠ 0
  · have e1 : appE L b = checkB b := if_pos hc
    rw [appL_no (by rw [e1]; exact hc), e1]
    have hn : (checkB b != 0) = true := by simpa using hc
    clear hc e1
    generalize checkB b = xb at *
    go_enter Try.func39, Try.ntmps39
    go_upto_region 1 with fail
    rw [HW0.out]
    go_wp2_with (first
      | (go_at_call 67; refine (HCK.out _).mono ?_; rintro e w1 ⟨rfl, hb1⟩; have HB1 := Lib.hid hb1; clear hb1))
    go_ret
    exact HFIN.out _ _ HB1.out
  have hc0 : checkB b = 0 := Classical.not_not.1 hc
  rw [hc0] at HCK
  have hsum : IntKind.i64.wrap (topL L + 1) = topL L + 1 := by rw [IntKind.wrap_i64]; unfold topL at hbnd ⊢; omega
  have HHT := Lib.hid (fun W (hb : Below w.heap.size w W) => rlHeight_any (HL.out W hb) HG.out)
  by_cases ht : b.h ≠ topL L + 1
  · have e1 : appE L b = 100 := by unfold appE; rw [if_neg hc, if_pos ht]
    rw [appL_no (by rw [e1]; decide), e1]
    have hn : (b.h != topL L + 1) = true := by simpa using ht
    clear hc e1 ht hc0
    generalize topL L = tp at *
    go_enter Try.func39, Try.ntmps39
    go_upto_region 1 with fail
    rw [HW0.out]
    go_upto_region 6 with (first
      | (go_at_call 67; refine (HCK.out _).mono ?_; rintro e w1 ⟨rfl, hb1⟩; have HB1 := Lib.hid hb1; clear hb1))
    have HBC := Lib.hid (show Below w0.heap.size w0 w1.drew from HB1.out.drew)
    go_region_held3 (fun W => W.cell? ⟨w.heap.size, 0, none⟩ = some (.int .i64 b.h)) (first | exact rowCell (heapB HX0.out HBC.out) 0 _ rfl) (first
      | (go_at_call 37; refine (HHT.out _ (bel2M HB0.out HBC.out)).mono ?_; rintro e w2 ⟨rfl, hb2⟩; replace HBC := Lib.hid (bel2M HBC.out hb2); clear hb2))
    go_wp2
    go_ret
    exact HFIN.out _ _ HBC.out
  have ht0 : b.h = topL L + 1 := Classical.not_not.1 ht
  have hn0 : (b.h != topL L + 1) = false := by simp [ht0]
  have HHD := Lib.hid (fun W (hb : Below w.heap.size w W) => rlHead_any (HL.out W hb) HG.out hK)
  by_cases hp : b.prev ≠ headL L
  · have e1 : appE L b = 101 := by unfold appE; rw [if_neg hc, if_neg ht, if_pos hp]
    rw [appL_no (by rw [e1]; decide), e1]
    have hst := strB_ne hp
    clear hc e1 ht hc0 ht0 hp
    generalize topL L = tp at *
    generalize headL L = hd at *
    go_enter Try.func39, Try.ntmps39
    go_upto_region 1 with fail
    rw [HW0.out]
    go_upto_region 6 with (first
      | (go_at_call 67; refine (HCK.out _).mono ?_; rintro e w1 ⟨rfl, hb1⟩; have HB1 := Lib.hid hb1; clear hb1))
    have HBC := Lib.hid (show Below w0.heap.size w0 w1.drew from HB1.out.drew)
    go_region_held3 (fun W => W.cell? ⟨w.heap.size, 0, none⟩ = some (.int .i64 b.h)) (first | exact rowCell (heapB HX0.out HBC.out) 0 _ rfl) (first
      | (go_at_call 37; refine (HHT.out _ (bel2M HB0.out HBC.out)).mono ?_; rintro e w2 ⟨rfl, hb2⟩; replace HBC := Lib.hid (bel2M HBC.out hb2); clear hb2))
    go_upto_region 8 with fail
    replace HBC := Lib.hid HBC.out.drew
    go_region_held3 (fun W => W.cell? ⟨w.heap.size, 1, none⟩ = some (.string (strB b.prev))) (first | exact rowCell (heapB HX0.out HBC.out) 1 _ rfl) (first
      | (go_at_call 38; refine (HHD.out _ (bel2M HB0.out HBC.out)).mono ?_; rintro e w3 ⟨rfl, hb3⟩; replace HBC := Lib.hid (bel2M HBC.out hb3); clear hb3))
    go_wp2
    go_ret
    exact HFIN.out _ _ HBC.out
  have hp0 : b.prev = headL L := Classical.not_not.1 hp
  have e1 : appE L b = 0 := by unfold appE; rw [if_neg hc, if_neg ht, if_neg hp]
  rw [appL_yes e1, e1]
  rw [← hp0] at HHD
  obtain ⟨i1, hj, hy0, hy1, hy2⟩ := info_parts infoBk
  obtain ⟨AV, cV, rfl⟩ := own_slice (HL.out w0 HB0.out).row
  have hq1000 : qs.length ≤ 1000000 := by omega
  clear hc e1 ht hc0 ht0 hp hp0 hbnd hlen hn1
  generalize topL L = tp at *
  go_enter Try.func39, Try.ntmps39
  go_upto_region 1 with fail
  rw [HW0.out]
  go_upto_region 6 with (first
    | (go_at_call 67; refine (HCK.out _).mono ?_; rintro e w1 ⟨rfl, hb1⟩; have HB1 := Lib.hid hb1; clear hb1))
  have HBC := Lib.hid (show Below w0.heap.size w0 w1.drew from HB1.out.drew)
  go_region_held3 (fun W => W.cell? ⟨w.heap.size, 0, none⟩ = some (.int .i64 b.h)) (first | exact rowCell (heapB HX0.out HBC.out) 0 _ rfl) (first
    | (go_at_call 37; refine (HHT.out _ (bel2M HB0.out HBC.out)).mono ?_; rintro e w2 ⟨rfl, hb2⟩; replace HBC := Lib.hid (bel2M HBC.out hb2); clear hb2))
  go_upto_region 8 with fail
  replace HBC := Lib.hid HBC.out.drew
  go_region_held3 (fun W => W.cell? ⟨w.heap.size, 1, none⟩ = some (.string (strB b.prev))) (first | exact rowCell (heapB HX0.out HBC.out) 1 _ rfl) (first
    | (go_at_call 38; refine (HHD.out _ (bel2M HB0.out HBC.out)).mono ?_; rintro e w3 ⟨rfl, hb3⟩; replace HBC := Lib.hid (bel2M HBC.out hb3); clear hb3))
  go_upto_region 10 with fail
  clear x0 x1 x2 x3 x4 z0 z1 z2 z3 z4
  go_cut [27] from 27 to 37 (fun s wx => ∃ v' qs', s = .pointer (some ⟨g, 0, none⟩) ∧ LgD S wx g ⟨L.base, L.dig, L.bl ++ [b]⟩ v' qs' ∧ Off S w wx)
  case first =>
    replace HBC := Lib.hid HBC.out.drew
    have HDR := Lib.hid (show Below w3.heap.size w3 w3.drew from (Below.refl _ _).drew)
    have HKS := Lib.hid (show ∀ W, Below w0.heap.size w0 W → (fun W => W.cell? ⟨w.heap.size, 0, none⟩ = some (.int .i64 b.h) ∧ W.cell? ⟨w.heap.size, 1, none⟩ = some (.string (strB b.prev)) ∧ W.cell? ⟨w.heap.size, 2, none⟩ = some (.slice A b.reqs.length c) ∧ W.cell? ⟨w.heap.size, 3, none⟩ = some (.slice D b.ress.length d)) W from fun W hW => by obtain ⟨e0, e1, e2, e3, -⟩ := rows4 (heapB HX0.out hW); exact ⟨e0, e1, e2, e3⟩)
    obtain ⟨z0, z1, z2, z3, z4⟩ := (HL.out _ (bel2M HB0.out HBC.out)).rowD
    refine wp_region_held_drew (S := (fun W => W.cell? ⟨w.heap.size, 0, none⟩ = some (.int .i64 b.h) ∧ W.cell? ⟨w.heap.size, 1, none⟩ = some (.string (strB b.prev)) ∧ W.cell? ⟨w.heap.size, 2, none⟩ = some (.slice A b.reqs.length c) ∧ W.cell? ⟨w.heap.size, 3, none⟩ = some (.slice D b.ress.length d))) (by kernel_rfl) (HKS.out _ HBC.out) (fun hHeld => ?_)
    refine tk 0 ?_
    (try simp only [Act.put, sA, sB, sC])
    refine tk 1 ?_
    (try simp only [Act.put, sA, sB, sC])
    refine tk 2 ?_
    (try simp only [Act.put, sA, sB, sC])
    refine tk 3 ?_
    (try simp only [Act.put, sA, sB, sC])
    refine tk 5 ?_
    (try simp only [Act.put, sA, sB, sC])
    refine wpAnyH_ready (rs := [4, 6]) (by kernel_rfl) (by simp) ?_
    refine AllReadyH.cons (o := ?o6) ?g6 (fun K hK => ?j6) (AllReadyH.cons (o := ?o7) ?g7 (fun K hK => ?j7) AllReadyH.nil)
    case g6 => (simp only [gA, gB, gC]; rfl)
    case g7 => (simp only [gA, gB, gC]; rfl)
    ·
     go_simp
     refine hK.out _ _ ?_ (fun hHeld => ?_)
     · (try dsimp only); exact HKS.out _ HBC.out
     clear hK K
     (try simp only [Act.put, sA, sB, sC])
     refine wpAnyH_ready (rs := [6]) (by kernel_rfl) (by simp) ?_
     refine AllReadyH.cons (o := ?o8) ?g8 (fun K hK => ?j8) AllReadyH.nil
     case g8 => (simp only [gA, gB, gC]; rfl)
     go_simp
     (go_at_call 68; refine (HB.out _ (bel2M HB0.out HBC.out)).mono ?_)
     rintro e w4 ⟨A4, c4, D4, d4, rfl, hk4, hb4⟩
     have HK4 := Lib.hid hk4
     have HZ4 := Lib.hid HBC.out.size
     replace HBC := Lib.hid (bel2M HBC.out hb4)
     clear hk4 hb4
     obtain ⟨z0, z1, z2, z3, z4⟩ := (HL.out _ (bel2M HB0.out HBC.out)).rowD
     have HB5 := Lib.hid (alloc1B w4 (.cells #[.int .i64 b.h, .string (strB b.prev), .slice A4 b.reqs.length c4, .slice D4 b.ress.length d4] 33))
     have HX5 := Lib.hid (heap_alloc_new w4 (.cells #[.int .i64 b.h, .string (strB b.prev), .slice A4 b.reqs.length c4, .slice D4 b.ress.length d4] 33))
     have HL5 := Lib.hid (HL.out _ (bel2M HB0.out (bel2M HBC.out HB5.out)))
     obtain ⟨k0, k1, k2, k3, k4⟩ := HL5.out.rowD
     refine hK.out _ _ ?_ (fun hHeld => ?_)
     · (try dsimp only); exact HKS.out _ HBC.out
     clear hK K
     (try simp only [Act.put, sA, sB, sC])
     refine wpAnyH_ready (rs := [7]) (by kernel_rfl) (by simp) ?_
     refine AllReadyH.cons (o := ?o9) ?g9 (fun K hK => ?j9) AllReadyH.nil
     case g9 => (simp only [gA, gB, gC]; rfl)
     go_simp
     refine hK.out _ _ ?_ (fun hHeld => ?_)
     · (try dsimp only); exact HKS.out _ (bel2M HBC.out HB5.out)
     clear hK K
     (try simp only [Act.put, sA, sB, sC])
     refine wpAnyH_ready (rs := [8]) (by kernel_rfl) (by simp) ?_
     refine AllReadyH.cons (o := ?o10) ?g10 (fun K hK => ?j10) AllReadyH.nil
     case g10 => (simp only [gA, gB, gC]; rfl)
     refine step_append_rowsM rfl (.tmp 31) (.tmp 34) 52 rfl 0 33 i1 (.agg #[.int .i64 0, .string ⟨#[]⟩, .slice none 0 0, .slice none 0 0]) 4 72 Try.underlying52 hj hy0 hy1 hy2 rfl (by decide) (.slice AV qs.length cV) qs.length (qs.flatMap kbC) rfl HL5.out.row (.slice (some ⟨w4.heap.size, 0, none⟩) 1 1) 1 (kbC ⟨b, A4, c4, D4, d4⟩) rfl (built4 (q := ⟨b, A4, c4, D4, d4⟩) HX5.out) (kbC_one1 _) (by unfold maxLen; omega) (by omega) (Nat.zero_le _) ?_
     intro v6 w6 hown6 hg6 ho6
     obtain ⟨A6, c6, rfl⟩ := own_slice hown6
     have HO6 := Lib.hid hown6
     have HG6 := Lib.hid hg6
     have HR6 := Lib.hid ho6
     have HH6 := Lib.hid ((hg6.block g HL5.out.lt (fun e => (HL5.out.at_v g e.symm).2 rfl)).trans HL5.out.head)
     have HX6 := Lib.hid ((hg6.block w.heap.size (Nat.lt_of_lt_of_le (Array.getElem?_eq_some_iff.1 HX0.out).1 (bel2M HBC.out HB5.out).size) (fun e => Nat.lt_irrefl _ (HL5.out.at_v _ e.symm).1.1)).trans (heapB HX0.out (bel2M HBC.out HB5.out)))
     clear hown6 hg6 ho6
     obtain ⟨m0, m1, m2, m3, m4⟩ := rows4 HH6.out
     refine hK.out _ _ ?_ (fun hHeld => ?_)
     · (try dsimp only); (obtain ⟨e0, e1, e2, e3, -⟩ := rows4 HX6.out; exact ⟨e0, e1, e2, e3⟩)
     clear hK K
     (try simp only [Act.put, sA, sB, sC])
     refine tk 9 ?_
     (try simp only [Act.put, sA, sB, sC])
     refine tk 10 ?_
     (try simp only [Act.put, sA, sB, sC])
     refine wpAnyH_ready (rs := [11]) (by kernel_rfl) (by simp) ?_
     refine AllReadyH.cons (o := ?o13) ?g13 (fun K hK => ?j13) AllReadyH.nil
     case g13 => (simp only [gA, gB, gC]; rfl)
     go_simp
     refine hK.out _ _ ?_ (fun hHeld => ?_)
     · (try dsimp only); (obtain ⟨e0, e1, e2, e3, -⟩ := rows4 HX6.out; exact ⟨setOtherB e0 (Nat.ne_of_gt HGL.out), setOtherB e1 (Nat.ne_of_gt HGL.out), setOtherB e2 (Nat.ne_of_gt HGL.out), setOtherB e3 (Nat.ne_of_gt HGL.out)⟩)
     clear hK K
     (try simp only [Act.put, sA, sB, sC])
     refine wpAnyH_done (by kernel_rfl) ?_ _
     go_wp2_with fail
     go_meet
     have hz0 := HB0.out.size
     have hz4 := HZ4.out
     have hz5 := HB5.out.size
     have hz6 := HBC.out.size
     refine ⟨_, _, rfl, LgR.push (w := w) HL5.out HS.out (by omega) ((HK4.out.keep hz5 (C' := fun k => w.heap.size ≤ k) fun k hk hc => ⟨HB5.out.block k hk, by have h1 : _ ≤ k := hc; omega⟩)) HO6.out HG6.out HR6.out rfl rfl, ?_⟩
     exact ((Off.of_below (bel2M HB0.out (bel2M HBC.out HB5.out))).trans (Off.of_grown HG6.out (fun k hk => (HL5.out.at_v k hk).1.2))).trans ⟨rfl, rfl, rfl, by simp, fun k hk hn => Go.Deep.blk_setCell_other _ _ _ _ (fun e => hn (by rw [e]; exact HL5.out.at_g.2))⟩
    ·
     go_simp
     (go_at_call 68; refine (HB.out _ (bel2M HB0.out HBC.out)).mono ?_)
     rintro e w4 ⟨A4, c4, D4, d4, rfl, hk4, hb4⟩
     have HK4 := Lib.hid hk4
     have HZ4 := Lib.hid HBC.out.size
     replace HBC := Lib.hid (bel2M HBC.out hb4)
     clear hk4 hb4
     obtain ⟨z0, z1, z2, z3, z4⟩ := (HL.out _ (bel2M HB0.out HBC.out)).rowD
     have HB5 := Lib.hid (alloc1B w4 (.cells #[.int .i64 b.h, .string (strB b.prev), .slice A4 b.reqs.length c4, .slice D4 b.ress.length d4] 33))
     have HX5 := Lib.hid (heap_alloc_new w4 (.cells #[.int .i64 b.h, .string (strB b.prev), .slice A4 b.reqs.length c4, .slice D4 b.ress.length d4] 33))
     have HL5 := Lib.hid (HL.out _ (bel2M HB0.out (bel2M HBC.out HB5.out)))
     obtain ⟨k0, k1, k2, k3, k4⟩ := HL5.out.rowD
     refine hK.out _ _ ?_ (fun hHeld => ?_)
     · (try dsimp only); exact HKS.out _ HBC.out
     clear hK K
     (try simp only [Act.put, sA, sB, sC])
     refine wpAnyH_ready (rs := [4, 7]) (by kernel_rfl) (by simp) ?_
     refine AllReadyH.cons (o := ?o14) ?g14 (fun K hK => ?j14) (AllReadyH.cons (o := ?o15) ?g15 (fun K hK => ?j15) AllReadyH.nil)
     case g14 => (simp only [gA, gB, gC]; rfl)
     case g15 => (simp only [gA, gB, gC]; rfl)
     ·
      go_simp
      refine hK.out _ _ ?_ (fun hHeld => ?_)
      · (try dsimp only); exact HKS.out _ HBC.out
      clear hK K
      (try simp only [Act.put, sA, sB, sC])
      refine wpAnyH_ready (rs := [7]) (by kernel_rfl) (by simp) ?_
      refine AllReadyH.cons (o := ?o16) ?g16 (fun K hK => ?j16) AllReadyH.nil
      case g16 => (simp only [gA, gB, gC]; rfl)
      go_simp
      refine hK.out _ _ ?_ (fun hHeld => ?_)
      · (try dsimp only); exact HKS.out _ (bel2M HBC.out HB5.out)
      clear hK K
      (try simp only [Act.put, sA, sB, sC])
      refine wpAnyH_ready (rs := [8]) (by kernel_rfl) (by simp) ?_
      refine AllReadyH.cons (o := ?o17) ?g17 (fun K hK => ?j17) AllReadyH.nil
      case g17 => (simp only [gA, gB, gC]; rfl)
      refine step_append_rowsM rfl (.tmp 31) (.tmp 34) 52 rfl 0 33 i1 (.agg #[.int .i64 0, .string ⟨#[]⟩, .slice none 0 0, .slice none 0 0]) 4 72 Try.underlying52 hj hy0 hy1 hy2 rfl (by decide) (.slice AV qs.length cV) qs.length (qs.flatMap kbC) rfl HL5.out.row (.slice (some ⟨w4.heap.size, 0, none⟩) 1 1) 1 (kbC ⟨b, A4, c4, D4, d4⟩) rfl (built4 (q := ⟨b, A4, c4, D4, d4⟩) HX5.out) (kbC_one1 _) (by unfold maxLen; omega) (by omega) (Nat.zero_le _) ?_
      intro v6 w6 hown6 hg6 ho6
      obtain ⟨A6, c6, rfl⟩ := own_slice hown6
      have HO6 := Lib.hid hown6
      have HG6 := Lib.hid hg6
      have HR6 := Lib.hid ho6
      have HH6 := Lib.hid ((hg6.block g HL5.out.lt (fun e => (HL5.out.at_v g e.symm).2 rfl)).trans HL5.out.head)
      have HX6 := Lib.hid ((hg6.block w.heap.size (Nat.lt_of_lt_of_le (Array.getElem?_eq_some_iff.1 HX0.out).1 (bel2M HBC.out HB5.out).size) (fun e => Nat.lt_irrefl _ (HL5.out.at_v _ e.symm).1.1)).trans (heapB HX0.out (bel2M HBC.out HB5.out)))
      clear hown6 hg6 ho6
      obtain ⟨m0, m1, m2, m3, m4⟩ := rows4 HH6.out
      refine hK.out _ _ ?_ (fun hHeld => ?_)
      · (try dsimp only); (obtain ⟨e0, e1, e2, e3, -⟩ := rows4 HX6.out; exact ⟨e0, e1, e2, e3⟩)
      clear hK K
      (try simp only [Act.put, sA, sB, sC])
      refine tk 9 ?_
      (try simp only [Act.put, sA, sB, sC])
      refine tk 10 ?_
      (try simp only [Act.put, sA, sB, sC])
      refine wpAnyH_ready (rs := [11]) (by kernel_rfl) (by simp) ?_
      refine AllReadyH.cons (o := ?o20) ?g20 (fun K hK => ?j20) AllReadyH.nil
      case g20 => (simp only [gA, gB, gC]; rfl)
      go_simp
      refine hK.out _ _ ?_ (fun hHeld => ?_)
      · (try dsimp only); (obtain ⟨e0, e1, e2, e3, -⟩ := rows4 HX6.out; exact ⟨setOtherB e0 (Nat.ne_of_gt HGL.out), setOtherB e1 (Nat.ne_of_gt HGL.out), setOtherB e2 (Nat.ne_of_gt HGL.out), setOtherB e3 (Nat.ne_of_gt HGL.out)⟩)
      clear hK K
      (try simp only [Act.put, sA, sB, sC])
      refine wpAnyH_done (by kernel_rfl) ?_ _
      go_wp2_with fail
      go_meet
      have hz0 := HB0.out.size
      have hz4 := HZ4.out
      have hz5 := HB5.out.size
      have hz6 := HBC.out.size
      refine ⟨_, _, rfl, LgR.push (w := w) HL5.out HS.out (by omega) ((HK4.out.keep hz5 (C' := fun k => w.heap.size ≤ k) fun k hk hc => ⟨HB5.out.block k hk, by have h1 : _ ≤ k := hc; omega⟩)) HO6.out HG6.out HR6.out rfl rfl, ?_⟩
      exact ((Off.of_below (bel2M HB0.out (bel2M HBC.out HB5.out))).trans (Off.of_grown HG6.out (fun k hk => (HL5.out.at_v k hk).1.2))).trans ⟨rfl, rfl, rfl, by simp, fun k hk hn => Go.Deep.blk_setCell_other _ _ _ _ (fun e => hn (by rw [e]; exact HL5.out.at_g.2))⟩
     ·
      go_simp
      refine hK.out _ _ ?_ (fun hHeld => ?_)
      · (try dsimp only); exact HKS.out _ (bel2M HBC.out HB5.out)
      clear hK K
      (try simp only [Act.put, sA, sB, sC])
      refine wpAnyH_ready (rs := [4]) (by kernel_rfl) (by simp) ?_
      refine AllReadyH.cons (o := ?o21) ?g21 (fun K hK => ?j21) AllReadyH.nil
      case g21 => (simp only [gA, gB, gC]; rfl)
      go_simp
      refine hK.out _ _ ?_ (fun hHeld => ?_)
      · (try dsimp only); exact HKS.out _ (bel2M HBC.out HB5.out)
      clear hK K
      (try simp only [Act.put, sA, sB, sC])
      refine wpAnyH_ready (rs := [8]) (by kernel_rfl) (by simp) ?_
      refine AllReadyH.cons (o := ?o22) ?g22 (fun K hK => ?j22) AllReadyH.nil
      case g22 => (simp only [gA, gB, gC]; rfl)
      refine step_append_rowsM rfl (.tmp 31) (.tmp 34) 52 rfl 0 33 i1 (.agg #[.int .i64 0, .string ⟨#[]⟩, .slice none 0 0, .slice none 0 0]) 4 72 Try.underlying52 hj hy0 hy1 hy2 rfl (by decide) (.slice AV qs.length cV) qs.length (qs.flatMap kbC) rfl HL5.out.row (.slice (some ⟨w4.heap.size, 0, none⟩) 1 1) 1 (kbC ⟨b, A4, c4, D4, d4⟩) rfl (built4 (q := ⟨b, A4, c4, D4, d4⟩) HX5.out) (kbC_one1 _) (by unfold maxLen; omega) (by omega) (Nat.zero_le _) ?_
      intro v6 w6 hown6 hg6 ho6
      obtain ⟨A6, c6, rfl⟩ := own_slice hown6
      have HO6 := Lib.hid hown6
      have HG6 := Lib.hid hg6
      have HR6 := Lib.hid ho6
      have HH6 := Lib.hid ((hg6.block g HL5.out.lt (fun e => (HL5.out.at_v g e.symm).2 rfl)).trans HL5.out.head)
      have HX6 := Lib.hid ((hg6.block w.heap.size (Nat.lt_of_lt_of_le (Array.getElem?_eq_some_iff.1 HX0.out).1 (bel2M HBC.out HB5.out).size) (fun e => Nat.lt_irrefl _ (HL5.out.at_v _ e.symm).1.1)).trans (heapB HX0.out (bel2M HBC.out HB5.out)))
      clear hown6 hg6 ho6
      obtain ⟨m0, m1, m2, m3, m4⟩ := rows4 HH6.out
      refine hK.out _ _ ?_ (fun hHeld => ?_)
      · (try dsimp only); (obtain ⟨e0, e1, e2, e3, -⟩ := rows4 HX6.out; exact ⟨e0, e1, e2, e3⟩)
      clear hK K
      (try simp only [Act.put, sA, sB, sC])
      refine tk 9 ?_
      (try simp only [Act.put, sA, sB, sC])
      refine tk 10 ?_
      (try simp only [Act.put, sA, sB, sC])
      refine wpAnyH_ready (rs := [11]) (by kernel_rfl) (by simp) ?_
      refine AllReadyH.cons (o := ?o25) ?g25 (fun K hK => ?j25) AllReadyH.nil
      case g25 => (simp only [gA, gB, gC]; rfl)
      go_simp
      refine hK.out _ _ ?_ (fun hHeld => ?_)
      · (try dsimp only); (obtain ⟨e0, e1, e2, e3, -⟩ := rows4 HX6.out; exact ⟨setOtherB e0 (Nat.ne_of_gt HGL.out), setOtherB e1 (Nat.ne_of_gt HGL.out), setOtherB e2 (Nat.ne_of_gt HGL.out), setOtherB e3 (Nat.ne_of_gt HGL.out)⟩)
      clear hK K
      (try simp only [Act.put, sA, sB, sC])
      refine wpAnyH_done (by kernel_rfl) ?_ _
      go_wp2_with fail
      go_meet
      have hz0 := HB0.out.size
      have hz4 := HZ4.out
      have hz5 := HB5.out.size
      have hz6 := HBC.out.size
      refine ⟨_, _, rfl, LgR.push (w := w) HL5.out HS.out (by omega) ((HK4.out.keep hz5 (C' := fun k => w.heap.size ≤ k) fun k hk hc => ⟨HB5.out.block k hk, by have h1 : _ ≤ k := hc; omega⟩)) HO6.out HG6.out HR6.out rfl rfl, ?_⟩
      exact ((Off.of_below (bel2M HB0.out (bel2M HBC.out HB5.out))).trans (Off.of_grown HG6.out (fun k hk => (HL5.out.at_v k hk).1.2))).trans ⟨rfl, rfl, rfl, by simp, fun k hk hn => Go.Deep.blk_setCell_other _ _ _ _ (fun e => hn (by rw [e]; exact HL5.out.at_g.2))⟩
  case rest =>
    obtain ⟨v7, qs7, -, hL7, hO7⟩ := hcut
    go_wp2
    go_ret
    exact ⟨v7, qs7, rfl, hL7, hO7⟩

end Go.Proofs.Ytggbopgchlgidaa
