/- rd: LTwin LTwinD BDig LObj LObjD LBlk LNew LPush LApp LAppD LCut LAw BFew BSame LPair LStp LCln LChn LLaw5 (made by shake.py). -/
import Derived.Deep.CutRange
import Derived.Test.Ytggbopgchlgidaarc
namespace Go.Proofs.Ytggbopgchlgidaa
open Go.RowKit
set_option linter.unusedVariables false
set_option linter.unusedSimpArgs false
set_option maxRecDepth 20000

theorem tk {P : Program} {ops : Array Oper} {Q : Exit → Act → World → Prop} {md : Region.Mode} {S : World → Prop} (i : Nat) {oi : Oper} {v : Value} {fuel : Nat} {listed : Array Bool} {a : Act} {w : World} (h : wpAnyH P md ops Q S fuel (listed.setIfInBounds i true) (a.put oi.dst v) w) (hi : ops[i]? = some oi := by (simp only [gA, gB, gC]; rfl)) (hs : Region.noSelect ops = true := by kernel_rfl) (hf : Region.free md ops listed i = true := by kernel_rfl) (hr : (Region.ready md ops listed).contains i = true := by kernel_rfl) (hQ : ∀ c a w, Q (.panic c) (a.put oi.dst v) w → Q (.panic c) a w := by exact fun _ _ _ h => h) (hw : Region.wanted oi (yielded ops a.tmps) = true := by rfl) (hy : ∀ w, S w → (execOp a.eval oi).run P w = .ok (.value v) w := by (intro w z; (try dsimp only at z); go_simp; try with_reducible rfl)) (hS : S w := by assumption) : wpAnyH P md ops Q S (fuel + 1) listed a w := wpAnyH_take hi hs hf hr hQ (Or.inl ⟨hw, hy⟩) hS h
theorem sk {P : Program} {ops : Array Oper} {Q : Exit → Act → World → Prop} {md : Region.Mode} {S : World → Prop} (i : Nat) {oi : Oper} {fuel : Nat} {listed : Array Bool} {a : Act} {w : World} (h : wpAnyH P md ops Q S fuel (listed.setIfInBounds i true) (a.put oi.dst undef) w) (hi : ops[i]? = some oi := by (simp only [gA, gB, gC]; rfl)) (hs : Region.noSelect ops = true := by kernel_rfl) (hf : Region.free md ops listed i = true := by kernel_rfl) (hr : (Region.ready md ops listed).contains i = true := by kernel_rfl) (hQ : ∀ c a w, Q (.panic c) (a.put oi.dst undef) w → Q (.panic c) a w := by exact fun _ _ _ h => h) (hw : Region.wanted oi (yielded ops a.tmps) = false := by rfl) (hS : S w := by assumption) : wpAnyH P md ops Q S (fuel + 1) listed a w := wpAnyH_take hi hs hf hr hQ (Or.inr ⟨hw, rfl⟩) hS h

theorem flatT_odd (E : List Tri) (k : Nat) (hk : k < E.length) : (flatT E)[k * 2 + 1]? = some E[k].2.2 := by
  obtain ⟨f1, f2⟩ := flatE_get (E.map fun p => (p.1, p.2.2)) k (by simpa using hk)
  simpa [flatT] using f2
structure CbI (N : Nat) (A : Option Addr) (n cap : Nat) (L : List (Int × List UInt8)) (bx zx : Array Value) (D : Option Addr) (d : Nat) (rs : List (Int × Int)) (w : World) (k : Nat) (E : List Tri) (W : World) : Prop where
  e : pairsT E = L
  len : E.length = n
  row : W.ownsRow (N + 2) 82 2 (.slice A n cap) n (flatT E)
  old : ∀ j (hj : j < E.length), Bs W E[j].2.2 E[j].2.1 ∧ (E[j].2.1 ≠ [] → ∀ i, E[j].2.2.ownBlock = some i → i ≠ N ∧ i ≠ N + 1 ∧ (Value.slice A n cap).ownBlock ≠ some i ∧ (j < k → N ≤ i))
  bel : Below N w W
  box : W.heap[N]? = some (.cells bx 33 (0, 0))
  zb : W.heap[N + 1]? = some (.cells zx 33 (0, 0))
  res : ∃ B, W.ownsRow B 86 2 (.slice D rs.length d) rs.length (rs.flatMap rsC) ∧ N + 2 ≤ B ∧ (∀ i, (Value.slice A n cap).ownBlock = some i → i < B)
theorem own_leL {w : World} {base base' size n : Nat} {e : TypeId} {v : Value} {xs : List Value} (h : w.ownsRow base e size v n xs) (hb : base' ≤ base) : w.ownsRow base' e size v n xs := by
  obtain ⟨h1, h2 | ⟨g, cap, cur, h3, h4, h5⟩⟩ := h
  · exact ⟨h1, .inl h2⟩
  · exact ⟨h1, .inr ⟨g, cap, cur, h3, Nat.le_trans hb h4, h5⟩⟩
theorem CbI.keep {N : Nat} {A : Option Addr} {n cap : Nat} {L : List (Int × List UInt8)} {bx zx : Array Value} {D : Option Addr} {d : Nat} {rs : List (Int × Int)} {w : World} {k : Nat} {E : List Tri} {W W' : World} (h : CbI N A n cap L bx zx D d rs w k E W) (hb : Below W.heap.size W W') : CbI N A n cap L bx zx D d rs w k E W' where
  e := h.e
  len := h.len
  row := own_keep h.row fun i hi => hb.block i (h.row.lt i hi).2
  old := fun j hj => ⟨(h.old j hj).1.below hb (Nat.le_refl _), (h.old j hj).2⟩
  bel := h.bel.trans (hb.mono (by have := (Array.getElem?_eq_some_iff.1 h.box).1; omega))
  box := heapB h.box hb
  zb := heapB h.zb hb
  res := by
    obtain ⟨B, h1, h2⟩ := h.res
    exact ⟨B, own_keep h1 fun i hi => hb.block i (h1.lt i hi).2, h2⟩
theorem CbI.put {N g : Nat} {n cap : Nat} {L : List (Int × List UInt8)} {bx zx : Array Value} {D : Option Addr} {d : Nat} {rs : List (Int × Int)} {w : World} {k : Nat} {E : List Tri} {W : World} (h : CbI N (some ⟨g, 0, none⟩) n cap L bx zx D d rs w k E W) (hk : k < E.length) {y : Value} (hy : Bs W y E[k].2.1) {M : Nat} (hn : E[k].2.1 ≠ [] → ∀ i, y.ownBlock = some i → M ≤ i) (hM : N + 2 ≤ M ∧ g < M) :
    CbI N (some ⟨g, 0, none⟩) n cap L bx zx D d rs w (k + 1) (E.set k (E[k].1, E[k].2.1, y)) (W.setCell ⟨g, k * 2 + 1, none⟩ y) := by
  have hg : ∀ i, i ≠ g → (W.setCell ⟨g, k * 2 + 1, none⟩ y).heap[i]? = W.heap[i]? := fun i hi => Go.Deep.blk_setCell_other _ _ _ _ hi
  have hgN : N + 2 ≤ g := (h.row.lt g rfl).1
  have hz : W.heap.size ≤ (W.setCell ⟨g, k * 2 + 1, none⟩ y).heap.size := by simp
  refine ⟨by rw [pairsT_set _ _ hk]; exact h.e, by rw [List.length_set]; exact h.len, ?_, fun j hj => ?_, h.bel.setCell (p := ⟨g, k * 2 + 1, none⟩) (by show N ≤ g; omega) _, (hg N (by omega)).trans h.box, (hg (N + 1) (by omega)).trans h.zb, ?_⟩
  · rw [flatT_set E k hk]
    exact (h.row.stored _ _).1
  · have hj' : j < E.length := by rw [List.length_set] at hj; exact hj
    by_cases hjk : k = j
    · subst hjk
      simp only [List.getElem_set_self]
      refine ⟨hy.keep hz fun hne i hi => hg i (by have := hn hne i hi; omega), fun hne i hi => ?_⟩
      have := hn hne i hi
      exact ⟨by omega, by omega, fun e => by injection e with e; simp only at e; omega, fun _ => by omega⟩
    · simp only [List.getElem_set_ne hjk]
      obtain ⟨h1, h2⟩ := h.old j hj'
      refine ⟨h1.keep hz fun hne i hi => hg i fun e => (h2 hne i hi).2.2.1 (by rw [e]; rfl), fun hne i hi => ?_⟩
      obtain ⟨e1, e2, e3, e4⟩ := h2 hne i hi
      exact ⟨e1, e2, e3, fun hlt => e4 (by omega)⟩
  · obtain ⟨B, h1, h2, h3⟩ := h.res
    exact ⟨B, own_keep h1 fun i hi => hg i fun e => by have := h3 g rfl; have := (h1.lt i hi).1; omega, h2, h3⟩
theorem CbI.done {N : Nat} {A : Option Addr} {n cap : Nat} {L : List (Int × List UInt8)} {bx zx : Array Value} {D : Option Addr} {d : Nat} {rs : List (Int × Int)} {w : World} {E : List Tri} {W : World} (h : CbI N A n cap L bx zx D d rs w n E W) : RowC (fun i => N + 2 ≤ i) W 2 (EnvC (fun i => N + 2 ≤ i)) A cap L ∧ RowC (fun i => N + 2 ≤ i) W 2 ResP D d rs := by
  constructor
  · obtain ⟨A', c', e1, h1⟩ := rowC_tri (C := fun i => N + 2 ≤ i) h.row (fun i hi => hi) fun p hp => by
      obtain ⟨j, hj, rfl⟩ := List.getElem_of_mem hp
      refine ⟨(h.old j hj).1, fun hne i hi => ?_⟩
      obtain ⟨e1, e2, e3, e4⟩ := (h.old j hj).2 hne i hi
      have := e4 (by rw [← h.len]; exact hj)
      show N + 2 ≤ i
      omega
    rw [h.e] at h1
    injection e1 with e2 e3 e4
    subst e2 e4
    exact h1
  · obtain ⟨B, h1, h2, -⟩ := h.res
    obtain ⟨A', c', e1, h3⟩ := rowC_res (C := fun i => N + 2 ≤ i) h1 (fun i hi => Nat.le_trans h2 hi)
    injection e1 with e2 e3 e4
    subst e2 e4
    exact h3
theorem rows4 {W : World} {N : Nat} {x0 x1 x2 x3 : Value} {t : TypeId} (h : W.heap[N]? = some (.cells #[x0, x1, x2, x3] t (0, 0))) : W.cell? ⟨N, 0, none⟩ = some x0 ∧ W.cell? ⟨N, 1, none⟩ = some x1 ∧ W.cell? ⟨N, 2, none⟩ = some x2 ∧ W.cell? ⟨N, 3, none⟩ = some x3 ∧ ∀ j, W.frozen? ⟨N, j, none⟩ = false :=
  ⟨rowCell h 0 _ rfl, rowCell h 1 _ rfl, rowCell h 2 _ rfl, rowCell h 3 _ rfl, fun j => by simp [World.frozen?, h]⟩
set_option maxHeartbeats 2000000 in
theorem cloneB_any (b : Blk) (A : Option Addr) (c : Nat) (D : Option Addr) (d : Nat) (w : World) (h : BlkK w b A c D d) (hf : FewQ b) : Calls Try.prog 42 #[agB b A c D d] w (TwB b w) := by
  obtain ⟨x1, x2, x3⟩ := box2B w #[.int .i64 b.h, .string (strB b.prev), .slice A b.reqs.length c, .slice D b.ress.length d] #[.int .i64 0, .string ⟨#[]⟩, .slice none 0 0, .slice none 0 0] 33 33
  obtain ⟨E, hE, hEl, hrow, hbs⟩ := env_tri h.q
  have hq20 := hf.q
  have hr20 := hf.r
  have HB0 := Lib.hid x3
  have HD := Lib.hid hf.d
  have HCE := Lib.hid (fun W (hb : Below w.heap.size w W) => cloneEv_any A E.length c (flatT E) W (hrow.below hb) (triC_one E hbs) (by omega))
  have HCR := Lib.hid (fun W (hb : Below w.heap.size w W) => cloneRs_any D b.ress.length d (b.ress.flatMap rsC) W ((res_rows h.r).below hb) (rsC_one _) (by omega))
  have HBS := Lib.hid hbs
  have HE := Lib.hid hE
  have HEL := Lib.hid hEl
  rw [hEl] at HCE
  generalize hw0 : ((w.alloc (.cells #[.int .i64 b.h, .string (strB b.prev), .slice A b.reqs.length c, .slice D b.ress.length d] 33)).alloc (.cells #[.int .i64 0, .string ⟨#[]⟩, .slice none 0 0, .slice none 0 0] 33)) = w0 at *
  have HW0 := Lib.hid hw0
  have HX1 := Lib.hid x1
  have HK := Lib.hid (show ∀ W, Below w0.heap.size w0 W → (fun W => W.cell? ⟨w.heap.size, 2, none⟩ = some (.slice A b.reqs.length c) ∧ W.cell? ⟨w.heap.size, 3, none⟩ = some (.slice D b.ress.length d)) W from fun W h => ⟨cellB (rowCell x1 2 _ rfl) h, cellB (rowCell x1 3 _ rfl) h⟩)
  have HX2 := Lib.hid x2
  have HQ20 := Lib.hid hq20
  have HN2 := Lib.hid (show w.heap.size + 1 < w0.heap.size from (Array.getElem?_eq_some_iff.1 x2).1)
  clear x1 x2 x3 hw0 hE hEl hrow hbs h hf hq20 hr20
  go_enter Try.func42, Try.ntmps42
  go_upto_region 1 with fail
  rw [HW0.out]
  go_cut [7] from 5 to 12 (fun s7 wx => ∃ A1 c1 A2 c2 B, s7 = .slice A1 b.reqs.length c1 ∧ wx.ownsRow (w.heap.size + 2) 82 2 (.slice A1 b.reqs.length c1) b.reqs.length (flatT E) ∧ wx.ownsRow B 86 2 (.slice A2 b.ress.length c2) b.ress.length (b.ress.flatMap rsC) ∧ w.heap.size + 2 ≤ B ∧ (∀ g, (Value.slice A1 b.reqs.length c1).ownBlock = some g → g < B) ∧ Below w.heap.size w wx ∧ wx.heap[w.heap.size]? = some (.cells #[.int .i64 b.h, .string (strB b.prev), .slice A1 b.reqs.length c1, .slice A2 b.ress.length c2] 33 (0, 0)) ∧ wx.heap[w.heap.size + 1]? = some (.cells #[.int .i64 0, .string ⟨#[]⟩, .slice none 0 0, .slice none 0 0] 33 (0, 0)))
  case first =>
    have HBC := Lib.hid (show Below w0.heap.size w0 w0.drew from (Below.refl _ _).drew)
    obtain ⟨p2, p3⟩ := HK.out _ HBC.out
    go_region_with (first
      | (go_at_call 69; refine (HCE.out _ (bel2M HB0.out HBC.out)).mono ?_; rintro e w1 ⟨v1, rfl, ho1, hb1⟩; obtain ⟨A1, c1, rfl⟩ := own_slice ho1; have HO1 := Lib.hid ho1; have HS1 := Lib.hid HBC.out.size; replace HBC := Lib.hid (bel2M HBC.out hb1); clear ho1 hb1; obtain ⟨p2, p3⟩ := HK.out _ HBC.out)
      | (go_at_call 70; refine (HCR.out _ (bel2M HB0.out HBC.out)).mono ?_; rintro e w2 ⟨v2, rfl, ho2, hb2⟩; obtain ⟨A2, c2, rfl⟩ := own_slice ho2; have HO2 := Lib.hid ho2; have HB2 := Lib.hid hb2; have HS2 := Lib.hid HBC.out.size; replace HBC := Lib.hid (bel2M HBC.out hb2); clear ho2 hb2; obtain ⟨z0, z1, z2, z3, z4⟩ := rows4 (heapB HX1.out HBC.out)))
    all_goals
      go_wp2_with fail
      go_meet
      have hz1 := HS1.out
      have hz2 := HS2.out
      have hz3 := HB2.out.size
      have hN2 := HN2.out
      refine ⟨A1, c1, A2, c2, _, rfl, ?_, own_keep HO2.out (fun k hk => ?_), by omega, fun g hg => (HO1.out.lt g hg).2, ?_, box_set2 (heapB HX1.out HBC.out) _ _, ?_⟩
      · refine own_keep (own_keep (own_leL HO1.out (by omega)) fun k hk => HB2.out.block k (HO1.out.lt k hk).2) fun k hk => ?_
        have := (HO1.out.lt k hk).1
        rw [Go.Deep.blk_setCell_other _ _ _ _ (show k ≠ w.heap.size by omega), Go.Deep.blk_setCell_other _ _ _ _ (show k ≠ w.heap.size by omega)]
      · have := (HO2.out.lt k hk).1
        rw [Go.Deep.blk_setCell_other _ _ _ _ (show k ≠ w.heap.size by omega), Go.Deep.blk_setCell_other _ _ _ _ (show k ≠ w.heap.size by omega)]
      · exact ((bel2M HB0.out HBC.out).setCell (p := ⟨w.heap.size, 2, none⟩) (Nat.le_refl _) _).setCell (p := ⟨w.heap.size, 3, none⟩) (Nat.le_refl _) _
      · rw [Go.Deep.blk_setCell_other _ _ _ _ (show w.heap.size + 1 ≠ w.heap.size by omega), Go.Deep.blk_setCell_other _ _ _ _ (show w.heap.size + 1 ≠ w.heap.size by omega)]
        exact heapB HX2.out HBC.out
  case rest =>
    obtain ⟨A1, cA, A2, c2, B, rfl, r1, r2, hB, hgB, hbel, hbox, hzb⟩ := hcut
    have hI0 : CbI w.heap.size A1 b.reqs.length cA b.reqs #[.int .i64 b.h, .string (strB b.prev), .slice A1 b.reqs.length cA, .slice A2 b.ress.length c2] #[.int .i64 0, .string ⟨#[]⟩, .slice none 0 0, .slice none 0 0] A2 c2 b.ress w 0 E wc :=
      ⟨HE.out, HEL.out, r1, fun j hj => ⟨(HBS.out _ (List.getElem_mem hj)).below hbel (Nat.le_refl _), fun hne i hi => by
        have h1 := (HBS.out _ (List.getElem_mem hj)).lt hne i hi
        exact ⟨by omega, by omega, fun e => by have := (r1.lt i e).1; omega, fun h => absurd h (Nat.not_lt_zero _)⟩⟩, hbel, hbox, hzb, ⟨B, r2, hB, hgB⟩⟩
    have HI0 := Lib.hid hI0
    obtain ⟨b0, b1, b2, b3, b4⟩ := rows4 hbox
    have hn63 : b.reqs.length ≤ 20 := HQ20.out
    clear HCE HCR HK HX1 HX2 hI0 r1 r2 hbel hbox hzb hgB hB
    go_wp2
    go_loopw [16] (fun i wr => ∃ (k : Nat) (F : List Tri), k ≤ b.reqs.length ∧ i = .int .i64 k ∧ CbI w.heap.size A1 b.reqs.length cA b.reqs #[.int .i64 b.h, .string (strB b.prev), .slice A1 b.reqs.length cA, .slice A2 b.ress.length c2] #[.int .i64 0, .string ⟨#[]⟩, .slice none 0 0, .slice none 0 0] A2 c2 b.ress w k F wr) (fun i _ => b.reqs.length - (intOf i).toNat)
    case atStart => exact ⟨0, E, Nat.zero_le _, rfl, HI0.out⟩
    case round =>
      obtain ⟨k, F, hk, rfl, hI⟩ := hrel
      have HI := Lib.hid hI
      clear hI
      by_cases hlt : k < b.reqs.length
      · have hltI : (k : Int) < (b.reqs.length : Int) := by omega
        have hkF : k < F.length := by rw [HI.out.len]; exact hlt
        obtain ⟨g, rfl⟩ : ∃ g, A1 = some ⟨g, 0, none⟩ := by
          rcases HI.out.row.2 with ⟨-, h0⟩ | ⟨g, cap, cur, e, -⟩
          · omega
          · injection e with e; exact ⟨g, e⟩
        obtain ⟨y0, y1, y2, y3, y4⟩ := rows4 HI.out.box
        obtain ⟨f1, f2⟩ := flatE_get (F.map fun p => (p.1, p.2.2)) k (by simpa using hkF)
        have hb1 := (HI.out.old k hkF).1
        have hlen : F[k].2.1.length ≤ 500 := by
          have := HD.out (F[k].1, F[k].2.1) (by rw [← HI.out.e]; exact List.mem_map_of_mem (f := fun p : Tri => (p.1, p.2.1)) (List.getElem_mem hkF))
          exact this
        have c0 : wr.cell? ⟨g, k * 2, none⟩ = some (.int .i64 F[k].1) := by
          rw [HI.out.row.cellAt _ (by omega)]
          simpa [flatT] using f1
        have c1 : wr.cell? ⟨g, k * 2 + 1, none⟩ = some F[k].2.2 := by
          rw [HI.out.row.cellAt _ (by omega)]
          simpa [flatT] using f2
        generalize hFk : F[k] = fk at *
        obtain ⟨s1, l1, bv1⟩ := fk
        simp only at hb1 hlen c0 c1
        have HCL := Lib.hid (fun W (hb : Below wr.heap.size wr W) => Clone_own bv1 l1 W (hb1.below hb (Nat.le_refl _)) (by omega))
        have HB1 := Lib.hid hb1
        obtain ⟨A4, c4, rfl, -⟩ := hb1.open
        clear f1 f2
        go_upto_region 5 with fail
        have hgN : w.heap.size + 2 ≤ g ∧ g < wr.heap.size := HI.out.row.lt g rfl
        have HGN := Lib.hid hgN
        have HA := Lib.hid ((Below.refl wr.heap.size wr).alloc (Nat.le_refl _) (.cells #[.int .i64 s1, .slice A4 l1.length c4] 82))
        have HX4 := Lib.hid (heap_alloc_new wr (.cells #[.int .i64 s1, .slice A4 l1.length c4] 82))
        have HFK := Lib.hid hFk
        have HKF := Lib.hid hkF
        generalize hwa : wr.alloc (.cells #[.int .i64 s1, .slice A4 l1.length c4] 82) = wa at *
        have HS := Lib.hid (show ∀ W, Below wa.heap.size wa W → (fun W => W.cell? ⟨w.heap.size, 2, none⟩ = some (.slice (some ⟨g, 0, none⟩) b.reqs.length cA) ∧ W.cell? ⟨wr.heap.size, 1, none⟩ = some (.slice A4 l1.length c4)) W from fun W h => ⟨cellB (cellB y2 HA.out) h, cellB (rowCell HX4.out 1 _ rfl) h⟩)
        clear hwa hFk hb1 hlen y0 y1 y2 y3 y4 c0 c1 hgN
        have HBC := Lib.hid (show Below wa.heap.size wa wa.drew from (Below.refl _ _).drew)
        go_region_held3 (fun W => W.cell? ⟨w.heap.size, 2, none⟩ = some (.slice (some ⟨g, 0, none⟩) b.reqs.length cA) ∧ W.cell? ⟨wr.heap.size, 1, none⟩ = some (.slice A4 l1.length c4)) (first | exact HS.out _ HBC.out | exact ⟨setOtherB (HS.out _ HBC.out).1 (by have := HGN.out; show w.heap.size ≠ g; omega), setOtherB (HS.out _ HBC.out).2 (by have := HGN.out; show wr.heap.size ≠ g; omega)⟩) (first
          | (go_at_call 71; refine (HCL.out _ (bel2M HA.out HBC.out)).mono ?_; rintro e w4 ⟨v4, rfl, ho4, hb4⟩; obtain ⟨A5, c5, rfl⟩ := own_slice ho4; have HO4 := Lib.hid ho4; have HS4 := Lib.hid (bel2M HA.out HBC.out).size; replace HBC := Lib.hid (bel2M HBC.out hb4); clear ho4 hb4; have HI4 := Lib.hid (HI.out.keep (bel2M HA.out HBC.out)); have q1 := HI4.out.row.frozenAt (k * 2 + 1); have q2 := (HI4.out.row.cellAt (k * 2 + 1) (by have := hlt; omega)).trans ((flatT_odd F k HKF.out).trans (by rw [HFK.out]))))
        go_wp2
        go_roundw
        case rel =>
          refine ⟨k + 1, F.set k (F[k].1, F[k].2.1, .slice A5 l1.length c5), by omega, by go_num, ?_⟩
          have hz := HA.out.size
          have hgn := HGN.out
          refine HI4.out.put hkF (by rw [HFK.out]; exact own_bs HO4.out) (M := wr.heap.size) (fun _ i hi => by have h0 := (HO4.out.lt i hi).1; have h1 : wr.heap.size ≤ wa.drew.heap.size := hz; omega) (by omega)
        case measure => simp [intOf]; omega
      · obtain rfl : k = b.reqs.length := by omega
        have hltI : ¬ (b.reqs.length : Int) < (b.reqs.length : Int) := by omega
        obtain ⟨y0, y1, y2, y3, y4⟩ := rows4 HI.out.box
        obtain ⟨z0, z1, z2, z3, z4⟩ := rows4 HI.out.zb
        obtain ⟨hd1, hd2⟩ := HI.out.done
        go_wp2
        have hz := HI.out.zb
        have hzl := (Array.getElem?_eq_some_iff.1 hz).1
        refine bodyPost_ret (v := agB b A1 cA A2 c2) (by simp [results, Try.results42, go_sem, z0, z1, z2, z3, hzl]) rfl ⟨A1, cA, A2, c2, rfl, ?_, ?_⟩
        · have hk : KeptC (fun i => w.heap.size + 2 ≤ i) (fun i => w.heap.size ≤ i) wr ((((wr.setCell ⟨w.heap.size + 1, 0, none⟩ (.int .i64 b.h)).setCell ⟨w.heap.size + 1, 1, none⟩ (.string (strB b.prev))).setCell ⟨w.heap.size + 1, 2, none⟩ (.slice A1 b.reqs.length cA)).setCell ⟨w.heap.size + 1, 3, none⟩ (.slice A2 b.ress.length c2)) := fun i _ hi => by
            have hne : i ≠ w.heap.size + 1 := by simp only at hi; omega
            exact ⟨by rw [Go.Deep.blk_setCell_other _ _ _ _ hne, Go.Deep.blk_setCell_other _ _ _ _ hne, Go.Deep.blk_setCell_other _ _ _ _ hne, Go.Deep.blk_setCell_other _ _ _ _ hne], by simp only at hi ⊢; omega⟩
          exact BlkC.keep ⟨hd1, hd2⟩ (by simp) hk
        · exact (((HI.out.bel.setCell (p := ⟨w.heap.size + 1, 0, none⟩) (Nat.le_succ _) _).setCell (p := ⟨w.heap.size + 1, 1, none⟩) (Nat.le_succ _) _).setCell (p := ⟨w.heap.size + 1, 2, none⟩) (Nat.le_succ _) _).setCell (p := ⟨w.heap.size + 1, 3, none⟩) (Nat.le_succ _) _

structure TwI (l : List (Int × List UInt8)) (w : World) (k : Nat) (v : Value) (E : List Tri) (W : World) : Prop where
  e : pairsT E = l.take k
  row : W.ownsRow w.heap.size 82 2 v k (flatT E)
  old : ∀ p ∈ E, Bs W p.2.2 p.2.1 ∧ (p.2.1 ≠ [] → ∀ i, p.2.2.ownBlock = some i → w.heap.size ≤ i ∧ v.ownBlock ≠ some i)
  bel : Below w.heap.size w W
theorem flatT_push (E : List Tri) (s : Int) (l : List UInt8) (y : Value) : flatT E ++ [.int .i64 s, y] = flatT (E ++ [(s, l, y)]) := (flatT_snoc E (s, l, y)).symm
theorem TwI.push {l : List (Int × List UInt8)} {w wr w2 w4 : World} {k : Nat} {v v4 y : Value} {E : List Tri} {s1 : Int} {l1 : List UInt8} (h : TwI l w k v E wr) (ht : l.take (k + 1) = l.take k ++ [(s1, l1)]) (hb2 : Below wr.heap.size wr w2) (hy : Bs w2 y l1) (hyn : l1 ≠ [] → ∀ i, y.ownBlock = some i → wr.heap.size ≤ i)
    (ho : w4.ownsRow w.heap.size 82 2 v4 (k + 1) (flatT E ++ [.int .i64 s1, y])) (hg : w2.grownBy w4 v.ownBlock) (hr : v4.ownBlock = v.ownBlock ∨ v4.ownBlock = some w2.heap.size) : TwI l w (k + 1) v4 (E ++ [(s1, l1, y)]) w4 where
  e := by rw [ht]; simp only [pairsT, List.map_append, List.map_cons, List.map_nil]; rw [show E.map (fun p => (p.1, p.2.1)) = pairsT E from rfl, h.e]
  row := by rw [← flatT_push]; exact ho
  old := fun p hp => by
    have hz2 := hb2.size
    have hall : Bs w2 p.2.2 p.2.1 ∧ (p.2.1 ≠ [] → ∀ i, p.2.2.ownBlock = some i → w.heap.size ≤ i ∧ v.ownBlock ≠ some i ∧ i < w2.heap.size) := by
      rcases List.mem_append.1 hp with hp | hp
      · obtain ⟨h1, h2⟩ := h.old p hp
        refine ⟨h1.below hb2 (Nat.le_refl _), fun hne i hi => ⟨(h2 hne i hi).1, (h2 hne i hi).2, ?_⟩⟩
        have := h1.lt hne i hi
        omega
      · rw [List.mem_singleton.1 hp]
        refine ⟨hy, fun hne i hi => ?_⟩
        have h1 := hyn hne i hi
        have h2 := h.bel.size
        exact ⟨by omega, fun e => by have := (h.row.lt i e).2; omega, hy.lt hne i hi⟩
    refine ⟨hall.1.keep hg.size fun hne i hi => hg.block i (hall.2 hne i hi).2.2 (fun e => (hall.2 hne i hi).2.1 e.symm), fun hne i hi => ⟨(hall.2 hne i hi).1, fun e => ?_⟩⟩
    rcases hr with hr | hr
    · exact (hall.2 hne i hi).2.1 (hr ▸ e)
    · rw [e] at hr
      injection hr with hr
      have := (hall.2 hne i hi).2.2
      omega
  bel := (h.bel.trans (hb2.mono h.bel.size)).grown hg (Nat.le_trans h.bel.size hb2.size) (fun i hi => (h.row.lt i hi).1)

theorem four_le (a b c d : List UInt8) (ha : a.length = 8) (hb : b.length ≤ 10000000) (hc : c.length = 8) (hd : d.length ≤ 10000000) : (encT 5 [a, b, c, d]).length ≤ 10000000000000 := by
  rw [encT_length]
  simp [partsB, partB_length]
  omega
set_option maxHeartbeats 20000000 in
theorem bDigest_any (hh : Int) (hp : List UInt8) (hn : Int) (hr : List UInt8) (w : World) (h1 : hp.length ≤ 10000000) (h2 : hr.length ≤ 10000000) : Calls Try.prog 72 #[agH hh hp hn hr] w (Tells (digB hh hp hn hr) w) := by
  have x1 := heap_alloc_new w (.cells #[.int .i64 hh, .string (strB hp), .int .i64 hn, .string (strB hr)] 107)
  have x3 := alloc1B w (.cells #[.int .i64 hh, .string (strB hp), .int .i64 hn, .string (strB hr)] 107)
  have HOF := Lib.hid (fun v W (hv : Bss W v [i8B hh, hp, i8B hn, hr]) => Of_any 5 v [i8B hh, hp, i8B hn, hr] W hv (by simp) (by simp [i8B_length]; omega) (four_le _ _ _ _ (i8B_length _) h1 (i8B_length _) h2))
  have HP := Lib.hid (fun (n : Int) W k hk => putInt1_any n W 3 k hk)
  have HC1 := Lib.hid (show hp.length ≤ maxLen by unfold maxLen; omega)
  have HC2 := Lib.hid (show hr.length ≤ maxLen by unfold maxLen; omega)
  unfold digB
  generalize encT 5 [i8B hh, hp, i8B hn, hr] = en at *
  go_enter Try.func72, Try.ntmps72
  go_wp2
  generalize hw0 : (w.alloc (.cells #[.int .i64 hh, .string (strB hp), .int .i64 hn, .string (strB hr)] 107)) = w0 at *
  clear hw0
  have HB0 := Lib.hid x3
  have HK := Lib.hid (show ∀ W, Below w0.heap.size w0 W → (fun W => W.cell? ⟨w.heap.size, 0, none⟩ = some (.int .i64 hh) ∧ W.cell? ⟨w.heap.size, 1, none⟩ = some (.string (strB hp)) ∧ W.cell? ⟨w.heap.size, 2, none⟩ = some (.int .i64 hn) ∧ W.cell? ⟨w.heap.size, 3, none⟩ = some (.string (strB hr))) W from fun W h => ⟨cellB (rowCell x1 0 _ rfl) h, cellB (rowCell x1 1 _ rfl) h, cellB (rowCell x1 2 _ rfl) h, cellB (rowCell x1 3 _ rfl) h⟩)
  have HBC := Lib.hid (show Below w0.heap.size w0 w0.drew from (Below.refl _ _).drew)
  clear x1 x3 h1 h2
  refine wp_region_held_drew (S := (fun W => W.cell? ⟨w.heap.size, 0, none⟩ = some (.int .i64 hh) ∧ W.cell? ⟨w.heap.size, 1, none⟩ = some (.string (strB hp)) ∧ W.cell? ⟨w.heap.size, 2, none⟩ = some (.int .i64 hn) ∧ W.cell? ⟨w.heap.size, 3, none⟩ = some (.string (strB hr)))) (by kernel_rfl) (HK.out _ HBC.out) (fun hHeld => ?_)
  refine tk 0 ?_
  (try simp only [Act.put, sA, sB, sC])
  refine tk 1 ?_
  (try simp only [Act.put, sA, sB, sC])
  refine tk 4 ?_
  (try simp only [Act.put, sA, sB, sC])
  refine tk 5 ?_
  (try simp only [Act.put, sA, sB, sC])
  refine tk 7 ?_
  (try simp only [Act.put, sA, sB, sC])
  refine tk 8 ?_
  (try simp only [Act.put, sA, sB, sC])
  refine tk 11 ?_
  (try simp only [Act.put, sA, sB, sC])
  refine tk 12 ?_
  (try simp only [Act.put, sA, sB, sC])
  refine wpAnyH_norm (fuel' := 9) (listed' := #[true, true, false, false, true, true, false, true, true, false, false, true, true, false, false, false, false]) (by kernel_rfl) (by kernel_rfl) ?_
  refine wpAnyH_name (fun G hG => ?_)
  clear hHeld
  have st_2_3_6_9_10_13_14_15 : ∀ (g1 : Nat) (A1 : Option Addr) (c1 : Nat) (C1A : Option Addr) (C1c : Nat) (g2 : Nat) (A2 : Option Addr) (c2 : Nat) (C2A : Option Addr) (C2c : Nat) (g9 : Nat) (W : World) (HBC : Hid (Below w0.heap.size w0 W)) (G1 : Hid (W.heap[g1]? = some (.cells #[.int .i64 hh] 3 (0, 0)))) (F1 : Hid (Bs W (.slice A1 (i8B hh).length c1) (i8B hh))) (C1 : Hid (Bs W (.slice C1A hp.length C1c) hp)) (G2 : Hid (W.heap[g2]? = some (.cells #[.int .i64 hn] 3 (0, 0)))) (F2 : Hid (Bs W (.slice A2 (i8B hn).length c2) (i8B hn))) (C2 : Hid (Bs W (.slice C2A hr.length C2c) hr)) (GB : Hid (W.heap[g9]? = some (.cells #[.slice A1 (i8B hh).length c1, .slice C1A hp.length C1c, .slice A2 (i8B hn).length c2, .slice C2A hr.length C2c] 58 (0, 0)))), G 1 #[true, true, true, true, true, true, true, true, true, true, true, true, true, true, true, true, false] ⟨#[agH hh hp hn hr, .pointer (some ⟨w.heap.size, 0, none⟩), .string ⟨#[]⟩, .pointer (some ⟨w.heap.size, 0, none⟩), .int .i64 hh, .slice (some ⟨g1, 0, none⟩) 1 1, .slice A1 (i8B hh).length c1, .pointer (some ⟨w.heap.size, 1, none⟩), .string (strB hp), .slice C1A hp.length C1c, .pointer (some ⟨w.heap.size, 2, none⟩), .int .i64 hn, .slice (some ⟨g2, 0, none⟩) 1 1, .slice A2 (i8B hn).length c2, .pointer (some ⟨w.heap.size, 3, none⟩), .string (strB hr), .slice C2A hr.length C2c, .slice (some ⟨g9, 0, none⟩) 4 4, .string (strB en)], []⟩ W := by
    intro g1 A1 c1 C1A C1c g2 A2 c2 C2A C2c g9 W HBC G1 F1 C1 G2 F2 C2 GB
    rw [hG]
    have hHeld : ((fun W => W.cell? ⟨w.heap.size, 0, none⟩ = some (.int .i64 hh) ∧ W.cell? ⟨w.heap.size, 1, none⟩ = some (.string (strB hp)) ∧ W.cell? ⟨w.heap.size, 2, none⟩ = some (.int .i64 hn) ∧ W.cell? ⟨w.heap.size, 3, none⟩ = some (.string (strB hr)))) W := HK.out _ HBC.out
    refine wpAnyH_ready (rs := [16]) (by kernel_rfl) (by simp) ?_
    refine AllReadyH.cons (o := ?o40) ?g40 (fun K hK => ?j40) AllReadyH.nil
    case g40 => (simp only [gA, gB, gC]; rfl)
    case j40 =>
      go_simp
      refine hK.out _ _ (by (try dsimp only); exact hHeld) (fun _ => ?_)
      (try simp only [Act.put, sA, sB, sC])
      refine wpAnyH_done (by kernel_rfl) ?_ _
      go_wp2
      go_ret
      exact ⟨rfl, bel2M HB0.out HBC.out⟩
  have st_2_3_6_9_10_13_14 : ∀ (g1 : Nat) (A1 : Option Addr) (c1 : Nat) (C1A : Option Addr) (C1c : Nat) (g2 : Nat) (A2 : Option Addr) (c2 : Nat) (C2A : Option Addr) (C2c : Nat) (g9 : Nat) (W : World) (HBC : Hid (Below w0.heap.size w0 W)) (G1 : Hid (W.heap[g1]? = some (.cells #[.int .i64 hh] 3 (0, 0)))) (F1 : Hid (Bs W (.slice A1 (i8B hh).length c1) (i8B hh))) (C1 : Hid (Bs W (.slice C1A hp.length C1c) hp)) (G2 : Hid (W.heap[g2]? = some (.cells #[.int .i64 hn] 3 (0, 0)))) (F2 : Hid (Bs W (.slice A2 (i8B hn).length c2) (i8B hn))) (C2 : Hid (Bs W (.slice C2A hr.length C2c) hr)) (GB : Hid (W.heap[g9]? = some (.cells #[.slice A1 (i8B hh).length c1, .slice C1A hp.length C1c, .slice A2 (i8B hn).length c2, .slice C2A hr.length C2c] 58 (0, 0)))), G 2 #[true, true, true, true, true, true, true, true, true, true, true, true, true, true, true, false, false] ⟨#[agH hh hp hn hr, .pointer (some ⟨w.heap.size, 0, none⟩), .string ⟨#[]⟩, .pointer (some ⟨w.heap.size, 0, none⟩), .int .i64 hh, .slice (some ⟨g1, 0, none⟩) 1 1, .slice A1 (i8B hh).length c1, .pointer (some ⟨w.heap.size, 1, none⟩), .string (strB hp), .slice C1A hp.length C1c, .pointer (some ⟨w.heap.size, 2, none⟩), .int .i64 hn, .slice (some ⟨g2, 0, none⟩) 1 1, .slice A2 (i8B hn).length c2, .pointer (some ⟨w.heap.size, 3, none⟩), .string (strB hr), .slice C2A hr.length C2c, .slice (some ⟨g9, 0, none⟩) 4 4, undef], []⟩ W := by
    intro g1 A1 c1 C1A C1c g2 A2 c2 C2A C2c g9 W HBC G1 F1 C1 G2 F2 C2 GB
    rw [hG]
    have hHeld : ((fun W => W.cell? ⟨w.heap.size, 0, none⟩ = some (.int .i64 hh) ∧ W.cell? ⟨w.heap.size, 1, none⟩ = some (.string (strB hp)) ∧ W.cell? ⟨w.heap.size, 2, none⟩ = some (.int .i64 hn) ∧ W.cell? ⟨w.heap.size, 3, none⟩ = some (.string (strB hr)))) W := HK.out _ HBC.out
    refine wpAnyH_ready (rs := [15]) (by kernel_rfl) (by simp) ?_
    refine AllReadyH.cons (o := ?o41) ?g41 (fun K hK => ?j41) AllReadyH.nil
    case g41 => (simp only [gA, gB, gC]; rfl)
    case j41 =>
      go_simp
      (go_at_call 34; refine (HOF.out _ _ (bss_heap (vs := [.slice A1 (i8B hh).length c1, .slice C1A hp.length C1c, .slice A2 (i8B hn).length c2, .slice C2A hr.length C2c]) GB.out [i8B hh, hp, i8B hn, hr] 4 rfl (by decide) ⟨F1.out, C1.out, F2.out, C2.out, trivial⟩)).mono ?_)
      rintro e wz ⟨rfl, hbm⟩
      refine hK.out _ _ (by (try dsimp only); exact HK.out _ (bel2M HBC.out hbm)) (fun _ => ?_)
      (try simp only [Act.put, sA, sB, sC])
      refine wpAnyH_norm (fuel' := 1) (listed' := #[true, true, true, true, true, true, true, true, true, true, true, true, true, true, true, true, false]) (by kernel_rfl) (by kernel_rfl) ?_
      have hst := st_2_3_6_9_10_13_14_15 g1 A1 c1 C1A C1c g2 A2 c2 C2A C2c g9 _ (Lib.hid (bel2M HBC.out hbm)) (Lib.hid (heapB G1.out hbm)) (Lib.hid (F1.out.below hbm (Nat.le_refl _))) (Lib.hid (C1.out.below hbm (Nat.le_refl _))) (Lib.hid (heapB G2.out hbm)) (Lib.hid (F2.out.below hbm (Nat.le_refl _))) (Lib.hid (C2.out.below hbm (Nat.le_refl _))) (Lib.hid (heapB GB.out hbm))
      rw [hG] at hst
      exact hst
  have st_2_3_6_9_10_13 : ∀ (g1 : Nat) (A1 : Option Addr) (c1 : Nat) (C1A : Option Addr) (C1c : Nat) (g2 : Nat) (A2 : Option Addr) (c2 : Nat) (C2A : Option Addr) (C2c : Nat) (W : World) (HBC : Hid (Below w0.heap.size w0 W)) (G1 : Hid (W.heap[g1]? = some (.cells #[.int .i64 hh] 3 (0, 0)))) (F1 : Hid (Bs W (.slice A1 (i8B hh).length c1) (i8B hh))) (C1 : Hid (Bs W (.slice C1A hp.length C1c) hp)) (G2 : Hid (W.heap[g2]? = some (.cells #[.int .i64 hn] 3 (0, 0)))) (F2 : Hid (Bs W (.slice A2 (i8B hn).length c2) (i8B hn))) (C2 : Hid (Bs W (.slice C2A hr.length C2c) hr)), G 3 #[true, true, true, true, true, true, true, true, true, true, true, true, true, true, false, false, false] ⟨#[agH hh hp hn hr, .pointer (some ⟨w.heap.size, 0, none⟩), .string ⟨#[]⟩, .pointer (some ⟨w.heap.size, 0, none⟩), .int .i64 hh, .slice (some ⟨g1, 0, none⟩) 1 1, .slice A1 (i8B hh).length c1, .pointer (some ⟨w.heap.size, 1, none⟩), .string (strB hp), .slice C1A hp.length C1c, .pointer (some ⟨w.heap.size, 2, none⟩), .int .i64 hn, .slice (some ⟨g2, 0, none⟩) 1 1, .slice A2 (i8B hn).length c2, .pointer (some ⟨w.heap.size, 3, none⟩), .string (strB hr), .slice C2A hr.length C2c, undef, undef], []⟩ W := by
    intro g1 A1 c1 C1A C1c g2 A2 c2 C2A C2c W HBC G1 F1 C1 G2 F2 C2
    rw [hG]
    have hHeld : ((fun W => W.cell? ⟨w.heap.size, 0, none⟩ = some (.int .i64 hh) ∧ W.cell? ⟨w.heap.size, 1, none⟩ = some (.string (strB hp)) ∧ W.cell? ⟨w.heap.size, 2, none⟩ = some (.int .i64 hn) ∧ W.cell? ⟨w.heap.size, 3, none⟩ = some (.string (strB hr)))) W := HK.out _ HBC.out
    refine wpAnyH_ready (rs := [14]) (by kernel_rfl) (by simp) ?_
    refine AllReadyH.cons (o := ?o42) ?g42 (fun K hK => ?j42) AllReadyH.nil
    case g42 => (simp only [gA, gB, gC]; rfl)
    case j42 =>
      refine step_built rfl 98 4 _ rfl #[.slice A1 (i8B hh).length c1, .slice C1A hp.length C1c, .slice A2 (i8B hn).length c2, .slice C2A hr.length C2c] 58 (fun W => by go_simp) ?_
      intro g9 w' hg hbm hge
      have GB := Lib.hid hg
      refine hK.out _ _ (by (try dsimp only); exact HK.out _ (bel2M HBC.out hbm)) (fun _ => ?_)
      (try simp only [Act.put, sA, sB, sC])
      refine wpAnyH_norm (fuel' := 2) (listed' := #[true, true, true, true, true, true, true, true, true, true, true, true, true, true, true, false, false]) (by kernel_rfl) (by kernel_rfl) ?_
      have hst := st_2_3_6_9_10_13_14 g1 A1 c1 C1A C1c g2 A2 c2 C2A C2c g9 _ (Lib.hid (bel2M HBC.out hbm)) (Lib.hid (heapB G1.out hbm)) (Lib.hid (F1.out.below hbm (Nat.le_refl _))) (Lib.hid (C1.out.below hbm (Nat.le_refl _))) (Lib.hid (heapB G2.out hbm)) (Lib.hid (F2.out.below hbm (Nat.le_refl _))) (Lib.hid (C2.out.below hbm (Nat.le_refl _))) GB
      rw [hG] at hst
      exact hst
  have st_2_3_6_9_13 : ∀ (g1 : Nat) (A1 : Option Addr) (c1 : Nat) (C1A : Option Addr) (C1c : Nat) (g2 : Nat) (C2A : Option Addr) (C2c : Nat) (W : World) (HBC : Hid (Below w0.heap.size w0 W)) (G1 : Hid (W.heap[g1]? = some (.cells #[.int .i64 hh] 3 (0, 0)))) (F1 : Hid (Bs W (.slice A1 (i8B hh).length c1) (i8B hh))) (C1 : Hid (Bs W (.slice C1A hp.length C1c) hp)) (G2 : Hid (W.heap[g2]? = some (.cells #[.int .i64 hn] 3 (0, 0)))) (C2 : Hid (Bs W (.slice C2A hr.length C2c) hr)), G 4 #[true, true, true, true, true, true, true, true, true, true, false, true, true, true, false, false, false] ⟨#[agH hh hp hn hr, .pointer (some ⟨w.heap.size, 0, none⟩), .string ⟨#[]⟩, .pointer (some ⟨w.heap.size, 0, none⟩), .int .i64 hh, .slice (some ⟨g1, 0, none⟩) 1 1, .slice A1 (i8B hh).length c1, .pointer (some ⟨w.heap.size, 1, none⟩), .string (strB hp), .slice C1A hp.length C1c, .pointer (some ⟨w.heap.size, 2, none⟩), .int .i64 hn, .slice (some ⟨g2, 0, none⟩) 1 1, undef, .pointer (some ⟨w.heap.size, 3, none⟩), .string (strB hr), .slice C2A hr.length C2c, undef, undef], []⟩ W := by
    intro g1 A1 c1 C1A C1c g2 C2A C2c W HBC G1 F1 C1 G2 C2
    rw [hG]
    have hHeld : ((fun W => W.cell? ⟨w.heap.size, 0, none⟩ = some (.int .i64 hh) ∧ W.cell? ⟨w.heap.size, 1, none⟩ = some (.string (strB hp)) ∧ W.cell? ⟨w.heap.size, 2, none⟩ = some (.int .i64 hn) ∧ W.cell? ⟨w.heap.size, 3, none⟩ = some (.string (strB hr)))) W := HK.out _ HBC.out
    refine wpAnyH_ready (rs := [10]) (by kernel_rfl) (by simp) ?_
    refine AllReadyH.cons (o := ?o43) ?g43 (fun K hK => ?j43) AllReadyH.nil
    case g43 => (simp only [gA, gB, gC]; rfl)
    case j43 =>
      go_simp
      (go_at_call 89; refine (HP.out hn _ _ G2.out).mono ?_)
      rintro e wa ⟨va, rfl, hoa, hbm⟩
      obtain ⟨A2, c2, rfl, -⟩ := (own_bs hoa).open
      have F2 := Lib.hid (own_bs hoa)
      refine hK.out _ _ (by (try dsimp only); exact HK.out _ (bel2M HBC.out hbm)) (fun _ => ?_)
      (try simp only [Act.put, sA, sB, sC])
      refine wpAnyH_norm (fuel' := 3) (listed' := #[true, true, true, true, true, true, true, true, true, true, true, true, true, true, false, false, false]) (by kernel_rfl) (by kernel_rfl) ?_
      have hst := st_2_3_6_9_10_13 g1 A1 c1 C1A C1c g2 A2 c2 C2A C2c _ (Lib.hid (bel2M HBC.out hbm)) (Lib.hid (heapB G1.out hbm)) (Lib.hid (F1.out.below hbm (Nat.le_refl _))) (Lib.hid (C1.out.below hbm (Nat.le_refl _))) (Lib.hid (heapB G2.out hbm)) F2 (Lib.hid (C2.out.below hbm (Nat.le_refl _)))
      rw [hG] at hst
      exact hst
  have st_2_3_9_10_13 : ∀ (g1 : Nat) (A1 : Option Addr) (c1 : Nat) (g2 : Nat) (A2 : Option Addr) (c2 : Nat) (C2A : Option Addr) (C2c : Nat) (W : World) (HBC : Hid (Below w0.heap.size w0 W)) (G1 : Hid (W.heap[g1]? = some (.cells #[.int .i64 hh] 3 (0, 0)))) (F1 : Hid (Bs W (.slice A1 (i8B hh).length c1) (i8B hh))) (G2 : Hid (W.heap[g2]? = some (.cells #[.int .i64 hn] 3 (0, 0)))) (F2 : Hid (Bs W (.slice A2 (i8B hn).length c2) (i8B hn))) (C2 : Hid (Bs W (.slice C2A hr.length C2c) hr)), G 4 #[true, true, true, true, true, true, false, true, true, true, true, true, true, true, false, false, false] ⟨#[agH hh hp hn hr, .pointer (some ⟨w.heap.size, 0, none⟩), .string ⟨#[]⟩, .pointer (some ⟨w.heap.size, 0, none⟩), .int .i64 hh, .slice (some ⟨g1, 0, none⟩) 1 1, .slice A1 (i8B hh).length c1, .pointer (some ⟨w.heap.size, 1, none⟩), .string (strB hp), undef, .pointer (some ⟨w.heap.size, 2, none⟩), .int .i64 hn, .slice (some ⟨g2, 0, none⟩) 1 1, .slice A2 (i8B hn).length c2, .pointer (some ⟨w.heap.size, 3, none⟩), .string (strB hr), .slice C2A hr.length C2c, undef, undef], []⟩ W := by
    intro g1 A1 c1 g2 A2 c2 C2A C2c W HBC G1 F1 G2 F2 C2
    rw [hG]
    have hHeld : ((fun W => W.cell? ⟨w.heap.size, 0, none⟩ = some (.int .i64 hh) ∧ W.cell? ⟨w.heap.size, 1, none⟩ = some (.string (strB hp)) ∧ W.cell? ⟨w.heap.size, 2, none⟩ = some (.int .i64 hn) ∧ W.cell? ⟨w.heap.size, 3, none⟩ = some (.string (strB hr)))) W := HK.out _ HBC.out
    refine wpAnyH_ready (rs := [6]) (by kernel_rfl) (by simp) ?_
    refine AllReadyH.cons (o := ?o44) ?g44 (fun K hK => ?j44) AllReadyH.nil
    case g44 => (simp only [gA, gB, gC]; rfl)
    case j44 =>
      refine step_conv rfl _ 29 58 rfl _ Try.underlying29 Try.underlying58 Try.underlying5 hp rfl (HC1.out) ?_
      intro C1A C1c w' hcs hbm
      have C1 := Lib.hid hcs
      refine hK.out _ _ (by (try dsimp only); exact HK.out _ (bel2M HBC.out hbm)) (fun _ => ?_)
      (try simp only [Act.put, sA, sB, sC])
      refine wpAnyH_norm (fuel' := 3) (listed' := #[true, true, true, true, true, true, true, true, true, true, true, true, true, true, false, false, false]) (by kernel_rfl) (by kernel_rfl) ?_
      have hst := st_2_3_6_9_10_13 g1 A1 c1 C1A C1c g2 A2 c2 C2A C2c _ (Lib.hid (bel2M HBC.out hbm)) (Lib.hid (heapB G1.out hbm)) (Lib.hid (F1.out.below hbm (Nat.le_refl _))) C1 (Lib.hid (heapB G2.out hbm)) (Lib.hid (F2.out.below hbm (Nat.le_refl _))) (Lib.hid (C2.out.below hbm (Nat.le_refl _)))
      rw [hG] at hst
      exact hst
  have st_2_3_6_9_10 : ∀ (g1 : Nat) (A1 : Option Addr) (c1 : Nat) (C1A : Option Addr) (C1c : Nat) (g2 : Nat) (A2 : Option Addr) (c2 : Nat) (W : World) (HBC : Hid (Below w0.heap.size w0 W)) (G1 : Hid (W.heap[g1]? = some (.cells #[.int .i64 hh] 3 (0, 0)))) (F1 : Hid (Bs W (.slice A1 (i8B hh).length c1) (i8B hh))) (C1 : Hid (Bs W (.slice C1A hp.length C1c) hp)) (G2 : Hid (W.heap[g2]? = some (.cells #[.int .i64 hn] 3 (0, 0)))) (F2 : Hid (Bs W (.slice A2 (i8B hn).length c2) (i8B hn))), G 4 #[true, true, true, true, true, true, true, true, true, true, true, true, true, false, false, false, false] ⟨#[agH hh hp hn hr, .pointer (some ⟨w.heap.size, 0, none⟩), .string ⟨#[]⟩, .pointer (some ⟨w.heap.size, 0, none⟩), .int .i64 hh, .slice (some ⟨g1, 0, none⟩) 1 1, .slice A1 (i8B hh).length c1, .pointer (some ⟨w.heap.size, 1, none⟩), .string (strB hp), .slice C1A hp.length C1c, .pointer (some ⟨w.heap.size, 2, none⟩), .int .i64 hn, .slice (some ⟨g2, 0, none⟩) 1 1, .slice A2 (i8B hn).length c2, .pointer (some ⟨w.heap.size, 3, none⟩), .string (strB hr), undef, undef, undef], []⟩ W := by
    intro g1 A1 c1 C1A C1c g2 A2 c2 W HBC G1 F1 C1 G2 F2
    rw [hG]
    have hHeld : ((fun W => W.cell? ⟨w.heap.size, 0, none⟩ = some (.int .i64 hh) ∧ W.cell? ⟨w.heap.size, 1, none⟩ = some (.string (strB hp)) ∧ W.cell? ⟨w.heap.size, 2, none⟩ = some (.int .i64 hn) ∧ W.cell? ⟨w.heap.size, 3, none⟩ = some (.string (strB hr)))) W := HK.out _ HBC.out
    refine wpAnyH_ready (rs := [13]) (by kernel_rfl) (by simp) ?_
    refine AllReadyH.cons (o := ?o45) ?g45 (fun K hK => ?j45) AllReadyH.nil
    case g45 => (simp only [gA, gB, gC]; rfl)
    case j45 =>
      refine step_conv rfl _ 29 58 rfl _ Try.underlying29 Try.underlying58 Try.underlying5 hr rfl (HC2.out) ?_
      intro C2A C2c w' hcs hbm
      have C2 := Lib.hid hcs
      refine hK.out _ _ (by (try dsimp only); exact HK.out _ (bel2M HBC.out hbm)) (fun _ => ?_)
      (try simp only [Act.put, sA, sB, sC])
      refine wpAnyH_norm (fuel' := 3) (listed' := #[true, true, true, true, true, true, true, true, true, true, true, true, true, true, false, false, false]) (by kernel_rfl) (by kernel_rfl) ?_
      have hst := st_2_3_6_9_10_13 g1 A1 c1 C1A C1c g2 A2 c2 C2A C2c _ (Lib.hid (bel2M HBC.out hbm)) (Lib.hid (heapB G1.out hbm)) (Lib.hid (F1.out.below hbm (Nat.le_refl _))) (Lib.hid (C1.out.below hbm (Nat.le_refl _))) (Lib.hid (heapB G2.out hbm)) (Lib.hid (F2.out.below hbm (Nat.le_refl _))) C2
      rw [hG] at hst
      exact hst
  have st_2_6_9_13 : ∀ (g1 : Nat) (C1A : Option Addr) (C1c : Nat) (g2 : Nat) (C2A : Option Addr) (C2c : Nat) (W : World) (HBC : Hid (Below w0.heap.size w0 W)) (G1 : Hid (W.heap[g1]? = some (.cells #[.int .i64 hh] 3 (0, 0)))) (C1 : Hid (Bs W (.slice C1A hp.length C1c) hp)) (G2 : Hid (W.heap[g2]? = some (.cells #[.int .i64 hn] 3 (0, 0)))) (C2 : Hid (Bs W (.slice C2A hr.length C2c) hr)), G 5 #[true, true, true, false, true, true, true, true, true, true, false, true, true, true, false, false, false] ⟨#[agH hh hp hn hr, .pointer (some ⟨w.heap.size, 0, none⟩), .string ⟨#[]⟩, .pointer (some ⟨w.heap.size, 0, none⟩), .int .i64 hh, .slice (some ⟨g1, 0, none⟩) 1 1, undef, .pointer (some ⟨w.heap.size, 1, none⟩), .string (strB hp), .slice C1A hp.length C1c, .pointer (some ⟨w.heap.size, 2, none⟩), .int .i64 hn, .slice (some ⟨g2, 0, none⟩) 1 1, undef, .pointer (some ⟨w.heap.size, 3, none⟩), .string (strB hr), .slice C2A hr.length C2c, undef, undef], []⟩ W := by
    intro g1 C1A C1c g2 C2A C2c W HBC G1 C1 G2 C2
    rw [hG]
    have hHeld : ((fun W => W.cell? ⟨w.heap.size, 0, none⟩ = some (.int .i64 hh) ∧ W.cell? ⟨w.heap.size, 1, none⟩ = some (.string (strB hp)) ∧ W.cell? ⟨w.heap.size, 2, none⟩ = some (.int .i64 hn) ∧ W.cell? ⟨w.heap.size, 3, none⟩ = some (.string (strB hr)))) W := HK.out _ HBC.out
    refine wpAnyH_ready (rs := [3]) (by kernel_rfl) (by simp) ?_
    refine AllReadyH.cons (o := ?o46) ?g46 (fun K hK => ?j46) AllReadyH.nil
    case g46 => (simp only [gA, gB, gC]; rfl)
    case j46 =>
      go_simp
      (go_at_call 89; refine (HP.out hh _ _ G1.out).mono ?_)
      rintro e wa ⟨va, rfl, hoa, hbm⟩
      obtain ⟨A1, c1, rfl, -⟩ := (own_bs hoa).open
      have F1 := Lib.hid (own_bs hoa)
      refine hK.out _ _ (by (try dsimp only); exact HK.out _ (bel2M HBC.out hbm)) (fun _ => ?_)
      (try simp only [Act.put, sA, sB, sC])
      refine wpAnyH_norm (fuel' := 4) (listed' := #[true, true, true, true, true, true, true, true, true, true, false, true, true, true, false, false, false]) (by kernel_rfl) (by kernel_rfl) ?_
      have hst := st_2_3_6_9_13 g1 A1 c1 C1A C1c g2 C2A C2c _ (Lib.hid (bel2M HBC.out hbm)) (Lib.hid (heapB G1.out hbm)) F1 (Lib.hid (C1.out.below hbm (Nat.le_refl _))) (Lib.hid (heapB G2.out hbm)) (Lib.hid (C2.out.below hbm (Nat.le_refl _)))
      rw [hG] at hst
      exact hst
  have st_2_3_9_13 : ∀ (g1 : Nat) (A1 : Option Addr) (c1 : Nat) (g2 : Nat) (C2A : Option Addr) (C2c : Nat) (W : World) (HBC : Hid (Below w0.heap.size w0 W)) (G1 : Hid (W.heap[g1]? = some (.cells #[.int .i64 hh] 3 (0, 0)))) (F1 : Hid (Bs W (.slice A1 (i8B hh).length c1) (i8B hh))) (G2 : Hid (W.heap[g2]? = some (.cells #[.int .i64 hn] 3 (0, 0)))) (C2 : Hid (Bs W (.slice C2A hr.length C2c) hr)), G 5 #[true, true, true, true, true, true, false, true, true, true, false, true, true, true, false, false, false] ⟨#[agH hh hp hn hr, .pointer (some ⟨w.heap.size, 0, none⟩), .string ⟨#[]⟩, .pointer (some ⟨w.heap.size, 0, none⟩), .int .i64 hh, .slice (some ⟨g1, 0, none⟩) 1 1, .slice A1 (i8B hh).length c1, .pointer (some ⟨w.heap.size, 1, none⟩), .string (strB hp), undef, .pointer (some ⟨w.heap.size, 2, none⟩), .int .i64 hn, .slice (some ⟨g2, 0, none⟩) 1 1, undef, .pointer (some ⟨w.heap.size, 3, none⟩), .string (strB hr), .slice C2A hr.length C2c, undef, undef], []⟩ W := by
    intro g1 A1 c1 g2 C2A C2c W HBC G1 F1 G2 C2
    rw [hG]
    have hHeld : ((fun W => W.cell? ⟨w.heap.size, 0, none⟩ = some (.int .i64 hh) ∧ W.cell? ⟨w.heap.size, 1, none⟩ = some (.string (strB hp)) ∧ W.cell? ⟨w.heap.size, 2, none⟩ = some (.int .i64 hn) ∧ W.cell? ⟨w.heap.size, 3, none⟩ = some (.string (strB hr)))) W := HK.out _ HBC.out
    refine wpAnyH_ready (rs := [6, 10]) (by kernel_rfl) (by simp) ?_
    refine AllReadyH.cons (o := ?o47) ?g47 (fun K hK => ?j47) (AllReadyH.cons (o := ?o48) ?g48 (fun K hK => ?j48) AllReadyH.nil)
    case g47 => (simp only [gA, gB, gC]; rfl)
    case g48 => (simp only [gA, gB, gC]; rfl)
    case j47 =>
      refine step_conv rfl _ 29 58 rfl _ Try.underlying29 Try.underlying58 Try.underlying5 hp rfl (HC1.out) ?_
      intro C1A C1c w' hcs hbm
      have C1 := Lib.hid hcs
      refine hK.out _ _ (by (try dsimp only); exact HK.out _ (bel2M HBC.out hbm)) (fun _ => ?_)
      (try simp only [Act.put, sA, sB, sC])
      refine wpAnyH_norm (fuel' := 4) (listed' := #[true, true, true, true, true, true, true, true, true, true, false, true, true, true, false, false, false]) (by kernel_rfl) (by kernel_rfl) ?_
      have hst := st_2_3_6_9_13 g1 A1 c1 C1A C1c g2 C2A C2c _ (Lib.hid (bel2M HBC.out hbm)) (Lib.hid (heapB G1.out hbm)) (Lib.hid (F1.out.below hbm (Nat.le_refl _))) C1 (Lib.hid (heapB G2.out hbm)) (Lib.hid (C2.out.below hbm (Nat.le_refl _)))
      rw [hG] at hst
      exact hst
    case j48 =>
      go_simp
      (go_at_call 89; refine (HP.out hn _ _ G2.out).mono ?_)
      rintro e wa ⟨va, rfl, hoa, hbm⟩
      obtain ⟨A2, c2, rfl, -⟩ := (own_bs hoa).open
      have F2 := Lib.hid (own_bs hoa)
      refine hK.out _ _ (by (try dsimp only); exact HK.out _ (bel2M HBC.out hbm)) (fun _ => ?_)
      (try simp only [Act.put, sA, sB, sC])
      refine wpAnyH_norm (fuel' := 4) (listed' := #[true, true, true, true, true, true, false, true, true, true, true, true, true, true, false, false, false]) (by kernel_rfl) (by kernel_rfl) ?_
      have hst := st_2_3_9_10_13 g1 A1 c1 g2 A2 c2 C2A C2c _ (Lib.hid (bel2M HBC.out hbm)) (Lib.hid (heapB G1.out hbm)) (Lib.hid (F1.out.below hbm (Nat.le_refl _))) (Lib.hid (heapB G2.out hbm)) F2 (Lib.hid (C2.out.below hbm (Nat.le_refl _)))
      rw [hG] at hst
      exact hst
  have st_2_3_6_13 : ∀ (g1 : Nat) (A1 : Option Addr) (c1 : Nat) (C1A : Option Addr) (C1c : Nat) (C2A : Option Addr) (C2c : Nat) (W : World) (HBC : Hid (Below w0.heap.size w0 W)) (G1 : Hid (W.heap[g1]? = some (.cells #[.int .i64 hh] 3 (0, 0)))) (F1 : Hid (Bs W (.slice A1 (i8B hh).length c1) (i8B hh))) (C1 : Hid (Bs W (.slice C1A hp.length C1c) hp)) (C2 : Hid (Bs W (.slice C2A hr.length C2c) hr)), G 5 #[true, true, true, true, true, true, true, true, true, false, false, true, true, true, false, false, false] ⟨#[agH hh hp hn hr, .pointer (some ⟨w.heap.size, 0, none⟩), .string ⟨#[]⟩, .pointer (some ⟨w.heap.size, 0, none⟩), .int .i64 hh, .slice (some ⟨g1, 0, none⟩) 1 1, .slice A1 (i8B hh).length c1, .pointer (some ⟨w.heap.size, 1, none⟩), .string (strB hp), .slice C1A hp.length C1c, .pointer (some ⟨w.heap.size, 2, none⟩), .int .i64 hn, undef, undef, .pointer (some ⟨w.heap.size, 3, none⟩), .string (strB hr), .slice C2A hr.length C2c, undef, undef], []⟩ W := by
    intro g1 A1 c1 C1A C1c C2A C2c W HBC G1 F1 C1 C2
    rw [hG]
    have hHeld : ((fun W => W.cell? ⟨w.heap.size, 0, none⟩ = some (.int .i64 hh) ∧ W.cell? ⟨w.heap.size, 1, none⟩ = some (.string (strB hp)) ∧ W.cell? ⟨w.heap.size, 2, none⟩ = some (.int .i64 hn) ∧ W.cell? ⟨w.heap.size, 3, none⟩ = some (.string (strB hr)))) W := HK.out _ HBC.out
    refine wpAnyH_ready (rs := [9]) (by kernel_rfl) (by simp) ?_
    refine AllReadyH.cons (o := ?o49) ?g49 (fun K hK => ?j49) AllReadyH.nil
    case g49 => (simp only [gA, gB, gC]; rfl)
    case j49 =>
      refine step_built rfl 130 1 _ rfl #[.int .i64 hn] 3 (fun W => by go_simp) ?_
      intro g2 w' hg hbm hge
      have G2 := Lib.hid hg
      refine hK.out _ _ (by (try dsimp only); exact HK.out _ (bel2M HBC.out hbm)) (fun _ => ?_)
      (try simp only [Act.put, sA, sB, sC])
      refine wpAnyH_norm (fuel' := 4) (listed' := #[true, true, true, true, true, true, true, true, true, true, false, true, true, true, false, false, false]) (by kernel_rfl) (by kernel_rfl) ?_
      have hst := st_2_3_6_9_13 g1 A1 c1 C1A C1c g2 C2A C2c _ (Lib.hid (bel2M HBC.out hbm)) (Lib.hid (heapB G1.out hbm)) (Lib.hid (F1.out.below hbm (Nat.le_refl _))) (Lib.hid (C1.out.below hbm (Nat.le_refl _))) G2 (Lib.hid (C2.out.below hbm (Nat.le_refl _)))
      rw [hG] at hst
      exact hst
  have st_2_3_6_9 : ∀ (g1 : Nat) (A1 : Option Addr) (c1 : Nat) (C1A : Option Addr) (C1c : Nat) (g2 : Nat) (W : World) (HBC : Hid (Below w0.heap.size w0 W)) (G1 : Hid (W.heap[g1]? = some (.cells #[.int .i64 hh] 3 (0, 0)))) (F1 : Hid (Bs W (.slice A1 (i8B hh).length c1) (i8B hh))) (C1 : Hid (Bs W (.slice C1A hp.length C1c) hp)) (G2 : Hid (W.heap[g2]? = some (.cells #[.int .i64 hn] 3 (0, 0)))), G 5 #[true, true, true, true, true, true, true, true, true, true, false, true, true, false, false, false, false] ⟨#[agH hh hp hn hr, .pointer (some ⟨w.heap.size, 0, none⟩), .string ⟨#[]⟩, .pointer (some ⟨w.heap.size, 0, none⟩), .int .i64 hh, .slice (some ⟨g1, 0, none⟩) 1 1, .slice A1 (i8B hh).length c1, .pointer (some ⟨w.heap.size, 1, none⟩), .string (strB hp), .slice C1A hp.length C1c, .pointer (some ⟨w.heap.size, 2, none⟩), .int .i64 hn, .slice (some ⟨g2, 0, none⟩) 1 1, undef, .pointer (some ⟨w.heap.size, 3, none⟩), .string (strB hr), undef, undef, undef], []⟩ W := by
    intro g1 A1 c1 C1A C1c g2 W HBC G1 F1 C1 G2
    rw [hG]
    have hHeld : ((fun W => W.cell? ⟨w.heap.size, 0, none⟩ = some (.int .i64 hh) ∧ W.cell? ⟨w.heap.size, 1, none⟩ = some (.string (strB hp)) ∧ W.cell? ⟨w.heap.size, 2, none⟩ = some (.int .i64 hn) ∧ W.cell? ⟨w.heap.size, 3, none⟩ = some (.string (strB hr)))) W := HK.out _ HBC.out
    refine wpAnyH_ready (rs := [10, 13]) (by kernel_rfl) (by simp) ?_
    refine AllReadyH.cons (o := ?o50) ?g50 (fun K hK => ?j50) (AllReadyH.cons (o := ?o51) ?g51 (fun K hK => ?j51) AllReadyH.nil)
    case g50 => (simp only [gA, gB, gC]; rfl)
    case g51 => (simp only [gA, gB, gC]; rfl)
    case j50 =>
      go_simp
      (go_at_call 89; refine (HP.out hn _ _ G2.out).mono ?_)
      rintro e wa ⟨va, rfl, hoa, hbm⟩
      obtain ⟨A2, c2, rfl, -⟩ := (own_bs hoa).open
      have F2 := Lib.hid (own_bs hoa)
      refine hK.out _ _ (by (try dsimp only); exact HK.out _ (bel2M HBC.out hbm)) (fun _ => ?_)
      (try simp only [Act.put, sA, sB, sC])
      refine wpAnyH_norm (fuel' := 4) (listed' := #[true, true, true, true, true, true, true, true, true, true, true, true, true, false, false, false, false]) (by kernel_rfl) (by kernel_rfl) ?_
      have hst := st_2_3_6_9_10 g1 A1 c1 C1A C1c g2 A2 c2 _ (Lib.hid (bel2M HBC.out hbm)) (Lib.hid (heapB G1.out hbm)) (Lib.hid (F1.out.below hbm (Nat.le_refl _))) (Lib.hid (C1.out.below hbm (Nat.le_refl _))) (Lib.hid (heapB G2.out hbm)) F2
      rw [hG] at hst
      exact hst
    case j51 =>
      refine step_conv rfl _ 29 58 rfl _ Try.underlying29 Try.underlying58 Try.underlying5 hr rfl (HC2.out) ?_
      intro C2A C2c w' hcs hbm
      have C2 := Lib.hid hcs
      refine hK.out _ _ (by (try dsimp only); exact HK.out _ (bel2M HBC.out hbm)) (fun _ => ?_)
      (try simp only [Act.put, sA, sB, sC])
      refine wpAnyH_norm (fuel' := 4) (listed' := #[true, true, true, true, true, true, true, true, true, true, false, true, true, true, false, false, false]) (by kernel_rfl) (by kernel_rfl) ?_
      have hst := st_2_3_6_9_13 g1 A1 c1 C1A C1c g2 C2A C2c _ (Lib.hid (bel2M HBC.out hbm)) (Lib.hid (heapB G1.out hbm)) (Lib.hid (F1.out.below hbm (Nat.le_refl _))) (Lib.hid (C1.out.below hbm (Nat.le_refl _))) (Lib.hid (heapB G2.out hbm)) C2
      rw [hG] at hst
      exact hst
  have st_2_3_9_10 : ∀ (g1 : Nat) (A1 : Option Addr) (c1 : Nat) (g2 : Nat) (A2 : Option Addr) (c2 : Nat) (W : World) (HBC : Hid (Below w0.heap.size w0 W)) (G1 : Hid (W.heap[g1]? = some (.cells #[.int .i64 hh] 3 (0, 0)))) (F1 : Hid (Bs W (.slice A1 (i8B hh).length c1) (i8B hh))) (G2 : Hid (W.heap[g2]? = some (.cells #[.int .i64 hn] 3 (0, 0)))) (F2 : Hid (Bs W (.slice A2 (i8B hn).length c2) (i8B hn))), G 5 #[true, true, true, true, true, true, false, true, true, true, true, true, true, false, false, false, false] ⟨#[agH hh hp hn hr, .pointer (some ⟨w.heap.size, 0, none⟩), .string ⟨#[]⟩, .pointer (some ⟨w.heap.size, 0, none⟩), .int .i64 hh, .slice (some ⟨g1, 0, none⟩) 1 1, .slice A1 (i8B hh).length c1, .pointer (some ⟨w.heap.size, 1, none⟩), .string (strB hp), undef, .pointer (some ⟨w.heap.size, 2, none⟩), .int .i64 hn, .slice (some ⟨g2, 0, none⟩) 1 1, .slice A2 (i8B hn).length c2, .pointer (some ⟨w.heap.size, 3, none⟩), .string (strB hr), undef, undef, undef], []⟩ W := by
    intro g1 A1 c1 g2 A2 c2 W HBC G1 F1 G2 F2
    rw [hG]
    have hHeld : ((fun W => W.cell? ⟨w.heap.size, 0, none⟩ = some (.int .i64 hh) ∧ W.cell? ⟨w.heap.size, 1, none⟩ = some (.string (strB hp)) ∧ W.cell? ⟨w.heap.size, 2, none⟩ = some (.int .i64 hn) ∧ W.cell? ⟨w.heap.size, 3, none⟩ = some (.string (strB hr)))) W := HK.out _ HBC.out
    refine wpAnyH_ready (rs := [6, 13]) (by kernel_rfl) (by simp) ?_
    refine AllReadyH.cons (o := ?o52) ?g52 (fun K hK => ?j52) (AllReadyH.cons (o := ?o53) ?g53 (fun K hK => ?j53) AllReadyH.nil)
    case g52 => (simp only [gA, gB, gC]; rfl)
    case g53 => (simp only [gA, gB, gC]; rfl)
    case j52 =>
      refine step_conv rfl _ 29 58 rfl _ Try.underlying29 Try.underlying58 Try.underlying5 hp rfl (HC1.out) ?_
      intro C1A C1c w' hcs hbm
      have C1 := Lib.hid hcs
      refine hK.out _ _ (by (try dsimp only); exact HK.out _ (bel2M HBC.out hbm)) (fun _ => ?_)
      (try simp only [Act.put, sA, sB, sC])
      refine wpAnyH_norm (fuel' := 4) (listed' := #[true, true, true, true, true, true, true, true, true, true, true, true, true, false, false, false, false]) (by kernel_rfl) (by kernel_rfl) ?_
      have hst := st_2_3_6_9_10 g1 A1 c1 C1A C1c g2 A2 c2 _ (Lib.hid (bel2M HBC.out hbm)) (Lib.hid (heapB G1.out hbm)) (Lib.hid (F1.out.below hbm (Nat.le_refl _))) C1 (Lib.hid (heapB G2.out hbm)) (Lib.hid (F2.out.below hbm (Nat.le_refl _)))
      rw [hG] at hst
      exact hst
    case j53 =>
      refine step_conv rfl _ 29 58 rfl _ Try.underlying29 Try.underlying58 Try.underlying5 hr rfl (HC2.out) ?_
      intro C2A C2c w' hcs hbm
      have C2 := Lib.hid hcs
      refine hK.out _ _ (by (try dsimp only); exact HK.out _ (bel2M HBC.out hbm)) (fun _ => ?_)
      (try simp only [Act.put, sA, sB, sC])
      refine wpAnyH_norm (fuel' := 4) (listed' := #[true, true, true, true, true, true, false, true, true, true, true, true, true, true, false, false, false]) (by kernel_rfl) (by kernel_rfl) ?_
      have hst := st_2_3_9_10_13 g1 A1 c1 g2 A2 c2 C2A C2c _ (Lib.hid (bel2M HBC.out hbm)) (Lib.hid (heapB G1.out hbm)) (Lib.hid (F1.out.below hbm (Nat.le_refl _))) (Lib.hid (heapB G2.out hbm)) (Lib.hid (F2.out.below hbm (Nat.le_refl _))) C2
      rw [hG] at hst
      exact hst
  have st_6_9_13 : ∀ (C1A : Option Addr) (C1c : Nat) (g2 : Nat) (C2A : Option Addr) (C2c : Nat) (W : World) (HBC : Hid (Below w0.heap.size w0 W)) (C1 : Hid (Bs W (.slice C1A hp.length C1c) hp)) (G2 : Hid (W.heap[g2]? = some (.cells #[.int .i64 hn] 3 (0, 0)))) (C2 : Hid (Bs W (.slice C2A hr.length C2c) hr)), G 6 #[true, true, false, false, true, true, true, true, true, true, false, true, true, true, false, false, false] ⟨#[agH hh hp hn hr, .pointer (some ⟨w.heap.size, 0, none⟩), .string ⟨#[]⟩, .pointer (some ⟨w.heap.size, 0, none⟩), .int .i64 hh, undef, undef, .pointer (some ⟨w.heap.size, 1, none⟩), .string (strB hp), .slice C1A hp.length C1c, .pointer (some ⟨w.heap.size, 2, none⟩), .int .i64 hn, .slice (some ⟨g2, 0, none⟩) 1 1, undef, .pointer (some ⟨w.heap.size, 3, none⟩), .string (strB hr), .slice C2A hr.length C2c, undef, undef], []⟩ W := by
    intro C1A C1c g2 C2A C2c W HBC C1 G2 C2
    rw [hG]
    have hHeld : ((fun W => W.cell? ⟨w.heap.size, 0, none⟩ = some (.int .i64 hh) ∧ W.cell? ⟨w.heap.size, 1, none⟩ = some (.string (strB hp)) ∧ W.cell? ⟨w.heap.size, 2, none⟩ = some (.int .i64 hn) ∧ W.cell? ⟨w.heap.size, 3, none⟩ = some (.string (strB hr)))) W := HK.out _ HBC.out
    refine wpAnyH_ready (rs := [2]) (by kernel_rfl) (by simp) ?_
    refine AllReadyH.cons (o := ?o54) ?g54 (fun K hK => ?j54) AllReadyH.nil
    case g54 => (simp only [gA, gB, gC]; rfl)
    case j54 =>
      refine step_built rfl 130 1 _ rfl #[.int .i64 hh] 3 (fun W => by go_simp) ?_
      intro g1 w' hg hbm hge
      have G1 := Lib.hid hg
      refine hK.out _ _ (by (try dsimp only); exact HK.out _ (bel2M HBC.out hbm)) (fun _ => ?_)
      (try simp only [Act.put, sA, sB, sC])
      refine wpAnyH_norm (fuel' := 5) (listed' := #[true, true, true, false, true, true, true, true, true, true, false, true, true, true, false, false, false]) (by kernel_rfl) (by kernel_rfl) ?_
      have hst := st_2_6_9_13 g1 C1A C1c g2 C2A C2c _ (Lib.hid (bel2M HBC.out hbm)) G1 (Lib.hid (C1.out.below hbm (Nat.le_refl _))) (Lib.hid (heapB G2.out hbm)) (Lib.hid (C2.out.below hbm (Nat.le_refl _)))
      rw [hG] at hst
      exact hst
  have st_2_9_13 : ∀ (g1 : Nat) (g2 : Nat) (C2A : Option Addr) (C2c : Nat) (W : World) (HBC : Hid (Below w0.heap.size w0 W)) (G1 : Hid (W.heap[g1]? = some (.cells #[.int .i64 hh] 3 (0, 0)))) (G2 : Hid (W.heap[g2]? = some (.cells #[.int .i64 hn] 3 (0, 0)))) (C2 : Hid (Bs W (.slice C2A hr.length C2c) hr)), G 6 #[true, true, true, false, true, true, false, true, true, true, false, true, true, true, false, false, false] ⟨#[agH hh hp hn hr, .pointer (some ⟨w.heap.size, 0, none⟩), .string ⟨#[]⟩, .pointer (some ⟨w.heap.size, 0, none⟩), .int .i64 hh, .slice (some ⟨g1, 0, none⟩) 1 1, undef, .pointer (some ⟨w.heap.size, 1, none⟩), .string (strB hp), undef, .pointer (some ⟨w.heap.size, 2, none⟩), .int .i64 hn, .slice (some ⟨g2, 0, none⟩) 1 1, undef, .pointer (some ⟨w.heap.size, 3, none⟩), .string (strB hr), .slice C2A hr.length C2c, undef, undef], []⟩ W := by
    intro g1 g2 C2A C2c W HBC G1 G2 C2
    rw [hG]
    have hHeld : ((fun W => W.cell? ⟨w.heap.size, 0, none⟩ = some (.int .i64 hh) ∧ W.cell? ⟨w.heap.size, 1, none⟩ = some (.string (strB hp)) ∧ W.cell? ⟨w.heap.size, 2, none⟩ = some (.int .i64 hn) ∧ W.cell? ⟨w.heap.size, 3, none⟩ = some (.string (strB hr)))) W := HK.out _ HBC.out
    refine wpAnyH_ready (rs := [3, 6]) (by kernel_rfl) (by simp) ?_
    refine AllReadyH.cons (o := ?o55) ?g55 (fun K hK => ?j55) (AllReadyH.cons (o := ?o56) ?g56 (fun K hK => ?j56) AllReadyH.nil)
    case g55 => (simp only [gA, gB, gC]; rfl)
    case g56 => (simp only [gA, gB, gC]; rfl)
    case j55 =>
      go_simp
      (go_at_call 89; refine (HP.out hh _ _ G1.out).mono ?_)
      rintro e wa ⟨va, rfl, hoa, hbm⟩
      obtain ⟨A1, c1, rfl, -⟩ := (own_bs hoa).open
      have F1 := Lib.hid (own_bs hoa)
      refine hK.out _ _ (by (try dsimp only); exact HK.out _ (bel2M HBC.out hbm)) (fun _ => ?_)
      (try simp only [Act.put, sA, sB, sC])
      refine wpAnyH_norm (fuel' := 5) (listed' := #[true, true, true, true, true, true, false, true, true, true, false, true, true, true, false, false, false]) (by kernel_rfl) (by kernel_rfl) ?_
      have hst := st_2_3_9_13 g1 A1 c1 g2 C2A C2c _ (Lib.hid (bel2M HBC.out hbm)) (Lib.hid (heapB G1.out hbm)) F1 (Lib.hid (heapB G2.out hbm)) (Lib.hid (C2.out.below hbm (Nat.le_refl _)))
      rw [hG] at hst
      exact hst
    case j56 =>
      refine step_conv rfl _ 29 58 rfl _ Try.underlying29 Try.underlying58 Try.underlying5 hp rfl (HC1.out) ?_
      intro C1A C1c w' hcs hbm
      have C1 := Lib.hid hcs
      refine hK.out _ _ (by (try dsimp only); exact HK.out _ (bel2M HBC.out hbm)) (fun _ => ?_)
      (try simp only [Act.put, sA, sB, sC])
      refine wpAnyH_norm (fuel' := 5) (listed' := #[true, true, true, false, true, true, true, true, true, true, false, true, true, true, false, false, false]) (by kernel_rfl) (by kernel_rfl) ?_
      have hst := st_2_6_9_13 g1 C1A C1c g2 C2A C2c _ (Lib.hid (bel2M HBC.out hbm)) (Lib.hid (heapB G1.out hbm)) C1 (Lib.hid (heapB G2.out hbm)) (Lib.hid (C2.out.below hbm (Nat.le_refl _)))
      rw [hG] at hst
      exact hst
  have st_2_6_13 : ∀ (g1 : Nat) (C1A : Option Addr) (C1c : Nat) (C2A : Option Addr) (C2c : Nat) (W : World) (HBC : Hid (Below w0.heap.size w0 W)) (G1 : Hid (W.heap[g1]? = some (.cells #[.int .i64 hh] 3 (0, 0)))) (C1 : Hid (Bs W (.slice C1A hp.length C1c) hp)) (C2 : Hid (Bs W (.slice C2A hr.length C2c) hr)), G 6 #[true, true, true, false, true, true, true, true, true, false, false, true, true, true, false, false, false] ⟨#[agH hh hp hn hr, .pointer (some ⟨w.heap.size, 0, none⟩), .string ⟨#[]⟩, .pointer (some ⟨w.heap.size, 0, none⟩), .int .i64 hh, .slice (some ⟨g1, 0, none⟩) 1 1, undef, .pointer (some ⟨w.heap.size, 1, none⟩), .string (strB hp), .slice C1A hp.length C1c, .pointer (some ⟨w.heap.size, 2, none⟩), .int .i64 hn, undef, undef, .pointer (some ⟨w.heap.size, 3, none⟩), .string (strB hr), .slice C2A hr.length C2c, undef, undef], []⟩ W := by
    intro g1 C1A C1c C2A C2c W HBC G1 C1 C2
    rw [hG]
    have hHeld : ((fun W => W.cell? ⟨w.heap.size, 0, none⟩ = some (.int .i64 hh) ∧ W.cell? ⟨w.heap.size, 1, none⟩ = some (.string (strB hp)) ∧ W.cell? ⟨w.heap.size, 2, none⟩ = some (.int .i64 hn) ∧ W.cell? ⟨w.heap.size, 3, none⟩ = some (.string (strB hr)))) W := HK.out _ HBC.out
    refine wpAnyH_ready (rs := [3, 9]) (by kernel_rfl) (by simp) ?_
    refine AllReadyH.cons (o := ?o57) ?g57 (fun K hK => ?j57) (AllReadyH.cons (o := ?o58) ?g58 (fun K hK => ?j58) AllReadyH.nil)
    case g57 => (simp only [gA, gB, gC]; rfl)
    case g58 => (simp only [gA, gB, gC]; rfl)
    case j57 =>
      go_simp
      (go_at_call 89; refine (HP.out hh _ _ G1.out).mono ?_)
      rintro e wa ⟨va, rfl, hoa, hbm⟩
      obtain ⟨A1, c1, rfl, -⟩ := (own_bs hoa).open
      have F1 := Lib.hid (own_bs hoa)
      refine hK.out _ _ (by (try dsimp only); exact HK.out _ (bel2M HBC.out hbm)) (fun _ => ?_)
      (try simp only [Act.put, sA, sB, sC])
      refine wpAnyH_norm (fuel' := 5) (listed' := #[true, true, true, true, true, true, true, true, true, false, false, true, true, true, false, false, false]) (by kernel_rfl) (by kernel_rfl) ?_
      have hst := st_2_3_6_13 g1 A1 c1 C1A C1c C2A C2c _ (Lib.hid (bel2M HBC.out hbm)) (Lib.hid (heapB G1.out hbm)) F1 (Lib.hid (C1.out.below hbm (Nat.le_refl _))) (Lib.hid (C2.out.below hbm (Nat.le_refl _)))
      rw [hG] at hst
      exact hst
    case j58 =>
      refine step_built rfl 130 1 _ rfl #[.int .i64 hn] 3 (fun W => by go_simp) ?_
      intro g2 w' hg hbm hge
      have G2 := Lib.hid hg
      refine hK.out _ _ (by (try dsimp only); exact HK.out _ (bel2M HBC.out hbm)) (fun _ => ?_)
      (try simp only [Act.put, sA, sB, sC])
      refine wpAnyH_norm (fuel' := 5) (listed' := #[true, true, true, false, true, true, true, true, true, true, false, true, true, true, false, false, false]) (by kernel_rfl) (by kernel_rfl) ?_
      have hst := st_2_6_9_13 g1 C1A C1c g2 C2A C2c _ (Lib.hid (bel2M HBC.out hbm)) (Lib.hid (heapB G1.out hbm)) (Lib.hid (C1.out.below hbm (Nat.le_refl _))) G2 (Lib.hid (C2.out.below hbm (Nat.le_refl _)))
      rw [hG] at hst
      exact hst
  have st_2_3_13 : ∀ (g1 : Nat) (A1 : Option Addr) (c1 : Nat) (C2A : Option Addr) (C2c : Nat) (W : World) (HBC : Hid (Below w0.heap.size w0 W)) (G1 : Hid (W.heap[g1]? = some (.cells #[.int .i64 hh] 3 (0, 0)))) (F1 : Hid (Bs W (.slice A1 (i8B hh).length c1) (i8B hh))) (C2 : Hid (Bs W (.slice C2A hr.length C2c) hr)), G 6 #[true, true, true, true, true, true, false, true, true, false, false, true, true, true, false, false, false] ⟨#[agH hh hp hn hr, .pointer (some ⟨w.heap.size, 0, none⟩), .string ⟨#[]⟩, .pointer (some ⟨w.heap.size, 0, none⟩), .int .i64 hh, .slice (some ⟨g1, 0, none⟩) 1 1, .slice A1 (i8B hh).length c1, .pointer (some ⟨w.heap.size, 1, none⟩), .string (strB hp), undef, .pointer (some ⟨w.heap.size, 2, none⟩), .int .i64 hn, undef, undef, .pointer (some ⟨w.heap.size, 3, none⟩), .string (strB hr), .slice C2A hr.length C2c, undef, undef], []⟩ W := by
    intro g1 A1 c1 C2A C2c W HBC G1 F1 C2
    rw [hG]
    have hHeld : ((fun W => W.cell? ⟨w.heap.size, 0, none⟩ = some (.int .i64 hh) ∧ W.cell? ⟨w.heap.size, 1, none⟩ = some (.string (strB hp)) ∧ W.cell? ⟨w.heap.size, 2, none⟩ = some (.int .i64 hn) ∧ W.cell? ⟨w.heap.size, 3, none⟩ = some (.string (strB hr)))) W := HK.out _ HBC.out
    refine wpAnyH_ready (rs := [6, 9]) (by kernel_rfl) (by simp) ?_
    refine AllReadyH.cons (o := ?o59) ?g59 (fun K hK => ?j59) (AllReadyH.cons (o := ?o60) ?g60 (fun K hK => ?j60) AllReadyH.nil)
    case g59 => (simp only [gA, gB, gC]; rfl)
    case g60 => (simp only [gA, gB, gC]; rfl)
    case j59 =>
      refine step_conv rfl _ 29 58 rfl _ Try.underlying29 Try.underlying58 Try.underlying5 hp rfl (HC1.out) ?_
      intro C1A C1c w' hcs hbm
      have C1 := Lib.hid hcs
      refine hK.out _ _ (by (try dsimp only); exact HK.out _ (bel2M HBC.out hbm)) (fun _ => ?_)
      (try simp only [Act.put, sA, sB, sC])
      refine wpAnyH_norm (fuel' := 5) (listed' := #[true, true, true, true, true, true, true, true, true, false, false, true, true, true, false, false, false]) (by kernel_rfl) (by kernel_rfl) ?_
      have hst := st_2_3_6_13 g1 A1 c1 C1A C1c C2A C2c _ (Lib.hid (bel2M HBC.out hbm)) (Lib.hid (heapB G1.out hbm)) (Lib.hid (F1.out.below hbm (Nat.le_refl _))) C1 (Lib.hid (C2.out.below hbm (Nat.le_refl _)))
      rw [hG] at hst
      exact hst
    case j60 =>
      refine step_built rfl 130 1 _ rfl #[.int .i64 hn] 3 (fun W => by go_simp) ?_
      intro g2 w' hg hbm hge
      have G2 := Lib.hid hg
      refine hK.out _ _ (by (try dsimp only); exact HK.out _ (bel2M HBC.out hbm)) (fun _ => ?_)
      (try simp only [Act.put, sA, sB, sC])
      refine wpAnyH_norm (fuel' := 5) (listed' := #[true, true, true, true, true, true, false, true, true, true, false, true, true, true, false, false, false]) (by kernel_rfl) (by kernel_rfl) ?_
      have hst := st_2_3_9_13 g1 A1 c1 g2 C2A C2c _ (Lib.hid (bel2M HBC.out hbm)) (Lib.hid (heapB G1.out hbm)) (Lib.hid (F1.out.below hbm (Nat.le_refl _))) G2 (Lib.hid (C2.out.below hbm (Nat.le_refl _)))
      rw [hG] at hst
      exact hst
  have st_2_6_9 : ∀ (g1 : Nat) (C1A : Option Addr) (C1c : Nat) (g2 : Nat) (W : World) (HBC : Hid (Below w0.heap.size w0 W)) (G1 : Hid (W.heap[g1]? = some (.cells #[.int .i64 hh] 3 (0, 0)))) (C1 : Hid (Bs W (.slice C1A hp.length C1c) hp)) (G2 : Hid (W.heap[g2]? = some (.cells #[.int .i64 hn] 3 (0, 0)))), G 6 #[true, true, true, false, true, true, true, true, true, true, false, true, true, false, false, false, false] ⟨#[agH hh hp hn hr, .pointer (some ⟨w.heap.size, 0, none⟩), .string ⟨#[]⟩, .pointer (some ⟨w.heap.size, 0, none⟩), .int .i64 hh, .slice (some ⟨g1, 0, none⟩) 1 1, undef, .pointer (some ⟨w.heap.size, 1, none⟩), .string (strB hp), .slice C1A hp.length C1c, .pointer (some ⟨w.heap.size, 2, none⟩), .int .i64 hn, .slice (some ⟨g2, 0, none⟩) 1 1, undef, .pointer (some ⟨w.heap.size, 3, none⟩), .string (strB hr), undef, undef, undef], []⟩ W := by
    intro g1 C1A C1c g2 W HBC G1 C1 G2
    rw [hG]
    have hHeld : ((fun W => W.cell? ⟨w.heap.size, 0, none⟩ = some (.int .i64 hh) ∧ W.cell? ⟨w.heap.size, 1, none⟩ = some (.string (strB hp)) ∧ W.cell? ⟨w.heap.size, 2, none⟩ = some (.int .i64 hn) ∧ W.cell? ⟨w.heap.size, 3, none⟩ = some (.string (strB hr)))) W := HK.out _ HBC.out
    refine wpAnyH_ready (rs := [3, 13]) (by kernel_rfl) (by simp) ?_
    refine AllReadyH.cons (o := ?o61) ?g61 (fun K hK => ?j61) (AllReadyH.cons (o := ?o62) ?g62 (fun K hK => ?j62) AllReadyH.nil)
    case g61 => (simp only [gA, gB, gC]; rfl)
    case g62 => (simp only [gA, gB, gC]; rfl)
    case j61 =>
      go_simp
      (go_at_call 89; refine (HP.out hh _ _ G1.out).mono ?_)
      rintro e wa ⟨va, rfl, hoa, hbm⟩
      obtain ⟨A1, c1, rfl, -⟩ := (own_bs hoa).open
      have F1 := Lib.hid (own_bs hoa)
      refine hK.out _ _ (by (try dsimp only); exact HK.out _ (bel2M HBC.out hbm)) (fun _ => ?_)
      (try simp only [Act.put, sA, sB, sC])
      refine wpAnyH_norm (fuel' := 5) (listed' := #[true, true, true, true, true, true, true, true, true, true, false, true, true, false, false, false, false]) (by kernel_rfl) (by kernel_rfl) ?_
      have hst := st_2_3_6_9 g1 A1 c1 C1A C1c g2 _ (Lib.hid (bel2M HBC.out hbm)) (Lib.hid (heapB G1.out hbm)) F1 (Lib.hid (C1.out.below hbm (Nat.le_refl _))) (Lib.hid (heapB G2.out hbm))
      rw [hG] at hst
      exact hst
    case j62 =>
      refine step_conv rfl _ 29 58 rfl _ Try.underlying29 Try.underlying58 Try.underlying5 hr rfl (HC2.out) ?_
      intro C2A C2c w' hcs hbm
      have C2 := Lib.hid hcs
      refine hK.out _ _ (by (try dsimp only); exact HK.out _ (bel2M HBC.out hbm)) (fun _ => ?_)
      (try simp only [Act.put, sA, sB, sC])
      refine wpAnyH_norm (fuel' := 5) (listed' := #[true, true, true, false, true, true, true, true, true, true, false, true, true, true, false, false, false]) (by kernel_rfl) (by kernel_rfl) ?_
      have hst := st_2_6_9_13 g1 C1A C1c g2 C2A C2c _ (Lib.hid (bel2M HBC.out hbm)) (Lib.hid (heapB G1.out hbm)) (Lib.hid (C1.out.below hbm (Nat.le_refl _))) (Lib.hid (heapB G2.out hbm)) C2
      rw [hG] at hst
      exact hst
  have st_2_3_9 : ∀ (g1 : Nat) (A1 : Option Addr) (c1 : Nat) (g2 : Nat) (W : World) (HBC : Hid (Below w0.heap.size w0 W)) (G1 : Hid (W.heap[g1]? = some (.cells #[.int .i64 hh] 3 (0, 0)))) (F1 : Hid (Bs W (.slice A1 (i8B hh).length c1) (i8B hh))) (G2 : Hid (W.heap[g2]? = some (.cells #[.int .i64 hn] 3 (0, 0)))), G 6 #[true, true, true, true, true, true, false, true, true, true, false, true, true, false, false, false, false] ⟨#[agH hh hp hn hr, .pointer (some ⟨w.heap.size, 0, none⟩), .string ⟨#[]⟩, .pointer (some ⟨w.heap.size, 0, none⟩), .int .i64 hh, .slice (some ⟨g1, 0, none⟩) 1 1, .slice A1 (i8B hh).length c1, .pointer (some ⟨w.heap.size, 1, none⟩), .string (strB hp), undef, .pointer (some ⟨w.heap.size, 2, none⟩), .int .i64 hn, .slice (some ⟨g2, 0, none⟩) 1 1, undef, .pointer (some ⟨w.heap.size, 3, none⟩), .string (strB hr), undef, undef, undef], []⟩ W := by
    intro g1 A1 c1 g2 W HBC G1 F1 G2
    rw [hG]
    have hHeld : ((fun W => W.cell? ⟨w.heap.size, 0, none⟩ = some (.int .i64 hh) ∧ W.cell? ⟨w.heap.size, 1, none⟩ = some (.string (strB hp)) ∧ W.cell? ⟨w.heap.size, 2, none⟩ = some (.int .i64 hn) ∧ W.cell? ⟨w.heap.size, 3, none⟩ = some (.string (strB hr)))) W := HK.out _ HBC.out
    refine wpAnyH_ready (rs := [6, 10, 13]) (by kernel_rfl) (by simp) ?_
    refine AllReadyH.cons (o := ?o63) ?g63 (fun K hK => ?j63) (AllReadyH.cons (o := ?o64) ?g64 (fun K hK => ?j64) (AllReadyH.cons (o := ?o65) ?g65 (fun K hK => ?j65) AllReadyH.nil))
    case g63 => (simp only [gA, gB, gC]; rfl)
    case g64 => (simp only [gA, gB, gC]; rfl)
    case g65 => (simp only [gA, gB, gC]; rfl)
    case j63 =>
      refine step_conv rfl _ 29 58 rfl _ Try.underlying29 Try.underlying58 Try.underlying5 hp rfl (HC1.out) ?_
      intro C1A C1c w' hcs hbm
      have C1 := Lib.hid hcs
      refine hK.out _ _ (by (try dsimp only); exact HK.out _ (bel2M HBC.out hbm)) (fun _ => ?_)
      (try simp only [Act.put, sA, sB, sC])
      refine wpAnyH_norm (fuel' := 5) (listed' := #[true, true, true, true, true, true, true, true, true, true, false, true, true, false, false, false, false]) (by kernel_rfl) (by kernel_rfl) ?_
      have hst := st_2_3_6_9 g1 A1 c1 C1A C1c g2 _ (Lib.hid (bel2M HBC.out hbm)) (Lib.hid (heapB G1.out hbm)) (Lib.hid (F1.out.below hbm (Nat.le_refl _))) C1 (Lib.hid (heapB G2.out hbm))
      rw [hG] at hst
      exact hst
    case j64 =>
      go_simp
      (go_at_call 89; refine (HP.out hn _ _ G2.out).mono ?_)
      rintro e wa ⟨va, rfl, hoa, hbm⟩
      obtain ⟨A2, c2, rfl, -⟩ := (own_bs hoa).open
      have F2 := Lib.hid (own_bs hoa)
      refine hK.out _ _ (by (try dsimp only); exact HK.out _ (bel2M HBC.out hbm)) (fun _ => ?_)
      (try simp only [Act.put, sA, sB, sC])
      refine wpAnyH_norm (fuel' := 5) (listed' := #[true, true, true, true, true, true, false, true, true, true, true, true, true, false, false, false, false]) (by kernel_rfl) (by kernel_rfl) ?_
      have hst := st_2_3_9_10 g1 A1 c1 g2 A2 c2 _ (Lib.hid (bel2M HBC.out hbm)) (Lib.hid (heapB G1.out hbm)) (Lib.hid (F1.out.below hbm (Nat.le_refl _))) (Lib.hid (heapB G2.out hbm)) F2
      rw [hG] at hst
      exact hst
    case j65 =>
      refine step_conv rfl _ 29 58 rfl _ Try.underlying29 Try.underlying58 Try.underlying5 hr rfl (HC2.out) ?_
      intro C2A C2c w' hcs hbm
      have C2 := Lib.hid hcs
      refine hK.out _ _ (by (try dsimp only); exact HK.out _ (bel2M HBC.out hbm)) (fun _ => ?_)
      (try simp only [Act.put, sA, sB, sC])
      refine wpAnyH_norm (fuel' := 5) (listed' := #[true, true, true, true, true, true, false, true, true, true, false, true, true, true, false, false, false]) (by kernel_rfl) (by kernel_rfl) ?_
      have hst := st_2_3_9_13 g1 A1 c1 g2 C2A C2c _ (Lib.hid (bel2M HBC.out hbm)) (Lib.hid (heapB G1.out hbm)) (Lib.hid (F1.out.below hbm (Nat.le_refl _))) (Lib.hid (heapB G2.out hbm)) C2
      rw [hG] at hst
      exact hst
  have st_2_3_6 : ∀ (g1 : Nat) (A1 : Option Addr) (c1 : Nat) (C1A : Option Addr) (C1c : Nat) (W : World) (HBC : Hid (Below w0.heap.size w0 W)) (G1 : Hid (W.heap[g1]? = some (.cells #[.int .i64 hh] 3 (0, 0)))) (F1 : Hid (Bs W (.slice A1 (i8B hh).length c1) (i8B hh))) (C1 : Hid (Bs W (.slice C1A hp.length C1c) hp)), G 6 #[true, true, true, true, true, true, true, true, true, false, false, true, true, false, false, false, false] ⟨#[agH hh hp hn hr, .pointer (some ⟨w.heap.size, 0, none⟩), .string ⟨#[]⟩, .pointer (some ⟨w.heap.size, 0, none⟩), .int .i64 hh, .slice (some ⟨g1, 0, none⟩) 1 1, .slice A1 (i8B hh).length c1, .pointer (some ⟨w.heap.size, 1, none⟩), .string (strB hp), .slice C1A hp.length C1c, .pointer (some ⟨w.heap.size, 2, none⟩), .int .i64 hn, undef, undef, .pointer (some ⟨w.heap.size, 3, none⟩), .string (strB hr), undef, undef, undef], []⟩ W := by
    intro g1 A1 c1 C1A C1c W HBC G1 F1 C1
    rw [hG]
    have hHeld : ((fun W => W.cell? ⟨w.heap.size, 0, none⟩ = some (.int .i64 hh) ∧ W.cell? ⟨w.heap.size, 1, none⟩ = some (.string (strB hp)) ∧ W.cell? ⟨w.heap.size, 2, none⟩ = some (.int .i64 hn) ∧ W.cell? ⟨w.heap.size, 3, none⟩ = some (.string (strB hr)))) W := HK.out _ HBC.out
    refine wpAnyH_ready (rs := [9, 13]) (by kernel_rfl) (by simp) ?_
    refine AllReadyH.cons (o := ?o66) ?g66 (fun K hK => ?j66) (AllReadyH.cons (o := ?o67) ?g67 (fun K hK => ?j67) AllReadyH.nil)
    case g66 => (simp only [gA, gB, gC]; rfl)
    case g67 => (simp only [gA, gB, gC]; rfl)
    case j66 =>
      refine step_built rfl 130 1 _ rfl #[.int .i64 hn] 3 (fun W => by go_simp) ?_
      intro g2 w' hg hbm hge
      have G2 := Lib.hid hg
      refine hK.out _ _ (by (try dsimp only); exact HK.out _ (bel2M HBC.out hbm)) (fun _ => ?_)
      (try simp only [Act.put, sA, sB, sC])
      refine wpAnyH_norm (fuel' := 5) (listed' := #[true, true, true, true, true, true, true, true, true, true, false, true, true, false, false, false, false]) (by kernel_rfl) (by kernel_rfl) ?_
      have hst := st_2_3_6_9 g1 A1 c1 C1A C1c g2 _ (Lib.hid (bel2M HBC.out hbm)) (Lib.hid (heapB G1.out hbm)) (Lib.hid (F1.out.below hbm (Nat.le_refl _))) (Lib.hid (C1.out.below hbm (Nat.le_refl _))) G2
      rw [hG] at hst
      exact hst
    case j67 =>
      refine step_conv rfl _ 29 58 rfl _ Try.underlying29 Try.underlying58 Try.underlying5 hr rfl (HC2.out) ?_
      intro C2A C2c w' hcs hbm
      have C2 := Lib.hid hcs
      refine hK.out _ _ (by (try dsimp only); exact HK.out _ (bel2M HBC.out hbm)) (fun _ => ?_)
      (try simp only [Act.put, sA, sB, sC])
      refine wpAnyH_norm (fuel' := 5) (listed' := #[true, true, true, true, true, true, true, true, true, false, false, true, true, true, false, false, false]) (by kernel_rfl) (by kernel_rfl) ?_
      have hst := st_2_3_6_13 g1 A1 c1 C1A C1c C2A C2c _ (Lib.hid (bel2M HBC.out hbm)) (Lib.hid (heapB G1.out hbm)) (Lib.hid (F1.out.below hbm (Nat.le_refl _))) (Lib.hid (C1.out.below hbm (Nat.le_refl _))) C2
      rw [hG] at hst
      exact hst
  have st_9_13 : ∀ (g2 : Nat) (C2A : Option Addr) (C2c : Nat) (W : World) (HBC : Hid (Below w0.heap.size w0 W)) (G2 : Hid (W.heap[g2]? = some (.cells #[.int .i64 hn] 3 (0, 0)))) (C2 : Hid (Bs W (.slice C2A hr.length C2c) hr)), G 7 #[true, true, false, false, true, true, false, true, true, true, false, true, true, true, false, false, false] ⟨#[agH hh hp hn hr, .pointer (some ⟨w.heap.size, 0, none⟩), .string ⟨#[]⟩, .pointer (some ⟨w.heap.size, 0, none⟩), .int .i64 hh, undef, undef, .pointer (some ⟨w.heap.size, 1, none⟩), .string (strB hp), undef, .pointer (some ⟨w.heap.size, 2, none⟩), .int .i64 hn, .slice (some ⟨g2, 0, none⟩) 1 1, undef, .pointer (some ⟨w.heap.size, 3, none⟩), .string (strB hr), .slice C2A hr.length C2c, undef, undef], []⟩ W := by
    intro g2 C2A C2c W HBC G2 C2
    rw [hG]
    have hHeld : ((fun W => W.cell? ⟨w.heap.size, 0, none⟩ = some (.int .i64 hh) ∧ W.cell? ⟨w.heap.size, 1, none⟩ = some (.string (strB hp)) ∧ W.cell? ⟨w.heap.size, 2, none⟩ = some (.int .i64 hn) ∧ W.cell? ⟨w.heap.size, 3, none⟩ = some (.string (strB hr)))) W := HK.out _ HBC.out
    refine wpAnyH_ready (rs := [2, 6]) (by kernel_rfl) (by simp) ?_
    refine AllReadyH.cons (o := ?o68) ?g68 (fun K hK => ?j68) (AllReadyH.cons (o := ?o69) ?g69 (fun K hK => ?j69) AllReadyH.nil)
    case g68 => (simp only [gA, gB, gC]; rfl)
    case g69 => (simp only [gA, gB, gC]; rfl)
    case j68 =>
      refine step_built rfl 130 1 _ rfl #[.int .i64 hh] 3 (fun W => by go_simp) ?_
      intro g1 w' hg hbm hge
      have G1 := Lib.hid hg
      refine hK.out _ _ (by (try dsimp only); exact HK.out _ (bel2M HBC.out hbm)) (fun _ => ?_)
      (try simp only [Act.put, sA, sB, sC])
      refine wpAnyH_norm (fuel' := 6) (listed' := #[true, true, true, false, true, true, false, true, true, true, false, true, true, true, false, false, false]) (by kernel_rfl) (by kernel_rfl) ?_
      have hst := st_2_9_13 g1 g2 C2A C2c _ (Lib.hid (bel2M HBC.out hbm)) G1 (Lib.hid (heapB G2.out hbm)) (Lib.hid (C2.out.below hbm (Nat.le_refl _)))
      rw [hG] at hst
      exact hst
    case j69 =>
      refine step_conv rfl _ 29 58 rfl _ Try.underlying29 Try.underlying58 Try.underlying5 hp rfl (HC1.out) ?_
      intro C1A C1c w' hcs hbm
      have C1 := Lib.hid hcs
      refine hK.out _ _ (by (try dsimp only); exact HK.out _ (bel2M HBC.out hbm)) (fun _ => ?_)
      (try simp only [Act.put, sA, sB, sC])
      refine wpAnyH_norm (fuel' := 6) (listed' := #[true, true, false, false, true, true, true, true, true, true, false, true, true, true, false, false, false]) (by kernel_rfl) (by kernel_rfl) ?_
      have hst := st_6_9_13 C1A C1c g2 C2A C2c _ (Lib.hid (bel2M HBC.out hbm)) C1 (Lib.hid (heapB G2.out hbm)) (Lib.hid (C2.out.below hbm (Nat.le_refl _)))
      rw [hG] at hst
      exact hst
  have st_6_13 : ∀ (C1A : Option Addr) (C1c : Nat) (C2A : Option Addr) (C2c : Nat) (W : World) (HBC : Hid (Below w0.heap.size w0 W)) (C1 : Hid (Bs W (.slice C1A hp.length C1c) hp)) (C2 : Hid (Bs W (.slice C2A hr.length C2c) hr)), G 7 #[true, true, false, false, true, true, true, true, true, false, false, true, true, true, false, false, false] ⟨#[agH hh hp hn hr, .pointer (some ⟨w.heap.size, 0, none⟩), .string ⟨#[]⟩, .pointer (some ⟨w.heap.size, 0, none⟩), .int .i64 hh, undef, undef, .pointer (some ⟨w.heap.size, 1, none⟩), .string (strB hp), .slice C1A hp.length C1c, .pointer (some ⟨w.heap.size, 2, none⟩), .int .i64 hn, undef, undef, .pointer (some ⟨w.heap.size, 3, none⟩), .string (strB hr), .slice C2A hr.length C2c, undef, undef], []⟩ W := by
    intro C1A C1c C2A C2c W HBC C1 C2
    rw [hG]
    have hHeld : ((fun W => W.cell? ⟨w.heap.size, 0, none⟩ = some (.int .i64 hh) ∧ W.cell? ⟨w.heap.size, 1, none⟩ = some (.string (strB hp)) ∧ W.cell? ⟨w.heap.size, 2, none⟩ = some (.int .i64 hn) ∧ W.cell? ⟨w.heap.size, 3, none⟩ = some (.string (strB hr)))) W := HK.out _ HBC.out
    refine wpAnyH_ready (rs := [2, 9]) (by kernel_rfl) (by simp) ?_
    refine AllReadyH.cons (o := ?o70) ?g70 (fun K hK => ?j70) (AllReadyH.cons (o := ?o71) ?g71 (fun K hK => ?j71) AllReadyH.nil)
    case g70 => (simp only [gA, gB, gC]; rfl)
    case g71 => (simp only [gA, gB, gC]; rfl)
    case j70 =>
      refine step_built rfl 130 1 _ rfl #[.int .i64 hh] 3 (fun W => by go_simp) ?_
      intro g1 w' hg hbm hge
      have G1 := Lib.hid hg
      refine hK.out _ _ (by (try dsimp only); exact HK.out _ (bel2M HBC.out hbm)) (fun _ => ?_)
      (try simp only [Act.put, sA, sB, sC])
      refine wpAnyH_norm (fuel' := 6) (listed' := #[true, true, true, false, true, true, true, true, true, false, false, true, true, true, false, false, false]) (by kernel_rfl) (by kernel_rfl) ?_
      have hst := st_2_6_13 g1 C1A C1c C2A C2c _ (Lib.hid (bel2M HBC.out hbm)) G1 (Lib.hid (C1.out.below hbm (Nat.le_refl _))) (Lib.hid (C2.out.below hbm (Nat.le_refl _)))
      rw [hG] at hst
      exact hst
    case j71 =>
      refine step_built rfl 130 1 _ rfl #[.int .i64 hn] 3 (fun W => by go_simp) ?_
      intro g2 w' hg hbm hge
      have G2 := Lib.hid hg
      refine hK.out _ _ (by (try dsimp only); exact HK.out _ (bel2M HBC.out hbm)) (fun _ => ?_)
      (try simp only [Act.put, sA, sB, sC])
      refine wpAnyH_norm (fuel' := 6) (listed' := #[true, true, false, false, true, true, true, true, true, true, false, true, true, true, false, false, false]) (by kernel_rfl) (by kernel_rfl) ?_
      have hst := st_6_9_13 C1A C1c g2 C2A C2c _ (Lib.hid (bel2M HBC.out hbm)) (Lib.hid (C1.out.below hbm (Nat.le_refl _))) G2 (Lib.hid (C2.out.below hbm (Nat.le_refl _)))
      rw [hG] at hst
      exact hst
  have st_2_13 : ∀ (g1 : Nat) (C2A : Option Addr) (C2c : Nat) (W : World) (HBC : Hid (Below w0.heap.size w0 W)) (G1 : Hid (W.heap[g1]? = some (.cells #[.int .i64 hh] 3 (0, 0)))) (C2 : Hid (Bs W (.slice C2A hr.length C2c) hr)), G 7 #[true, true, true, false, true, true, false, true, true, false, false, true, true, true, false, false, false] ⟨#[agH hh hp hn hr, .pointer (some ⟨w.heap.size, 0, none⟩), .string ⟨#[]⟩, .pointer (some ⟨w.heap.size, 0, none⟩), .int .i64 hh, .slice (some ⟨g1, 0, none⟩) 1 1, undef, .pointer (some ⟨w.heap.size, 1, none⟩), .string (strB hp), undef, .pointer (some ⟨w.heap.size, 2, none⟩), .int .i64 hn, undef, undef, .pointer (some ⟨w.heap.size, 3, none⟩), .string (strB hr), .slice C2A hr.length C2c, undef, undef], []⟩ W := by
    intro g1 C2A C2c W HBC G1 C2
    rw [hG]
    have hHeld : ((fun W => W.cell? ⟨w.heap.size, 0, none⟩ = some (.int .i64 hh) ∧ W.cell? ⟨w.heap.size, 1, none⟩ = some (.string (strB hp)) ∧ W.cell? ⟨w.heap.size, 2, none⟩ = some (.int .i64 hn) ∧ W.cell? ⟨w.heap.size, 3, none⟩ = some (.string (strB hr)))) W := HK.out _ HBC.out
    refine wpAnyH_ready (rs := [3, 6, 9]) (by kernel_rfl) (by simp) ?_
    refine AllReadyH.cons (o := ?o72) ?g72 (fun K hK => ?j72) (AllReadyH.cons (o := ?o73) ?g73 (fun K hK => ?j73) (AllReadyH.cons (o := ?o74) ?g74 (fun K hK => ?j74) AllReadyH.nil))
    case g72 => (simp only [gA, gB, gC]; rfl)
    case g73 => (simp only [gA, gB, gC]; rfl)
    case g74 => (simp only [gA, gB, gC]; rfl)
    case j72 =>
      go_simp
      (go_at_call 89; refine (HP.out hh _ _ G1.out).mono ?_)
      rintro e wa ⟨va, rfl, hoa, hbm⟩
      obtain ⟨A1, c1, rfl, -⟩ := (own_bs hoa).open
      have F1 := Lib.hid (own_bs hoa)
      refine hK.out _ _ (by (try dsimp only); exact HK.out _ (bel2M HBC.out hbm)) (fun _ => ?_)
      (try simp only [Act.put, sA, sB, sC])
      refine wpAnyH_norm (fuel' := 6) (listed' := #[true, true, true, true, true, true, false, true, true, false, false, true, true, true, false, false, false]) (by kernel_rfl) (by kernel_rfl) ?_
      have hst := st_2_3_13 g1 A1 c1 C2A C2c _ (Lib.hid (bel2M HBC.out hbm)) (Lib.hid (heapB G1.out hbm)) F1 (Lib.hid (C2.out.below hbm (Nat.le_refl _)))
      rw [hG] at hst
      exact hst
    case j73 =>
      refine step_conv rfl _ 29 58 rfl _ Try.underlying29 Try.underlying58 Try.underlying5 hp rfl (HC1.out) ?_
      intro C1A C1c w' hcs hbm
      have C1 := Lib.hid hcs
      refine hK.out _ _ (by (try dsimp only); exact HK.out _ (bel2M HBC.out hbm)) (fun _ => ?_)
      (try simp only [Act.put, sA, sB, sC])
      refine wpAnyH_norm (fuel' := 6) (listed' := #[true, true, true, false, true, true, true, true, true, false, false, true, true, true, false, false, false]) (by kernel_rfl) (by kernel_rfl) ?_
      have hst := st_2_6_13 g1 C1A C1c C2A C2c _ (Lib.hid (bel2M HBC.out hbm)) (Lib.hid (heapB G1.out hbm)) C1 (Lib.hid (C2.out.below hbm (Nat.le_refl _)))
      rw [hG] at hst
      exact hst
    case j74 =>
      refine step_built rfl 130 1 _ rfl #[.int .i64 hn] 3 (fun W => by go_simp) ?_
      intro g2 w' hg hbm hge
      have G2 := Lib.hid hg
      refine hK.out _ _ (by (try dsimp only); exact HK.out _ (bel2M HBC.out hbm)) (fun _ => ?_)
      (try simp only [Act.put, sA, sB, sC])
      refine wpAnyH_norm (fuel' := 6) (listed' := #[true, true, true, false, true, true, false, true, true, true, false, true, true, true, false, false, false]) (by kernel_rfl) (by kernel_rfl) ?_
      have hst := st_2_9_13 g1 g2 C2A C2c _ (Lib.hid (bel2M HBC.out hbm)) (Lib.hid (heapB G1.out hbm)) G2 (Lib.hid (C2.out.below hbm (Nat.le_refl _)))
      rw [hG] at hst
      exact hst
  have st_6_9 : ∀ (C1A : Option Addr) (C1c : Nat) (g2 : Nat) (W : World) (HBC : Hid (Below w0.heap.size w0 W)) (C1 : Hid (Bs W (.slice C1A hp.length C1c) hp)) (G2 : Hid (W.heap[g2]? = some (.cells #[.int .i64 hn] 3 (0, 0)))), G 7 #[true, true, false, false, true, true, true, true, true, true, false, true, true, false, false, false, false] ⟨#[agH hh hp hn hr, .pointer (some ⟨w.heap.size, 0, none⟩), .string ⟨#[]⟩, .pointer (some ⟨w.heap.size, 0, none⟩), .int .i64 hh, undef, undef, .pointer (some ⟨w.heap.size, 1, none⟩), .string (strB hp), .slice C1A hp.length C1c, .pointer (some ⟨w.heap.size, 2, none⟩), .int .i64 hn, .slice (some ⟨g2, 0, none⟩) 1 1, undef, .pointer (some ⟨w.heap.size, 3, none⟩), .string (strB hr), undef, undef, undef], []⟩ W := by
    intro C1A C1c g2 W HBC C1 G2
    rw [hG]
    have hHeld : ((fun W => W.cell? ⟨w.heap.size, 0, none⟩ = some (.int .i64 hh) ∧ W.cell? ⟨w.heap.size, 1, none⟩ = some (.string (strB hp)) ∧ W.cell? ⟨w.heap.size, 2, none⟩ = some (.int .i64 hn) ∧ W.cell? ⟨w.heap.size, 3, none⟩ = some (.string (strB hr)))) W := HK.out _ HBC.out
    refine wpAnyH_ready (rs := [2, 13]) (by kernel_rfl) (by simp) ?_
    refine AllReadyH.cons (o := ?o75) ?g75 (fun K hK => ?j75) (AllReadyH.cons (o := ?o76) ?g76 (fun K hK => ?j76) AllReadyH.nil)
    case g75 => (simp only [gA, gB, gC]; rfl)
    case g76 => (simp only [gA, gB, gC]; rfl)
    case j75 =>
      refine step_built rfl 130 1 _ rfl #[.int .i64 hh] 3 (fun W => by go_simp) ?_
      intro g1 w' hg hbm hge
      have G1 := Lib.hid hg
      refine hK.out _ _ (by (try dsimp only); exact HK.out _ (bel2M HBC.out hbm)) (fun _ => ?_)
      (try simp only [Act.put, sA, sB, sC])
      refine wpAnyH_norm (fuel' := 6) (listed' := #[true, true, true, false, true, true, true, true, true, true, false, true, true, false, false, false, false]) (by kernel_rfl) (by kernel_rfl) ?_
      have hst := st_2_6_9 g1 C1A C1c g2 _ (Lib.hid (bel2M HBC.out hbm)) G1 (Lib.hid (C1.out.below hbm (Nat.le_refl _))) (Lib.hid (heapB G2.out hbm))
      rw [hG] at hst
      exact hst
    case j76 =>
      refine step_conv rfl _ 29 58 rfl _ Try.underlying29 Try.underlying58 Try.underlying5 hr rfl (HC2.out) ?_
      intro C2A C2c w' hcs hbm
      have C2 := Lib.hid hcs
      refine hK.out _ _ (by (try dsimp only); exact HK.out _ (bel2M HBC.out hbm)) (fun _ => ?_)
      (try simp only [Act.put, sA, sB, sC])
      refine wpAnyH_norm (fuel' := 6) (listed' := #[true, true, false, false, true, true, true, true, true, true, false, true, true, true, false, false, false]) (by kernel_rfl) (by kernel_rfl) ?_
      have hst := st_6_9_13 C1A C1c g2 C2A C2c _ (Lib.hid (bel2M HBC.out hbm)) (Lib.hid (C1.out.below hbm (Nat.le_refl _))) (Lib.hid (heapB G2.out hbm)) C2
      rw [hG] at hst
      exact hst
  have st_2_9 : ∀ (g1 : Nat) (g2 : Nat) (W : World) (HBC : Hid (Below w0.heap.size w0 W)) (G1 : Hid (W.heap[g1]? = some (.cells #[.int .i64 hh] 3 (0, 0)))) (G2 : Hid (W.heap[g2]? = some (.cells #[.int .i64 hn] 3 (0, 0)))), G 7 #[true, true, true, false, true, true, false, true, true, true, false, true, true, false, false, false, false] ⟨#[agH hh hp hn hr, .pointer (some ⟨w.heap.size, 0, none⟩), .string ⟨#[]⟩, .pointer (some ⟨w.heap.size, 0, none⟩), .int .i64 hh, .slice (some ⟨g1, 0, none⟩) 1 1, undef, .pointer (some ⟨w.heap.size, 1, none⟩), .string (strB hp), undef, .pointer (some ⟨w.heap.size, 2, none⟩), .int .i64 hn, .slice (some ⟨g2, 0, none⟩) 1 1, undef, .pointer (some ⟨w.heap.size, 3, none⟩), .string (strB hr), undef, undef, undef], []⟩ W := by
    intro g1 g2 W HBC G1 G2
    rw [hG]
    have hHeld : ((fun W => W.cell? ⟨w.heap.size, 0, none⟩ = some (.int .i64 hh) ∧ W.cell? ⟨w.heap.size, 1, none⟩ = some (.string (strB hp)) ∧ W.cell? ⟨w.heap.size, 2, none⟩ = some (.int .i64 hn) ∧ W.cell? ⟨w.heap.size, 3, none⟩ = some (.string (strB hr)))) W := HK.out _ HBC.out
    refine wpAnyH_ready (rs := [3, 6, 13]) (by kernel_rfl) (by simp) ?_
    refine AllReadyH.cons (o := ?o77) ?g77 (fun K hK => ?j77) (AllReadyH.cons (o := ?o78) ?g78 (fun K hK => ?j78) (AllReadyH.cons (o := ?o79) ?g79 (fun K hK => ?j79) AllReadyH.nil))
    case g77 => (simp only [gA, gB, gC]; rfl)
    case g78 => (simp only [gA, gB, gC]; rfl)
    case g79 => (simp only [gA, gB, gC]; rfl)
    case j77 =>
      go_simp
      (go_at_call 89; refine (HP.out hh _ _ G1.out).mono ?_)
      rintro e wa ⟨va, rfl, hoa, hbm⟩
      obtain ⟨A1, c1, rfl, -⟩ := (own_bs hoa).open
      have F1 := Lib.hid (own_bs hoa)
      refine hK.out _ _ (by (try dsimp only); exact HK.out _ (bel2M HBC.out hbm)) (fun _ => ?_)
      (try simp only [Act.put, sA, sB, sC])
      refine wpAnyH_norm (fuel' := 6) (listed' := #[true, true, true, true, true, true, false, true, true, true, false, true, true, false, false, false, false]) (by kernel_rfl) (by kernel_rfl) ?_
      have hst := st_2_3_9 g1 A1 c1 g2 _ (Lib.hid (bel2M HBC.out hbm)) (Lib.hid (heapB G1.out hbm)) F1 (Lib.hid (heapB G2.out hbm))
      rw [hG] at hst
      exact hst
    case j78 =>
      refine step_conv rfl _ 29 58 rfl _ Try.underlying29 Try.underlying58 Try.underlying5 hp rfl (HC1.out) ?_
      intro C1A C1c w' hcs hbm
      have C1 := Lib.hid hcs
      refine hK.out _ _ (by (try dsimp only); exact HK.out _ (bel2M HBC.out hbm)) (fun _ => ?_)
      (try simp only [Act.put, sA, sB, sC])
      refine wpAnyH_norm (fuel' := 6) (listed' := #[true, true, true, false, true, true, true, true, true, true, false, true, true, false, false, false, false]) (by kernel_rfl) (by kernel_rfl) ?_
      have hst := st_2_6_9 g1 C1A C1c g2 _ (Lib.hid (bel2M HBC.out hbm)) (Lib.hid (heapB G1.out hbm)) C1 (Lib.hid (heapB G2.out hbm))
      rw [hG] at hst
      exact hst
    case j79 =>
      refine step_conv rfl _ 29 58 rfl _ Try.underlying29 Try.underlying58 Try.underlying5 hr rfl (HC2.out) ?_
      intro C2A C2c w' hcs hbm
      have C2 := Lib.hid hcs
      refine hK.out _ _ (by (try dsimp only); exact HK.out _ (bel2M HBC.out hbm)) (fun _ => ?_)
      (try simp only [Act.put, sA, sB, sC])
      refine wpAnyH_norm (fuel' := 6) (listed' := #[true, true, true, false, true, true, false, true, true, true, false, true, true, true, false, false, false]) (by kernel_rfl) (by kernel_rfl) ?_
      have hst := st_2_9_13 g1 g2 C2A C2c _ (Lib.hid (bel2M HBC.out hbm)) (Lib.hid (heapB G1.out hbm)) (Lib.hid (heapB G2.out hbm)) C2
      rw [hG] at hst
      exact hst
  have st_2_6 : ∀ (g1 : Nat) (C1A : Option Addr) (C1c : Nat) (W : World) (HBC : Hid (Below w0.heap.size w0 W)) (G1 : Hid (W.heap[g1]? = some (.cells #[.int .i64 hh] 3 (0, 0)))) (C1 : Hid (Bs W (.slice C1A hp.length C1c) hp)), G 7 #[true, true, true, false, true, true, true, true, true, false, false, true, true, false, false, false, false] ⟨#[agH hh hp hn hr, .pointer (some ⟨w.heap.size, 0, none⟩), .string ⟨#[]⟩, .pointer (some ⟨w.heap.size, 0, none⟩), .int .i64 hh, .slice (some ⟨g1, 0, none⟩) 1 1, undef, .pointer (some ⟨w.heap.size, 1, none⟩), .string (strB hp), .slice C1A hp.length C1c, .pointer (some ⟨w.heap.size, 2, none⟩), .int .i64 hn, undef, undef, .pointer (some ⟨w.heap.size, 3, none⟩), .string (strB hr), undef, undef, undef], []⟩ W := by
    intro g1 C1A C1c W HBC G1 C1
    rw [hG]
    have hHeld : ((fun W => W.cell? ⟨w.heap.size, 0, none⟩ = some (.int .i64 hh) ∧ W.cell? ⟨w.heap.size, 1, none⟩ = some (.string (strB hp)) ∧ W.cell? ⟨w.heap.size, 2, none⟩ = some (.int .i64 hn) ∧ W.cell? ⟨w.heap.size, 3, none⟩ = some (.string (strB hr)))) W := HK.out _ HBC.out
    refine wpAnyH_ready (rs := [3, 9, 13]) (by kernel_rfl) (by simp) ?_
    refine AllReadyH.cons (o := ?o80) ?g80 (fun K hK => ?j80) (AllReadyH.cons (o := ?o81) ?g81 (fun K hK => ?j81) (AllReadyH.cons (o := ?o82) ?g82 (fun K hK => ?j82) AllReadyH.nil))
    case g80 => (simp only [gA, gB, gC]; rfl)
    case g81 => (simp only [gA, gB, gC]; rfl)
    case g82 => (simp only [gA, gB, gC]; rfl)
    case j80 =>
      go_simp
      (go_at_call 89; refine (HP.out hh _ _ G1.out).mono ?_)
      rintro e wa ⟨va, rfl, hoa, hbm⟩
      obtain ⟨A1, c1, rfl, -⟩ := (own_bs hoa).open
      have F1 := Lib.hid (own_bs hoa)
      refine hK.out _ _ (by (try dsimp only); exact HK.out _ (bel2M HBC.out hbm)) (fun _ => ?_)
      (try simp only [Act.put, sA, sB, sC])
      refine wpAnyH_norm (fuel' := 6) (listed' := #[true, true, true, true, true, true, true, true, true, false, false, true, true, false, false, false, false]) (by kernel_rfl) (by kernel_rfl) ?_
      have hst := st_2_3_6 g1 A1 c1 C1A C1c _ (Lib.hid (bel2M HBC.out hbm)) (Lib.hid (heapB G1.out hbm)) F1 (Lib.hid (C1.out.below hbm (Nat.le_refl _)))
      rw [hG] at hst
      exact hst
    case j81 =>
      refine step_built rfl 130 1 _ rfl #[.int .i64 hn] 3 (fun W => by go_simp) ?_
      intro g2 w' hg hbm hge
      have G2 := Lib.hid hg
      refine hK.out _ _ (by (try dsimp only); exact HK.out _ (bel2M HBC.out hbm)) (fun _ => ?_)
      (try simp only [Act.put, sA, sB, sC])
      refine wpAnyH_norm (fuel' := 6) (listed' := #[true, true, true, false, true, true, true, true, true, true, false, true, true, false, false, false, false]) (by kernel_rfl) (by kernel_rfl) ?_
      have hst := st_2_6_9 g1 C1A C1c g2 _ (Lib.hid (bel2M HBC.out hbm)) (Lib.hid (heapB G1.out hbm)) (Lib.hid (C1.out.below hbm (Nat.le_refl _))) G2
      rw [hG] at hst
      exact hst
    case j82 =>
      refine step_conv rfl _ 29 58 rfl _ Try.underlying29 Try.underlying58 Try.underlying5 hr rfl (HC2.out) ?_
      intro C2A C2c w' hcs hbm
      have C2 := Lib.hid hcs
      refine hK.out _ _ (by (try dsimp only); exact HK.out _ (bel2M HBC.out hbm)) (fun _ => ?_)
      (try simp only [Act.put, sA, sB, sC])
      refine wpAnyH_norm (fuel' := 6) (listed' := #[true, true, true, false, true, true, true, true, true, false, false, true, true, true, false, false, false]) (by kernel_rfl) (by kernel_rfl) ?_
      have hst := st_2_6_13 g1 C1A C1c C2A C2c _ (Lib.hid (bel2M HBC.out hbm)) (Lib.hid (heapB G1.out hbm)) (Lib.hid (C1.out.below hbm (Nat.le_refl _))) C2
      rw [hG] at hst
      exact hst
  have st_2_3 : ∀ (g1 : Nat) (A1 : Option Addr) (c1 : Nat) (W : World) (HBC : Hid (Below w0.heap.size w0 W)) (G1 : Hid (W.heap[g1]? = some (.cells #[.int .i64 hh] 3 (0, 0)))) (F1 : Hid (Bs W (.slice A1 (i8B hh).length c1) (i8B hh))), G 7 #[true, true, true, true, true, true, false, true, true, false, false, true, true, false, false, false, false] ⟨#[agH hh hp hn hr, .pointer (some ⟨w.heap.size, 0, none⟩), .string ⟨#[]⟩, .pointer (some ⟨w.heap.size, 0, none⟩), .int .i64 hh, .slice (some ⟨g1, 0, none⟩) 1 1, .slice A1 (i8B hh).length c1, .pointer (some ⟨w.heap.size, 1, none⟩), .string (strB hp), undef, .pointer (some ⟨w.heap.size, 2, none⟩), .int .i64 hn, undef, undef, .pointer (some ⟨w.heap.size, 3, none⟩), .string (strB hr), undef, undef, undef], []⟩ W := by
    intro g1 A1 c1 W HBC G1 F1
    rw [hG]
    have hHeld : ((fun W => W.cell? ⟨w.heap.size, 0, none⟩ = some (.int .i64 hh) ∧ W.cell? ⟨w.heap.size, 1, none⟩ = some (.string (strB hp)) ∧ W.cell? ⟨w.heap.size, 2, none⟩ = some (.int .i64 hn) ∧ W.cell? ⟨w.heap.size, 3, none⟩ = some (.string (strB hr)))) W := HK.out _ HBC.out
    refine wpAnyH_ready (rs := [6, 9, 13]) (by kernel_rfl) (by simp) ?_
    refine AllReadyH.cons (o := ?o83) ?g83 (fun K hK => ?j83) (AllReadyH.cons (o := ?o84) ?g84 (fun K hK => ?j84) (AllReadyH.cons (o := ?o85) ?g85 (fun K hK => ?j85) AllReadyH.nil))
    case g83 => (simp only [gA, gB, gC]; rfl)
    case g84 => (simp only [gA, gB, gC]; rfl)
    case g85 => (simp only [gA, gB, gC]; rfl)
    case j83 =>
      refine step_conv rfl _ 29 58 rfl _ Try.underlying29 Try.underlying58 Try.underlying5 hp rfl (HC1.out) ?_
      intro C1A C1c w' hcs hbm
      have C1 := Lib.hid hcs
      refine hK.out _ _ (by (try dsimp only); exact HK.out _ (bel2M HBC.out hbm)) (fun _ => ?_)
      (try simp only [Act.put, sA, sB, sC])
      refine wpAnyH_norm (fuel' := 6) (listed' := #[true, true, true, true, true, true, true, true, true, false, false, true, true, false, false, false, false]) (by kernel_rfl) (by kernel_rfl) ?_
      have hst := st_2_3_6 g1 A1 c1 C1A C1c _ (Lib.hid (bel2M HBC.out hbm)) (Lib.hid (heapB G1.out hbm)) (Lib.hid (F1.out.below hbm (Nat.le_refl _))) C1
      rw [hG] at hst
      exact hst
    case j84 =>
      refine step_built rfl 130 1 _ rfl #[.int .i64 hn] 3 (fun W => by go_simp) ?_
      intro g2 w' hg hbm hge
      have G2 := Lib.hid hg
      refine hK.out _ _ (by (try dsimp only); exact HK.out _ (bel2M HBC.out hbm)) (fun _ => ?_)
      (try simp only [Act.put, sA, sB, sC])
      refine wpAnyH_norm (fuel' := 6) (listed' := #[true, true, true, true, true, true, false, true, true, true, false, true, true, false, false, false, false]) (by kernel_rfl) (by kernel_rfl) ?_
      have hst := st_2_3_9 g1 A1 c1 g2 _ (Lib.hid (bel2M HBC.out hbm)) (Lib.hid (heapB G1.out hbm)) (Lib.hid (F1.out.below hbm (Nat.le_refl _))) G2
      rw [hG] at hst
      exact hst
    case j85 =>
      refine step_conv rfl _ 29 58 rfl _ Try.underlying29 Try.underlying58 Try.underlying5 hr rfl (HC2.out) ?_
      intro C2A C2c w' hcs hbm
      have C2 := Lib.hid hcs
      refine hK.out _ _ (by (try dsimp only); exact HK.out _ (bel2M HBC.out hbm)) (fun _ => ?_)
      (try simp only [Act.put, sA, sB, sC])
      refine wpAnyH_norm (fuel' := 6) (listed' := #[true, true, true, true, true, true, false, true, true, false, false, true, true, true, false, false, false]) (by kernel_rfl) (by kernel_rfl) ?_
      have hst := st_2_3_13 g1 A1 c1 C2A C2c _ (Lib.hid (bel2M HBC.out hbm)) (Lib.hid (heapB G1.out hbm)) (Lib.hid (F1.out.below hbm (Nat.le_refl _))) C2
      rw [hG] at hst
      exact hst
  have st_13 : ∀ (C2A : Option Addr) (C2c : Nat) (W : World) (HBC : Hid (Below w0.heap.size w0 W)) (C2 : Hid (Bs W (.slice C2A hr.length C2c) hr)), G 8 #[true, true, false, false, true, true, false, true, true, false, false, true, true, true, false, false, false] ⟨#[agH hh hp hn hr, .pointer (some ⟨w.heap.size, 0, none⟩), .string ⟨#[]⟩, .pointer (some ⟨w.heap.size, 0, none⟩), .int .i64 hh, undef, undef, .pointer (some ⟨w.heap.size, 1, none⟩), .string (strB hp), undef, .pointer (some ⟨w.heap.size, 2, none⟩), .int .i64 hn, undef, undef, .pointer (some ⟨w.heap.size, 3, none⟩), .string (strB hr), .slice C2A hr.length C2c, undef, undef], []⟩ W := by
    intro C2A C2c W HBC C2
    rw [hG]
    have hHeld : ((fun W => W.cell? ⟨w.heap.size, 0, none⟩ = some (.int .i64 hh) ∧ W.cell? ⟨w.heap.size, 1, none⟩ = some (.string (strB hp)) ∧ W.cell? ⟨w.heap.size, 2, none⟩ = some (.int .i64 hn) ∧ W.cell? ⟨w.heap.size, 3, none⟩ = some (.string (strB hr)))) W := HK.out _ HBC.out
    refine wpAnyH_ready (rs := [2, 6, 9]) (by kernel_rfl) (by simp) ?_
    refine AllReadyH.cons (o := ?o86) ?g86 (fun K hK => ?j86) (AllReadyH.cons (o := ?o87) ?g87 (fun K hK => ?j87) (AllReadyH.cons (o := ?o88) ?g88 (fun K hK => ?j88) AllReadyH.nil))
    case g86 => (simp only [gA, gB, gC]; rfl)
    case g87 => (simp only [gA, gB, gC]; rfl)
    case g88 => (simp only [gA, gB, gC]; rfl)
    case j86 =>
      refine step_built rfl 130 1 _ rfl #[.int .i64 hh] 3 (fun W => by go_simp) ?_
      intro g1 w' hg hbm hge
      have G1 := Lib.hid hg
      refine hK.out _ _ (by (try dsimp only); exact HK.out _ (bel2M HBC.out hbm)) (fun _ => ?_)
      (try simp only [Act.put, sA, sB, sC])
      refine wpAnyH_norm (fuel' := 7) (listed' := #[true, true, true, false, true, true, false, true, true, false, false, true, true, true, false, false, false]) (by kernel_rfl) (by kernel_rfl) ?_
      have hst := st_2_13 g1 C2A C2c _ (Lib.hid (bel2M HBC.out hbm)) G1 (Lib.hid (C2.out.below hbm (Nat.le_refl _)))
      rw [hG] at hst
      exact hst
    case j87 =>
      refine step_conv rfl _ 29 58 rfl _ Try.underlying29 Try.underlying58 Try.underlying5 hp rfl (HC1.out) ?_
      intro C1A C1c w' hcs hbm
      have C1 := Lib.hid hcs
      refine hK.out _ _ (by (try dsimp only); exact HK.out _ (bel2M HBC.out hbm)) (fun _ => ?_)
      (try simp only [Act.put, sA, sB, sC])
      refine wpAnyH_norm (fuel' := 7) (listed' := #[true, true, false, false, true, true, true, true, true, false, false, true, true, true, false, false, false]) (by kernel_rfl) (by kernel_rfl) ?_
      have hst := st_6_13 C1A C1c C2A C2c _ (Lib.hid (bel2M HBC.out hbm)) C1 (Lib.hid (C2.out.below hbm (Nat.le_refl _)))
      rw [hG] at hst
      exact hst
    case j88 =>
      refine step_built rfl 130 1 _ rfl #[.int .i64 hn] 3 (fun W => by go_simp) ?_
      intro g2 w' hg hbm hge
      have G2 := Lib.hid hg
      refine hK.out _ _ (by (try dsimp only); exact HK.out _ (bel2M HBC.out hbm)) (fun _ => ?_)
      (try simp only [Act.put, sA, sB, sC])
      refine wpAnyH_norm (fuel' := 7) (listed' := #[true, true, false, false, true, true, false, true, true, true, false, true, true, true, false, false, false]) (by kernel_rfl) (by kernel_rfl) ?_
      have hst := st_9_13 g2 C2A C2c _ (Lib.hid (bel2M HBC.out hbm)) G2 (Lib.hid (C2.out.below hbm (Nat.le_refl _)))
      rw [hG] at hst
      exact hst
  have st_9 : ∀ (g2 : Nat) (W : World) (HBC : Hid (Below w0.heap.size w0 W)) (G2 : Hid (W.heap[g2]? = some (.cells #[.int .i64 hn] 3 (0, 0)))), G 8 #[true, true, false, false, true, true, false, true, true, true, false, true, true, false, false, false, false] ⟨#[agH hh hp hn hr, .pointer (some ⟨w.heap.size, 0, none⟩), .string ⟨#[]⟩, .pointer (some ⟨w.heap.size, 0, none⟩), .int .i64 hh, undef, undef, .pointer (some ⟨w.heap.size, 1, none⟩), .string (strB hp), undef, .pointer (some ⟨w.heap.size, 2, none⟩), .int .i64 hn, .slice (some ⟨g2, 0, none⟩) 1 1, undef, .pointer (some ⟨w.heap.size, 3, none⟩), .string (strB hr), undef, undef, undef], []⟩ W := by
    intro g2 W HBC G2
    rw [hG]
    have hHeld : ((fun W => W.cell? ⟨w.heap.size, 0, none⟩ = some (.int .i64 hh) ∧ W.cell? ⟨w.heap.size, 1, none⟩ = some (.string (strB hp)) ∧ W.cell? ⟨w.heap.size, 2, none⟩ = some (.int .i64 hn) ∧ W.cell? ⟨w.heap.size, 3, none⟩ = some (.string (strB hr)))) W := HK.out _ HBC.out
    refine wpAnyH_ready (rs := [2, 6, 13]) (by kernel_rfl) (by simp) ?_
    refine AllReadyH.cons (o := ?o89) ?g89 (fun K hK => ?j89) (AllReadyH.cons (o := ?o90) ?g90 (fun K hK => ?j90) (AllReadyH.cons (o := ?o91) ?g91 (fun K hK => ?j91) AllReadyH.nil))
    case g89 => (simp only [gA, gB, gC]; rfl)
    case g90 => (simp only [gA, gB, gC]; rfl)
    case g91 => (simp only [gA, gB, gC]; rfl)
    case j89 =>
      refine step_built rfl 130 1 _ rfl #[.int .i64 hh] 3 (fun W => by go_simp) ?_
      intro g1 w' hg hbm hge
      have G1 := Lib.hid hg
      refine hK.out _ _ (by (try dsimp only); exact HK.out _ (bel2M HBC.out hbm)) (fun _ => ?_)
      (try simp only [Act.put, sA, sB, sC])
      refine wpAnyH_norm (fuel' := 7) (listed' := #[true, true, true, false, true, true, false, true, true, true, false, true, true, false, false, false, false]) (by kernel_rfl) (by kernel_rfl) ?_
      have hst := st_2_9 g1 g2 _ (Lib.hid (bel2M HBC.out hbm)) G1 (Lib.hid (heapB G2.out hbm))
      rw [hG] at hst
      exact hst
    case j90 =>
      refine step_conv rfl _ 29 58 rfl _ Try.underlying29 Try.underlying58 Try.underlying5 hp rfl (HC1.out) ?_
      intro C1A C1c w' hcs hbm
      have C1 := Lib.hid hcs
      refine hK.out _ _ (by (try dsimp only); exact HK.out _ (bel2M HBC.out hbm)) (fun _ => ?_)
      (try simp only [Act.put, sA, sB, sC])
      refine wpAnyH_norm (fuel' := 7) (listed' := #[true, true, false, false, true, true, true, true, true, true, false, true, true, false, false, false, false]) (by kernel_rfl) (by kernel_rfl) ?_
      have hst := st_6_9 C1A C1c g2 _ (Lib.hid (bel2M HBC.out hbm)) C1 (Lib.hid (heapB G2.out hbm))
      rw [hG] at hst
      exact hst
    case j91 =>
      refine step_conv rfl _ 29 58 rfl _ Try.underlying29 Try.underlying58 Try.underlying5 hr rfl (HC2.out) ?_
      intro C2A C2c w' hcs hbm
      have C2 := Lib.hid hcs
      refine hK.out _ _ (by (try dsimp only); exact HK.out _ (bel2M HBC.out hbm)) (fun _ => ?_)
      (try simp only [Act.put, sA, sB, sC])
      refine wpAnyH_norm (fuel' := 7) (listed' := #[true, true, false, false, true, true, false, true, true, true, false, true, true, true, false, false, false]) (by kernel_rfl) (by kernel_rfl) ?_
      have hst := st_9_13 g2 C2A C2c _ (Lib.hid (bel2M HBC.out hbm)) (Lib.hid (heapB G2.out hbm)) C2
      rw [hG] at hst
      exact hst
  have st_6 : ∀ (C1A : Option Addr) (C1c : Nat) (W : World) (HBC : Hid (Below w0.heap.size w0 W)) (C1 : Hid (Bs W (.slice C1A hp.length C1c) hp)), G 8 #[true, true, false, false, true, true, true, true, true, false, false, true, true, false, false, false, false] ⟨#[agH hh hp hn hr, .pointer (some ⟨w.heap.size, 0, none⟩), .string ⟨#[]⟩, .pointer (some ⟨w.heap.size, 0, none⟩), .int .i64 hh, undef, undef, .pointer (some ⟨w.heap.size, 1, none⟩), .string (strB hp), .slice C1A hp.length C1c, .pointer (some ⟨w.heap.size, 2, none⟩), .int .i64 hn, undef, undef, .pointer (some ⟨w.heap.size, 3, none⟩), .string (strB hr), undef, undef, undef], []⟩ W := by
    intro C1A C1c W HBC C1
    rw [hG]
    have hHeld : ((fun W => W.cell? ⟨w.heap.size, 0, none⟩ = some (.int .i64 hh) ∧ W.cell? ⟨w.heap.size, 1, none⟩ = some (.string (strB hp)) ∧ W.cell? ⟨w.heap.size, 2, none⟩ = some (.int .i64 hn) ∧ W.cell? ⟨w.heap.size, 3, none⟩ = some (.string (strB hr)))) W := HK.out _ HBC.out
    refine wpAnyH_ready (rs := [2, 9, 13]) (by kernel_rfl) (by simp) ?_
    refine AllReadyH.cons (o := ?o92) ?g92 (fun K hK => ?j92) (AllReadyH.cons (o := ?o93) ?g93 (fun K hK => ?j93) (AllReadyH.cons (o := ?o94) ?g94 (fun K hK => ?j94) AllReadyH.nil))
    case g92 => (simp only [gA, gB, gC]; rfl)
    case g93 => (simp only [gA, gB, gC]; rfl)
    case g94 => (simp only [gA, gB, gC]; rfl)
    case j92 =>
      refine step_built rfl 130 1 _ rfl #[.int .i64 hh] 3 (fun W => by go_simp) ?_
      intro g1 w' hg hbm hge
      have G1 := Lib.hid hg
      refine hK.out _ _ (by (try dsimp only); exact HK.out _ (bel2M HBC.out hbm)) (fun _ => ?_)
      (try simp only [Act.put, sA, sB, sC])
      refine wpAnyH_norm (fuel' := 7) (listed' := #[true, true, true, false, true, true, true, true, true, false, false, true, true, false, false, false, false]) (by kernel_rfl) (by kernel_rfl) ?_
      have hst := st_2_6 g1 C1A C1c _ (Lib.hid (bel2M HBC.out hbm)) G1 (Lib.hid (C1.out.below hbm (Nat.le_refl _)))
      rw [hG] at hst
      exact hst
    case j93 =>
      refine step_built rfl 130 1 _ rfl #[.int .i64 hn] 3 (fun W => by go_simp) ?_
      intro g2 w' hg hbm hge
      have G2 := Lib.hid hg
      refine hK.out _ _ (by (try dsimp only); exact HK.out _ (bel2M HBC.out hbm)) (fun _ => ?_)
      (try simp only [Act.put, sA, sB, sC])
      refine wpAnyH_norm (fuel' := 7) (listed' := #[true, true, false, false, true, true, true, true, true, true, false, true, true, false, false, false, false]) (by kernel_rfl) (by kernel_rfl) ?_
      have hst := st_6_9 C1A C1c g2 _ (Lib.hid (bel2M HBC.out hbm)) (Lib.hid (C1.out.below hbm (Nat.le_refl _))) G2
      rw [hG] at hst
      exact hst
    case j94 =>
      refine step_conv rfl _ 29 58 rfl _ Try.underlying29 Try.underlying58 Try.underlying5 hr rfl (HC2.out) ?_
      intro C2A C2c w' hcs hbm
      have C2 := Lib.hid hcs
      refine hK.out _ _ (by (try dsimp only); exact HK.out _ (bel2M HBC.out hbm)) (fun _ => ?_)
      (try simp only [Act.put, sA, sB, sC])
      refine wpAnyH_norm (fuel' := 7) (listed' := #[true, true, false, false, true, true, true, true, true, false, false, true, true, true, false, false, false]) (by kernel_rfl) (by kernel_rfl) ?_
      have hst := st_6_13 C1A C1c C2A C2c _ (Lib.hid (bel2M HBC.out hbm)) (Lib.hid (C1.out.below hbm (Nat.le_refl _))) C2
      rw [hG] at hst
      exact hst
  have st_2 : ∀ (g1 : Nat) (W : World) (HBC : Hid (Below w0.heap.size w0 W)) (G1 : Hid (W.heap[g1]? = some (.cells #[.int .i64 hh] 3 (0, 0)))), G 8 #[true, true, true, false, true, true, false, true, true, false, false, true, true, false, false, false, false] ⟨#[agH hh hp hn hr, .pointer (some ⟨w.heap.size, 0, none⟩), .string ⟨#[]⟩, .pointer (some ⟨w.heap.size, 0, none⟩), .int .i64 hh, .slice (some ⟨g1, 0, none⟩) 1 1, undef, .pointer (some ⟨w.heap.size, 1, none⟩), .string (strB hp), undef, .pointer (some ⟨w.heap.size, 2, none⟩), .int .i64 hn, undef, undef, .pointer (some ⟨w.heap.size, 3, none⟩), .string (strB hr), undef, undef, undef], []⟩ W := by
    intro g1 W HBC G1
    rw [hG]
    have hHeld : ((fun W => W.cell? ⟨w.heap.size, 0, none⟩ = some (.int .i64 hh) ∧ W.cell? ⟨w.heap.size, 1, none⟩ = some (.string (strB hp)) ∧ W.cell? ⟨w.heap.size, 2, none⟩ = some (.int .i64 hn) ∧ W.cell? ⟨w.heap.size, 3, none⟩ = some (.string (strB hr)))) W := HK.out _ HBC.out
    refine wpAnyH_ready (rs := [3, 6, 9, 13]) (by kernel_rfl) (by simp) ?_
    refine AllReadyH.cons (o := ?o95) ?g95 (fun K hK => ?j95) (AllReadyH.cons (o := ?o96) ?g96 (fun K hK => ?j96) (AllReadyH.cons (o := ?o97) ?g97 (fun K hK => ?j97) (AllReadyH.cons (o := ?o98) ?g98 (fun K hK => ?j98) AllReadyH.nil)))
    case g95 => (simp only [gA, gB, gC]; rfl)
    case g96 => (simp only [gA, gB, gC]; rfl)
    case g97 => (simp only [gA, gB, gC]; rfl)
    case g98 => (simp only [gA, gB, gC]; rfl)
    case j95 =>
      go_simp
      (go_at_call 89; refine (HP.out hh _ _ G1.out).mono ?_)
      rintro e wa ⟨va, rfl, hoa, hbm⟩
      obtain ⟨A1, c1, rfl, -⟩ := (own_bs hoa).open
      have F1 := Lib.hid (own_bs hoa)
      refine hK.out _ _ (by (try dsimp only); exact HK.out _ (bel2M HBC.out hbm)) (fun _ => ?_)
      (try simp only [Act.put, sA, sB, sC])
      refine wpAnyH_norm (fuel' := 7) (listed' := #[true, true, true, true, true, true, false, true, true, false, false, true, true, false, false, false, false]) (by kernel_rfl) (by kernel_rfl) ?_
      have hst := st_2_3 g1 A1 c1 _ (Lib.hid (bel2M HBC.out hbm)) (Lib.hid (heapB G1.out hbm)) F1
      rw [hG] at hst
      exact hst
    case j96 =>
      refine step_conv rfl _ 29 58 rfl _ Try.underlying29 Try.underlying58 Try.underlying5 hp rfl (HC1.out) ?_
      intro C1A C1c w' hcs hbm
      have C1 := Lib.hid hcs
      refine hK.out _ _ (by (try dsimp only); exact HK.out _ (bel2M HBC.out hbm)) (fun _ => ?_)
      (try simp only [Act.put, sA, sB, sC])
      refine wpAnyH_norm (fuel' := 7) (listed' := #[true, true, true, false, true, true, true, true, true, false, false, true, true, false, false, false, false]) (by kernel_rfl) (by kernel_rfl) ?_
      have hst := st_2_6 g1 C1A C1c _ (Lib.hid (bel2M HBC.out hbm)) (Lib.hid (heapB G1.out hbm)) C1
      rw [hG] at hst
      exact hst
    case j97 =>
      refine step_built rfl 130 1 _ rfl #[.int .i64 hn] 3 (fun W => by go_simp) ?_
      intro g2 w' hg hbm hge
      have G2 := Lib.hid hg
      refine hK.out _ _ (by (try dsimp only); exact HK.out _ (bel2M HBC.out hbm)) (fun _ => ?_)
      (try simp only [Act.put, sA, sB, sC])
      refine wpAnyH_norm (fuel' := 7) (listed' := #[true, true, true, false, true, true, false, true, true, true, false, true, true, false, false, false, false]) (by kernel_rfl) (by kernel_rfl) ?_
      have hst := st_2_9 g1 g2 _ (Lib.hid (bel2M HBC.out hbm)) (Lib.hid (heapB G1.out hbm)) G2
      rw [hG] at hst
      exact hst
    case j98 =>
      refine step_conv rfl _ 29 58 rfl _ Try.underlying29 Try.underlying58 Try.underlying5 hr rfl (HC2.out) ?_
      intro C2A C2c w' hcs hbm
      have C2 := Lib.hid hcs
      refine hK.out _ _ (by (try dsimp only); exact HK.out _ (bel2M HBC.out hbm)) (fun _ => ?_)
      (try simp only [Act.put, sA, sB, sC])
      refine wpAnyH_norm (fuel' := 7) (listed' := #[true, true, true, false, true, true, false, true, true, false, false, true, true, true, false, false, false]) (by kernel_rfl) (by kernel_rfl) ?_
      have hst := st_2_13 g1 C2A C2c _ (Lib.hid (bel2M HBC.out hbm)) (Lib.hid (heapB G1.out hbm)) C2
      rw [hG] at hst
      exact hst
  have st : ∀  (W : World) (HBC : Hid (Below w0.heap.size w0 W)) , G 9 #[true, true, false, false, true, true, false, true, true, false, false, true, true, false, false, false, false] ⟨#[agH hh hp hn hr, .pointer (some ⟨w.heap.size, 0, none⟩), .string ⟨#[]⟩, .pointer (some ⟨w.heap.size, 0, none⟩), .int .i64 hh, undef, undef, .pointer (some ⟨w.heap.size, 1, none⟩), .string (strB hp), undef, .pointer (some ⟨w.heap.size, 2, none⟩), .int .i64 hn, undef, undef, .pointer (some ⟨w.heap.size, 3, none⟩), .string (strB hr), undef, undef, undef], []⟩ W := by
    intro  W HBC 
    rw [hG]
    have hHeld : ((fun W => W.cell? ⟨w.heap.size, 0, none⟩ = some (.int .i64 hh) ∧ W.cell? ⟨w.heap.size, 1, none⟩ = some (.string (strB hp)) ∧ W.cell? ⟨w.heap.size, 2, none⟩ = some (.int .i64 hn) ∧ W.cell? ⟨w.heap.size, 3, none⟩ = some (.string (strB hr)))) W := HK.out _ HBC.out
    refine wpAnyH_ready (rs := [2, 6, 9, 13]) (by kernel_rfl) (by simp) ?_
    refine AllReadyH.cons (o := ?o99) ?g99 (fun K hK => ?j99) (AllReadyH.cons (o := ?o100) ?g100 (fun K hK => ?j100) (AllReadyH.cons (o := ?o101) ?g101 (fun K hK => ?j101) (AllReadyH.cons (o := ?o102) ?g102 (fun K hK => ?j102) AllReadyH.nil)))
    case g99 => (simp only [gA, gB, gC]; rfl)
    case g100 => (simp only [gA, gB, gC]; rfl)
    case g101 => (simp only [gA, gB, gC]; rfl)
    case g102 => (simp only [gA, gB, gC]; rfl)
    case j99 =>
      refine step_built rfl 130 1 _ rfl #[.int .i64 hh] 3 (fun W => by go_simp) ?_
      intro g1 w' hg hbm hge
      have G1 := Lib.hid hg
      refine hK.out _ _ (by (try dsimp only); exact HK.out _ (bel2M HBC.out hbm)) (fun _ => ?_)
      (try simp only [Act.put, sA, sB, sC])
      refine wpAnyH_norm (fuel' := 8) (listed' := #[true, true, true, false, true, true, false, true, true, false, false, true, true, false, false, false, false]) (by kernel_rfl) (by kernel_rfl) ?_
      have hst := st_2 g1 _ (Lib.hid (bel2M HBC.out hbm)) G1
      rw [hG] at hst
      exact hst
    case j100 =>
      refine step_conv rfl _ 29 58 rfl _ Try.underlying29 Try.underlying58 Try.underlying5 hp rfl (HC1.out) ?_
      intro C1A C1c w' hcs hbm
      have C1 := Lib.hid hcs
      refine hK.out _ _ (by (try dsimp only); exact HK.out _ (bel2M HBC.out hbm)) (fun _ => ?_)
      (try simp only [Act.put, sA, sB, sC])
      refine wpAnyH_norm (fuel' := 8) (listed' := #[true, true, false, false, true, true, true, true, true, false, false, true, true, false, false, false, false]) (by kernel_rfl) (by kernel_rfl) ?_
      have hst := st_6 C1A C1c _ (Lib.hid (bel2M HBC.out hbm)) C1
      rw [hG] at hst
      exact hst
    case j101 =>
      refine step_built rfl 130 1 _ rfl #[.int .i64 hn] 3 (fun W => by go_simp) ?_
      intro g2 w' hg hbm hge
      have G2 := Lib.hid hg
      refine hK.out _ _ (by (try dsimp only); exact HK.out _ (bel2M HBC.out hbm)) (fun _ => ?_)
      (try simp only [Act.put, sA, sB, sC])
      refine wpAnyH_norm (fuel' := 8) (listed' := #[true, true, false, false, true, true, false, true, true, true, false, true, true, false, false, false, false]) (by kernel_rfl) (by kernel_rfl) ?_
      have hst := st_9 g2 _ (Lib.hid (bel2M HBC.out hbm)) G2
      rw [hG] at hst
      exact hst
    case j102 =>
      refine step_conv rfl _ 29 58 rfl _ Try.underlying29 Try.underlying58 Try.underlying5 hr rfl (HC2.out) ?_
      intro C2A C2c w' hcs hbm
      have C2 := Lib.hid hcs
      refine hK.out _ _ (by (try dsimp only); exact HK.out _ (bel2M HBC.out hbm)) (fun _ => ?_)
      (try simp only [Act.put, sA, sB, sC])
      refine wpAnyH_norm (fuel' := 8) (listed' := #[true, true, false, false, true, true, false, true, true, false, false, true, true, true, false, false, false]) (by kernel_rfl) (by kernel_rfl) ?_
      have hst := st_13 C2A C2c _ (Lib.hid (bel2M HBC.out hbm)) C2
      rw [hG] at hst
      exact hst
  exact st _ (Lib.hid (HBC.out))

def TellL (v : Value) (w : World) (e : Ending) (w' : World) : Prop := e = .returned v ∧ Below w.heap.size w w'
theorem rows2 {W : World} {N : Nat} {x0 x1 : Value} {t : TypeId} (h : W.heap[N]? = some (.cells #[x0, x1] t (0, 0))) : W.cell? ⟨N, 0, none⟩ = some x0 ∧ W.cell? ⟨N, 1, none⟩ = some x1 ∧ (∀ j, W.frozen? ⟨N, j, none⟩ = false) ∧ N < W.heap.size :=
  ⟨rowCell h 0 _ rfl, rowCell h 1 _ rfl, fun j => by simp [World.frozen?, h], (Array.getElem?_eq_some_iff.1 h).1⟩
section
variable {S : Nat → Prop} {w : World} {g : Nat} {L : Ldg} {v : Value} {qs : List KB}
theorem has_any (g : Nat) (w : World) : Calls Try.prog 43 #[.pointer (some ⟨g, 0, none⟩)] w (Says (.pointer (some ⟨g, 0, none⟩)) w) := by
  go_enter Try.func43, Try.ntmps43
  go_wp2
  go_ret
  exact ⟨rfl, rfl⟩
theorem LgR.rowP (h : LgP S w g L v qs) : w.cell? ⟨g, 0, none⟩ = some (.int .i64 L.base) ∧ w.cell? ⟨g, 1, none⟩ = some (.string (strB L.dig)) ∧ w.cell? ⟨g, 2, none⟩ = some v ∧ w.cell? ⟨g, 3, none⟩ = some (.bool true) ∧ ∀ j, w.frozen? ⟨g, j, none⟩ = false := rows4 h.head
set_option maxHeartbeats 1000000 in
theorem lHeight_any (h : LgP S w g L v qs) {K : Nat} (hg : GoodL K L) : Calls Try.prog 18 #[.pointer (some ⟨g, 0, none⟩)] w (TellL (.int .i64 (topL L)) w) := by
  obtain ⟨A, cp, rfl, -, -, -⟩ := h.open
  obtain ⟨z0, z1, z2, z3, z4⟩ := h.rowP
  have hb := hg.b
  have hlen := h.len
  unfold topL at hb ⊢
  rw [← hlen] at hb ⊢
  obtain ⟨hb1, hb2⟩ := hb
  have HH := Lib.hid (fun W => has_any g W)
  have hsum : IntKind.i64.wrap (L.base + (qs.length : Int)) = L.base + (qs.length : Int) := by rw [IntKind.wrap_i64]; omega
  clear h hg hlen
  go_enter Try.func18, Try.ntmps18
  go_wp2_with (first | (go_at_call 43; refine (HH.out _).mono ?_; rintro e w1 ⟨rfl, hww⟩; rw [hww]; clear hww w1))
  go_region_held3 (fun W => W.cell? ⟨g, 0, none⟩ = some (.int .i64 L.base) ∧ W.cell? ⟨g, 2, none⟩ = some (.slice A qs.length cp)) (first | exact ⟨z0, z2⟩) (fail)
  go_wp2
  go_ret
  exact ⟨rfl, (Below.refl _ _).drew⟩
set_option maxHeartbeats 1000000 in
theorem lAt_any (h : LgP S w g L v qs) {K : Nat} (hg : GoodL K L) {j : Nat} (hj : j < qs.length) : Calls Try.prog 47 #[.pointer (some ⟨g, 0, none⟩), .int .i64 (L.base + (j : Int) + 1)] w (TellL (agB qs[j].b qs[j].A qs[j].c qs[j].D qs[j].d) w) := by
  have hl := h.lt
  obtain ⟨A, cp, rfl, -, -, hx⟩ := h.open
  obtain ⟨z0, z1, z2, z3, z4⟩ := h.rowP
  obtain ⟨ad, rfl, c0, c1, c2, c3, -⟩ := hx j hj
  have hb := hg.b
  have hlen := h.len
  unfold topL at hb
  obtain ⟨hb1, hb2⟩ := hb
  have hs1 : IntKind.i64.wrap (L.base + (j : Int) + 1 - L.base) = (j : Int) + 1 := by rw [IntKind.wrap_i64]; omega
  have hs2 : IntKind.i64.wrap ((j : Int)) = (j : Int) := by rw [IntKind.wrap_i64]; omega
  have hjI : (j : Int) < (qs.length : Int) := by omega
  have hjq : j < qs.length := hj
  have hB0 := alloc1B w (.cells #[.int .i64 0, .string ⟨#[]⟩, .slice none 0 0, .slice none 0 0] 33)
  have y0 := cellB z0 hB0
  have y2 := cellB z2 hB0
  have d0 := cellB c0 hB0
  have d1 := cellB c1 hB0
  have d2 := cellB c2 hB0
  have d3 := cellB c3 hB0
  obtain ⟨x0, x1, x2, x3, x4⟩ := rows4 (heap_alloc_new w (.cells #[.int .i64 0, .string ⟨#[]⟩, .slice none 0 0, .slice none 0 0] 33))
  have HBC := Lib.hid (show Below w.heap.size w (w.alloc (.cells #[.int .i64 0, .string ⟨#[]⟩, .slice none 0 0, .slice none 0 0] 33)).drew from hB0.drew)
  clear hx h hg hB0 hlen
  generalize qs[j] = q at *
  go_enter Try.func47, Try.ntmps47
  go_upto_region 1 with fail
  go_region
  go_wp2
  have hzl : w.heap.size < (w.alloc (.cells #[.int .i64 0, .string ⟨#[]⟩, .slice none 0 0, .slice none 0 0] 33)).heap.size := by simp
  refine bodyPost_ret (v := agB q.b q.A q.c q.D q.d) (by simp [results, Try.results47, go_sem, x0, x1, x2, x3, hzl]) rfl ⟨rfl, ?_⟩
  exact (alloc1B w _).drew
abbrev agM (h : Int) (d : List UInt8) : Value := .agg #[.int .i64 h, .string (strB d)]
set_option maxHeartbeats 1000000 in
theorem lMarkAt_any (h : LgP S w g L v qs) {K : Nat} (hg : GoodL K L) (hK : K ≤ 10000000) {n : Nat} (hn : n ≤ qs.length) : Calls Try.prog 44 #[.pointer (some ⟨g, 0, none⟩), .int .i64 (L.base + (n : Int))] w (TellL (agM (L.base + (n : Int)) (atL L n)) w) := by
  have hl := h.lt
  obtain ⟨z0, z1, z2, z3, z4⟩ := h.rowP
  have hB0 := alloc1B w (.cells #[.int .i64 0, .string ⟨#[]⟩] 72)
  have hm0 := heap_alloc_new w (.cells #[.int .i64 0, .string ⟨#[]⟩] 72)
  have hzl : w.heap.size < (w.alloc (.cells #[.int .i64 0, .string ⟨#[]⟩] 72)).heap.size := by simp
  have y0 := cellB z0 hB0
  have y1 := cellB z1 hB0
  have HB0 := Lib.hid hB0
  have HM0 := Lib.hid hm0
  have HH := Lib.hid (fun W (hb : Below w.heap.size w W) => h.below hb)
  rcases n with _ | j
  · have e0 : L.base + ((0 : Nat) : Int) = L.base := by omega
    rw [e0, atL_nil]
    obtain ⟨x0, x1⟩ : (w.alloc (.cells #[.int .i64 0, .string ⟨#[]⟩] 72)).cell? ⟨w.heap.size, 0, none⟩ = some (.int .i64 0) ∧ (w.alloc (.cells #[.int .i64 0, .string ⟨#[]⟩] 72)).cell? ⟨w.heap.size, 1, none⟩ = some (.string ⟨#[]⟩) := ⟨rowCell hm0 0 _ rfl, rowCell hm0 1 _ rfl⟩
    clear h hg hB0 hm0 e0
    go_enter Try.func44, Try.ntmps44
    go_wp2
    refine bodyPost_ret (v := agM L.base L.dig) (by simp [results, Try.results44, go_sem, x0, x1, hzl]) rfl ⟨rfl, ?_⟩
    exact alloc1B w _
  · have hj : j < qs.length := hn
    obtain ⟨hj', hjb⟩ := h.at hj
    rw [show L.base + ((j + 1 : Nat) : Int) = L.base + (j : Int) + 1 by omega, atL_succ hj', ← hjb]
    have e1 : (L.base + (j : Int) + 1 == L.base) = false := by simp; omega
    obtain ⟨hq1, -, -, hq2, -⟩ := hg.q _ (List.getElem_mem hj')
    rw [← hjb] at hq1 hq2
    have HAT := Lib.hid (fun W (hb : Below w.heap.size w W) => lAt_any (h.below hb) hg hj)
    obtain ⟨A, cp, -, -, -, hx⟩ := h.open
    obtain ⟨-, -, -, -, -, -, hk⟩ := hx j hj
    have HHD := Lib.hid (fun W (hb : Below w.heap.size w W) => bHeader_any qs[j].b qs[j].A qs[j].c qs[j].D qs[j].d W (hk.below hb) hq1)
    have hrt := hq1.root
    have HDG := Lib.hid (fun W => bDigest_any qs[j].b.h qs[j].b.prev ((leavesB qs[j].b).length : Nat) (rootB qs[j].b) W (by omega) (by omega))
    rw [show digB qs[j].b.h qs[j].b.prev ((leavesB qs[j].b).length : Nat) (rootB qs[j].b) = hdrL qs[j].b from rfl] at HDG
    unfold HdP at HHD
    clear h hg hB0 hm0 hk hx hrt hq1 hq2 hjb
    generalize hdrL qs[j].b = dd at *
    generalize rootB qs[j].b = rt at *
    generalize (leavesB qs[j].b).length = nn at *
    generalize qs[j] = q at *
    go_enter Try.func44, Try.ntmps44
    go_wp2_with (first
      | (go_at_call 47; refine (HAT.out _ HB0.out).mono ?_; rintro e w1 ⟨rfl, hb1⟩; have HB1 := Lib.hid (bel2M HB0.out hb1); have HM1 := Lib.hid (heapB HM0.out hb1); clear hb1)
      | (go_at_call 73; refine (HHD.out _ HB1.out).mono ?_; rintro e w2 ⟨rfl, hb2⟩; have HB2 := Lib.hid (bel2M HB1.out hb2); have HM2 := Lib.hid (heapB HM1.out hb2); clear hb2)
      | (go_at_call 72; refine (HDG.out _).mono ?_; rintro e w3 ⟨rfl, hb3⟩; have HB3 := Lib.hid (bel2M HB2.out hb3); have HM3 := Lib.hid (heapB HM2.out hb3); clear hb3; obtain ⟨x0, x1, x4, hzl3⟩ := rows2 HM3.out))
    refine bodyPost_ret (v := agM (L.base + (j : Int) + 1) dd) (by simp [results, Try.results44, go_sem, x0, x1, hzl3]) rfl ⟨rfl, ?_⟩
    exact (HB3.out.setCell (p := ⟨w.heap.size, 0, none⟩) (Nat.le_refl _) _).setCell (p := ⟨w.heap.size, 1, none⟩) (Nat.le_refl _) _
set_option maxHeartbeats 1000000 in
theorem lHead_any (h : LgP S w g L v qs) {K : Nat} (hg : GoodL K L) (hK : K ≤ 10000000) : Calls Try.prog 19 #[.pointer (some ⟨g, 0, none⟩)] w (TellL (.string (strB (headL L))) w) := by
  have hlen := h.len
  have HH := Lib.hid (fun W => has_any g W)
  have HHT := Lib.hid (lHeight_any h hg)
  have HMA := Lib.hid (fun W (hb : Below w.heap.size w W) => lMarkAt_any (h.below hb) hg hK (Nat.le_refl qs.length))
  rw [hlen] at HMA
  rw [show L.base + (L.bl.length : Int) = topL L from rfl, show atL L L.bl.length = headL L from rfl] at HMA
  clear h hg hlen
  have hfd := fun (w : World) => show (Instr.field 72 (agM (topL L) (headL L)) 1).run Try.prog w = .ok (.string (strB (headL L))) w by kernel_rfl
  generalize topL L = tp at *
  generalize headL L = hd at *
  go_enter Try.func19, Try.ntmps19
  go_wp2_with (first
    | (go_at_call 43; refine (HH.out _).mono ?_; rintro e w1 ⟨rfl, hww⟩; rw [hww]; clear hww w1)
    | (go_at_call 18; refine HHT.out.mono ?_; rintro e w1 ⟨rfl, hb1⟩; have HB1 := Lib.hid hb1; clear hb1)
    | (go_at_call 44; refine (HMA.out _ HB1.out).mono ?_; rintro e w2 ⟨rfl, hb2⟩; have HB2 := Lib.hid (bel2M HB1.out hb2); clear hb2))
  go_ret
  exact ⟨rfl, HB2.out⟩
set_option maxHeartbeats 1000000 in
theorem lBase_any (h : LgP S w g L v qs) : Calls Try.prog 22 #[.pointer (some ⟨g, 0, none⟩)] w (TellL (.tuple #[.int .i64 L.base, .string (strB L.dig)]) w) := by
  obtain ⟨z0, z1, z2, z3, z4⟩ := h.rowP
  have HH := Lib.hid (fun W => has_any g W)
  clear h
  go_enter Try.func22, Try.ntmps22
  go_wp2_with (first
    | (go_at_call 43; refine (HH.out _).mono ?_; rintro e w1 ⟨rfl, hww⟩; rw [hww]; clear hww w1))
  go_region_held3 (fun W => W.cell? ⟨g, 0, none⟩ = some (.int .i64 L.base) ∧ W.cell? ⟨g, 1, none⟩ = some (.string (strB L.dig))) (first | exact ⟨z0, z1⟩) (fail)
  go_wp2
  exact bodyPost_ret (v := .tuple #[.int .i64 L.base, .string (strB L.dig)]) (by simp [results, Try.results22, go_sem]) rfl ⟨rfl, (Below.refl _ _).drew⟩
end

section
variable {S : Nat → Prop} {w : World} {g : Nat} {L : Ldg} {v : Value} {qs : List KB}
end

def BlT (b : Blk) (e : Int) (w : World) (x : Ending) (w' : World) : Prop := ∃ A c D d, x = .returned (.tuple #[agB b A c D d, .int .i64 e]) ∧ BlkK w' b A c D d ∧ Below w.heap.size w w'
theorem blk0_k (w : World) : BlkK w blk0 none 0 none 0 := ⟨RowM.none _ _ _, RowM.none _ _ _⟩
theorem blkE_zero {L : Ldg} {x : Int} (h : blkE L x = 0) : ∃ (j : Nat) (hj : j < L.bl.length), x = L.base + (j : Int) + 1 ∧ blkL L x = L.bl[j] := by
  have h' := h
  unfold blkE at h'
  by_cases hx : x ≤ L.base ∨ topL L < x
  · rw [if_pos hx] at h'; exact absurd h' (by decide)
  unfold topL at hx
  have hj : (x - L.base - 1).toNat < L.bl.length := by omega
  refine ⟨(x - L.base - 1).toNat, hj, by omega, ?_⟩
  unfold blkL
  rw [if_pos h, List.getElem?_eq_getElem hj]
  rfl
theorem blkE_one {L : Ldg} {x : Int} (h : x ≤ L.base ∨ topL L < x) : blkE L x = 4 ∧ blkL L x = blk0 := by
  have h1 : blkE L x = 4 := if_pos h
  refine ⟨h1, ?_⟩
  unfold blkL
  rw [h1, if_neg (by decide)]
section
variable {S : Nat → Prop} {w : World} {g : Nat} {L : Ldg} {v : Value} {qs : List KB}
set_option maxHeartbeats 1000000 in
theorem lBlock_any (h : LgP S w g L v qs) {K : Nat} (hg : GoodL K L) (x : Int) : Calls Try.prog 24 #[.pointer (some ⟨g, 0, none⟩), .int .i64 x] w (BlT (blkL L x) (blkE L x) w) := by
  obtain ⟨z0, z1, z2, z3, z4⟩ := h.rowP
  have hl := h.lt
  have HH := Lib.hid (fun W => has_any g W)
  have HHT := Lib.hid (fun W (hb : Below w.heap.size w W) => lHeight_any (h.below hb) hg)
  have hB0 := alloc1B w (.cells #[.int .i64 0, .string ⟨#[]⟩, .slice none 0 0, .slice none 0 0] 33)
  have hx0 := heap_alloc_new w (.cells #[.int .i64 0, .string ⟨#[]⟩, .slice none 0 0, .slice none 0 0] 33)
  have y0 := cellB z0 hB0
  obtain ⟨x0, x1, x2, x3, x4⟩ := rows4 hx0
  have HX0 := Lib.hid hx0
  have HB0 := Lib.hid hB0
  by_cases h1 : x ≤ L.base
  · obtain ⟨e1, e2⟩ := blkE_one (.inl h1)
    rw [e1, e2]
    have hzl := (Array.getElem?_eq_some_iff.1 hx0).1
    clear h hg hB0 hx0 e1 e2
    go_enter Try.func24, Try.ntmps24
    go_wp2_with (first | (go_at_call 43; refine (HH.out _).mono ?_; rintro e w1 ⟨rfl, hww⟩; rw [hww]; clear hww w1))
    refine bodyPost_ret (v := .tuple #[agB blk0 none 0 none 0, .int .i64 4]) (by simp [results, Try.results24, go_sem, x0, x1, x2, x3, hzl]; exact ⟨rfl, rfl, rfl, rfl⟩) rfl ⟨none, 0, none, 0, rfl, blk0_k _, ?_⟩
    exact alloc1B w _
  by_cases h2 : topL L < x
  · obtain ⟨e1, e2⟩ := blkE_one (.inr h2)
    rw [e1, e2]
    have h1I : ¬ x ≤ L.base := h1
    clear h hg hB0 hx0 e1 e2 x0 x1 x2 x3 x4
    generalize topL L = tp at *
    go_enter Try.func24, Try.ntmps24
    go_wp2_with (first
      | (go_at_call 43; refine (HH.out _).mono ?_; rintro e w1 ⟨rfl, hww⟩; rw [hww]; clear hww w1)
      | (go_at_call 18; refine (HHT.out _ HB0.out).mono ?_; rintro e w1 ⟨rfl, hb1⟩; have HB1 := Lib.hid (bel2M HB0.out hb1); have HX1 := Lib.hid (heapB HX0.out hb1); clear hb1; obtain ⟨x0, x1, x2, x3, x4⟩ := rows4 HX1.out))
    have hzl := (Array.getElem?_eq_some_iff.1 HX1.out).1
    refine bodyPost_ret (v := .tuple #[agB blk0 none 0 none 0, .int .i64 4]) (by simp [results, Try.results24, go_sem, x0, x1, x2, x3, hzl]; exact ⟨rfl, rfl, rfl, rfl⟩) rfl ⟨none, 0, none, 0, rfl, blk0_k _, ?_⟩
    exact (((HB1.out.setCell (p := ⟨w.heap.size, 0, none⟩) (Nat.le_refl _) _).setCell (p := ⟨w.heap.size, 1, none⟩) (Nat.le_refl _) _).setCell (p := ⟨w.heap.size, 2, none⟩) (Nat.le_refl _) _).setCell (p := ⟨w.heap.size, 3, none⟩) (Nat.le_refl _) _
  have h0 : blkE L x = 0 := if_neg (by omega)
  obtain ⟨j, hj', rfl, hbj⟩ := blkE_zero h0
  have hj : j < qs.length := by rw [h.len]; exact hj'
  obtain ⟨_, hjb⟩ := h.at hj
  rw [h0, hbj, ← hjb]
  obtain ⟨hq1, -, -, hq2, -⟩ := hg.q _ (List.getElem_mem hj')
  rw [← hjb] at hq1
  have HAT := Lib.hid (fun W (hb : Below w.heap.size w W) => lAt_any (h.below hb) hg hj)
  obtain ⟨A, cp, -, -, -, hx⟩ := h.open
  obtain ⟨-, -, -, -, -, -, hk⟩ := hx j hj
  have HCL := Lib.hid (fun W (hb : Below w.heap.size w W) => cloneB_any qs[j].b qs[j].A qs[j].c qs[j].D qs[j].d W (hk.below hb) hq1)
  have h1I : ¬ (L.base + (j : Int) + 1) ≤ L.base := h1
  clear h hg hB0 hx0 x0 x1 x2 x3 x4 hk hx hq1 hq2 hbj h0 hjb
  generalize topL L = tp at *
  generalize qs[j] = q at *
  go_enter Try.func24, Try.ntmps24
  go_wp2_with (first
    | (go_at_call 43; refine (HH.out _).mono ?_; rintro e w1 ⟨rfl, hww⟩; rw [hww]; clear hww w1)
    | (go_at_call 18; refine (HHT.out _ HB0.out).mono ?_; rintro e w1 ⟨rfl, hb1⟩; have HB1 := Lib.hid (bel2M HB0.out hb1); have HX1 := Lib.hid (heapB HX0.out hb1); clear hb1)
    | (go_at_call 47; refine (HAT.out _ HB1.out).mono ?_; rintro e w2 ⟨rfl, hb2⟩; have HB2 := Lib.hid (bel2M HB1.out hb2); have HX2 := Lib.hid (heapB HX1.out hb2); clear hb2)
    | (go_at_call 42; refine (HCL.out _ HB2.out).mono ?_; rintro e w3 ⟨A3, c3, D3, d3, rfl, hk3, hb3⟩; have HB3 := Lib.hid (bel2M HB2.out hb3); have HX3 := Lib.hid (heapB HX2.out hb3); have HK3 := Lib.hid hk3; have HZ := Lib.hid (Array.getElem?_eq_some_iff.1 HX2.out).1; clear hb3 hk3; obtain ⟨x0, x1, x2, x3, x4⟩ := rows4 HX3.out))
  have hzl := (Array.getElem?_eq_some_iff.1 HX3.out).1
  have hz2 := HZ.out
  refine bodyPost_ret (v := .tuple #[agB q.b A3 c3 D3 d3, .int .i64 0]) (by simp [results, Try.results24, go_sem, x0, x1, x2, x3, hzl]) rfl ⟨A3, c3, D3, d3, rfl, ?_, ?_⟩
  · refine (HK3.out.keep (C' := fun _ => True) (by simp) fun i _ hi => ⟨?_, trivial⟩).k
    have hi' : w2.heap.size ≤ i := hi
    have hne : i ≠ w.heap.size := by omega
    rw [Go.Deep.blk_setCell_other _ _ _ _ hne, Go.Deep.blk_setCell_other _ _ _ _ hne, Go.Deep.blk_setCell_other _ _ _ _ hne, Go.Deep.blk_setCell_other _ _ _ _ hne]
  · exact (((HB3.out.setCell (p := ⟨w.heap.size, 0, none⟩) (Nat.le_refl _) _).setCell (p := ⟨w.heap.size, 1, none⟩) (Nat.le_refl _) _).setCell (p := ⟨w.heap.size, 2, none⟩) (Nat.le_refl _) _).setCell (p := ⟨w.heap.size, 3, none⟩) (Nat.le_refl _) _
end

def firstL : List UInt8 := encT 6 []
theorem firstL_len : firstL.length ≤ 100 := by
  unfold firstL
  rw [encT_length]
  simp [partsB]
def L0 : Ldg := ⟨0, firstL, []⟩
theorem L0_good : GoodL 5000 L0 := ⟨⟨by decide, by decide⟩, by simp [L0], by have := firstL_len; show firstL.length ≤ 5000; omega, fun x hx => absurd hx (by simp [L0])⟩
theorem LgR.fresh {cs : Ldg → Value → Array Value} {t : TypeId} {S : Nat → Prop} {w : World} {g : Nat} {L : Ldg} (h : w.heap[g]? = some (.cells (cs L (.slice none 0 0)) t (0, 0))) (hl : L.bl = []) (hS : S g) : LgR cs t S w g L (.slice none 0 0) [] :=
  ⟨by rw [hl]; rfl, h, World.ownsRow_nil _ _ _ _, fun q hq => absurd hq (by simp), hS, fun k hk => by cases hk⟩
def NwP (L : Ldg) (w : World) (e : Ending) (w' : World) : Prop := ∃ g, e = .returned (.pointer (some ⟨g, 0, none⟩)) ∧ LgP (fun k => w.heap.size ≤ k) w' g L (.slice none 0 0) [] ∧ Below w.heap.size w w'
theorem fromMark_any (h : Int) (d : List UInt8) (w : World) : Calls Try.prog 33 #[agM h d] w (NwP ⟨h, d, []⟩ w) := by
  have hb1 := alloc1B w (.cells #[.int .i64 h, .string (strB d)] 72)
  have hz1 : (w.alloc (.cells #[.int .i64 h, .string (strB d)] 72)).heap.size = w.heap.size + 1 := World.size_alloc _ _
  obtain ⟨x0, x1, -, -⟩ := rows2 (heap_alloc_new w (.cells #[.int .i64 h, .string (strB d)] 72))
  have hn := heap_alloc_new (w.alloc (.cells #[.int .i64 h, .string (strB d)] 72)) (.cells #[.int .i64 h, .string (strB d), .slice none 0 0, .bool true] 77)
  have hb2 := alloc1B (w.alloc (.cells #[.int .i64 h, .string (strB d)] 72)) (.cells #[.int .i64 h, .string (strB d), .slice none 0 0, .bool true] 77)
  have HN := Lib.hid hn
  have HB := Lib.hid (bel2M hb1 hb2)
  clear hn hb1 hb2
  go_enter Try.func33, Try.ntmps33
  go_wp2
  go_ret
  rw [hz1] at HN
  exact ⟨_, rfl, LgR.fresh (cs := csLP) (L := ⟨h, d, []⟩) HN.out rfl (Nat.le_succ _), HB.out⟩
theorem lNew_any (w : World) : Calls Try.prog 10 #[] w (NwP L0 w) := by
  have HM := Lib.hid (fun W => fromMark_any 0 firstL W)
  have HO := Lib.hid (Of_any 6 (.slice none 0 0) [] w (Bss.nil _) (by simp) (by simp) (by have := firstL_len; unfold firstL at this; omega))
  rw [show encT 6 [] = firstL from rfl] at HO
  unfold L0
  generalize firstL = fl at *
  go_enter Try.func10, Try.ntmps10
  go_wp2_with (first
    | (go_at_call 34; refine HO.out.mono ?_; rintro e w1 ⟨rfl, hb1⟩; have HB1 := Lib.hid hb1; clear hb1)
    | (go_at_call 33; refine (HM.out _).mono ?_; rintro e w2 ⟨g, rfl, hg, hb2⟩; have HB2 := Lib.hid (bel2M HB1.out hb2); have HG := Lib.hid (LgR.mono hg (S' := fun k => w.heap.size ≤ k) (fun k _ hk => Nat.le_trans HB1.out.size hk)); clear hb2 hg))
  go_ret
  exact ⟨g, rfl, HG.out, HB2.out⟩
theorem rFirst_any (w : World) : Calls Try.prog 35 #[] w (Tells firstL w) := by
  have HO := Lib.hid (rOf_any 6 (.slice none 0 0) [] w (Bss.nil _) (by simp) (by simp) (by have := firstL_len; unfold firstL at this; omega))
  rw [show encT 6 [] = firstL from rfl] at HO
  generalize firstL = fl at *
  go_enter Try.func35, Try.ntmps35
  go_wp2_with (first
    | (go_at_call 65; refine HO.out.mono ?_; rintro e w1 ⟨rfl, hb1⟩; have HB1 := Lib.hid hb1; clear hb1))
  go_ret
  exact ⟨rfl, HB1.out⟩

theorem kbC_one (l : List KB) : ∀ u ∈ l.flatMap kbC, u.oneCell' = true := fun u hu => by
  obtain ⟨q, -, hq⟩ := List.mem_flatMap.1 hu
  simp only [kbC, List.mem_cons, List.not_mem_nil, or_false] at hq
  rcases hq with rfl | rfl | rfl | rfl <;> rfl
theorem kbC_one1 (q : KB) : ∀ u ∈ kbC q, u.oneCell' = true := fun u hu => kbC_one [q] u (by simpa using hu)
theorem built4 {w : World} {H : Nat} {q : KB} {t : TypeId} (h : w.heap[H]? = some (.cells #[.int .i64 q.b.h, .string (strB q.b.prev), .slice q.A q.b.reqs.length q.c, .slice q.D q.b.ress.length q.d] t (0, 0))) : RowMs w 4 (.slice (some ⟨H, 0, none⟩) 1 1) 1 (kbC q) := by
  refine ⟨some ⟨H, 0, none⟩, 1, rfl, rfl, fun h => (by cases h), fun a ha j u hj => ?_⟩
  injection ha with ha
  subst ha
  rw [Addr.add_lit, Nat.zero_add]
  match j, hj with
  | 0, hj => injection hj with hj; subst hj; exact rowCell h 0 _ rfl
  | 1, hj => injection hj with hj; subst hj; exact rowCell h 1 _ rfl
  | 2, hj => injection hj with hj; subst hj; exact rowCell h 2 _ rfl
  | 3, hj => injection hj with hj; subst hj; exact rowCell h 3 _ rfl
section
variable {cs : Ldg → Value → Array Value} {t : TypeId} {S : Nat → Prop} {g : Nat} {L : Ldg} {v : Value} {qs : List KB}
theorem set_cells {w : World} {g i : Nat} {cur : Array Value} {t : TypeId} {u : Value} (h : w.heap[g]? = some (.cells cur t (0, 0))) : (w.setCell ⟨g, i, none⟩ u).heap[g]? = some (.cells (cur.setIfInBounds i u) t (0, 0)) := heap_setCell_same w g i cur t u h
theorem LgR.push {w W2 w4 : World} {L' : Ldg} {v4 : Value} {q : KB} {i : Nat} (h : LgR cs t (fun k => k < w.heap.size ∧ S k) W2 g L v qs) (hS : ∀ k, w.heap.size ≤ k → S k) (hz : w.heap.size ≤ W2.heap.size) (hq : BlkC (fun k => w.heap.size ≤ k) W2 q.b q.A q.c q.D q.d)
    (hown : w4.ownsRow 0 33 4 v4 (qs.length + 1) (qs.flatMap kbC ++ kbC q)) (hgr : W2.grownBy w4 v.ownBlock) (hr : v4.ownBlock = v.ownBlock ∨ v4.ownBlock = some W2.heap.size)
    (hcs : (cs L v).setIfInBounds i v4 = cs L' v4) (hbl : L'.bl = L.bl ++ [q.b]) : LgR cs t S (w4.setCell ⟨g, i, none⟩ v4) g L' v4 (qs ++ [q]) := by
  have hgl := h.at_g.1
  have hgv : v.ownBlock ≠ some g := fun e => (h.at_v g e).2 rfl
  have hg4 : w4.heap[g]? = W2.heap[g]? := hgr.block g h.lt (fun e => hgv e.symm)
  have hset : ∀ k, k ≠ g → (w4.setCell ⟨g, i, none⟩ v4).heap[k]? = w4.heap[k]? := fun k hk => Go.Deep.blk_setCell_other _ _ _ _ hk
  have hv4 : ∀ k, v4.ownBlock = some k → S k ∧ k ≠ g := fun k hk => by
    rcases hr with hr | hr
    · rw [hr] at hk
      exact ⟨(h.at_v k hk).1.2, (h.at_v k hk).2⟩
    · rw [hk] at hr
      injection hr with hr
      exact ⟨hS k (by omega), by omega⟩
  have hsz : W2.heap.size ≤ (w4.setCell ⟨g, i, none⟩ v4).heap.size := by have := hgr.size; simpa using this
  refine ⟨by rw [List.map_append, h.bl, hbl]; rfl, ?_, ?_, fun p hp => ?_, h.at_g.2, hv4⟩
  · rw [set_cells (hg4.trans h.head), hcs]
  · rw [List.length_append, List.length_singleton, List.flatMap_append, List.flatMap_cons, List.flatMap_nil, List.append_nil]
    exact own_keep hown fun k hk => hset k (hv4 k hk).2
  · rcases List.mem_append.1 hp with hp | hp
    · refine (h.blk p hp).keep hsz fun k hk hc => ⟨(hset k hc.2.1).trans (hgr.block k hk (fun e => hc.2.2 e.symm)), hc.1.2, hc.2.1, fun e => ?_⟩
      rcases hr with hr | hr
      · exact hc.2.2 (hr ▸ e)
      · rw [e] at hr
        injection hr with hr
        omega
    · rw [List.mem_singleton.1 hp]
      refine hq.keep hsz fun k hk hc => ?_
      have hkg : k ≠ g := by omega
      have hkv : v.ownBlock ≠ some k := fun e => by have := (h.at_v k e).1.1; omega
      refine ⟨(hset k hkg).trans (hgr.block k hk (fun e => hkv e.symm)), hS k hc, hkg, fun e => ?_⟩
      rcases hr with hr | hr
      · exact hkv (hr ▸ e)
      · rw [e] at hr
        injection hr with hr
        omega
def cutA (A : Option Addr) (c k : Nat) : Option Addr := if c = k then A else A.map (·.add (k * 4))
theorem run_cutB (A : Option Addr) (n c k : Nat) (hk : k ≤ n) (w : World) : (Instr.slice 52 (.slice A n c) (some (.int .i64 (k : Int))) none none).run Try.prog w = .ok (.slice (cutA A c k) (n - k) (c - k)) w := by
  have hz : (sizeOf (Try.prog.elem 52)).run Try.prog w = .ok 4 w := by rfl
  rw [run_slice_l (P := Try.prog) w 52 A n c Try.underlying52 .i64 (k : Int) (by omega) (by omega), hz]
  simp only [Result.andThen, sliced, Int.toNat_natCast]
  rfl
theorem flat_drop : ∀ (l : List KB) (k : Nat), (l.drop k).flatMap kbC = (l.flatMap kbC).drop (k * 4)
  | l, 0 => by simp
  | [], k + 1 => by simp
  | q :: l, k + 1 => by
    rw [List.drop_succ_cons, flat_drop l k, List.flatMap_cons, List.drop_append, show (kbC q).drop ((k + 1) * 4) = [] from List.drop_eq_nil_of_le (show 4 ≤ (k + 1) * 4 by omega), List.nil_append]
    congr 1
    show k * 4 = (k + 1) * 4 - 4
    omega
theorem own_cut {w : World} {B : Nat} {t : TypeId} {A : Option Addr} {n c : Nat} (h : w.ownsRow B t 4 (.slice A n c) n (qs.flatMap kbC)) (hn : n = qs.length) {k : Nat} (hk : k ≤ n) : RowMs w 4 (.slice (cutA A c k) (n - k) (c - k)) (n - k) ((qs.drop k).flatMap kbC) := by
  have hl : ((qs.drop k).flatMap kbC).length = (n - k) * 4 := by rw [flatM_len kbC 4 (fun _ => rfl), List.length_drop, hn]
  refine ⟨cutA A c k, c - k, rfl, hl, fun ha => ?_, fun a ha j u hj => ?_⟩
  · unfold cutA at ha
    rcases h.2 with ⟨e, h0⟩ | ⟨g, cap, cur, e, -, -, hc, -⟩
    · injection e with e1 e2 e3
      omega
    · injection e with e1 e2 e3
      subst e1 e3
      by_cases hck : c = k
      · rw [if_pos hck] at ha; cases ha
      · rw [if_neg hck] at ha; cases ha
  · have hjl : j < (n - k) * 4 := by
      have := (List.getElem?_eq_some_iff.1 hj).1
      rwa [hl] at this
    rcases h.2 with ⟨e, h0⟩ | ⟨g, cap, cur, e, -, -, hc, -⟩
    · injection e with e1 e2 e3
      omega
    · injection e with e1 e2 e3
      subst e1 e3
      have hck : ¬ c = k := by omega
      unfold cutA at ha
      rw [if_neg hck] at ha
      injection ha with ha
      subst ha
      rw [flat_drop, List.getElem?_drop] at hj
      rw [Addr.add_add]
      exact h.cells rfl _ _ hj
theorem LgR.cutoff {w W5 : World} {L' : Ldg} {v5 : Value} {k : Nat} (h : LgR cs t (fun i => i < w.heap.size ∧ S i) w g L v qs) (hS : ∀ i, w.heap.size ≤ i → S i) (hz : w.heap.size ≤ W5.heap.size)
    (hk : ∀ i, i < w.heap.size → i ≠ g → W5.heap[i]? = w.heap[i]?) (hown : W5.ownsRow w.heap.size 33 4 v5 (qs.drop k).length ((qs.drop k).flatMap kbC)) (hhead : W5.heap[g]? = some (.cells (cs L' v5) t (0, 0))) (hbl : L'.bl = L.bl.drop k) : LgR cs t S W5 g L' v5 (qs.drop k) := by
  have hgl := h.at_g.1
  refine ⟨by rw [List.map_drop, h.bl, hbl], hhead, own_leL hown (Nat.zero_le _), fun p hp => ?_, h.at_g.2, fun i hi => ?_⟩
  · refine (h.blk p (List.mem_of_mem_drop hp)).keep hz fun i hi hc => ⟨hk i hi hc.2.1, hc.1.2, hc.2.1, fun e => ?_⟩
    have := (hown.lt i e).1
    omega
  · have := (hown.lt i hi).1
    exact ⟨hS i this, by omega⟩
end
def ApP (x : Int) (L : Ldg) (g : Nat) (S : Nat → Prop) (w : World) (e : Ending) (w' : World) : Prop := ∃ v qs, e = .returned (.int .i64 x) ∧ LgP S w' g L v qs ∧ Off S w w'

set_option maxHeartbeats 4000000 in
theorem lAppend_any {S : Nat → Prop} {w : World} {g : Nat} {L : Ldg} {v : Value} {qs : List KB} (h : LgP S w g L v qs) {K : Nat} (hg : GoodL K L) (hK : K ≤ 10000000) (b : Blk) (A : Option Addr) (c : Nat) (D : Option Addr) (d : Nat) (hb : BlkK w b A c D d) (hf : FewQ b) (hS : ∀ k, w.heap.size ≤ k → S k) : Calls Try.prog 21 #[.pointer (some ⟨g, 0, none⟩), agB b A c D d] w (ApP (appE L b) (appL L b) g S w) := by
  have hx0 := heap_alloc_new w (.cells #[.int .i64 b.h, .string (strB b.prev), .slice A b.reqs.length c, .slice D b.ress.length d] 33)
  have hB0 := alloc1B w (.cells #[.int .i64 b.h, .string (strB b.prev), .slice A b.reqs.length c, .slice D b.ress.length d] 33)
  have HH := Lib.hid (fun W => has_any g W)
  have HCK := Lib.hid (fun W => bCheck_any b A c D d W (by have := hf.q; unfold maxLen; omega) (by have := hf.r; unfold maxLen; omega))
  have h' := h.mono (S' := fun k => k < w.heap.size ∧ S k) (fun k hk hs => ⟨hk, hs⟩)
  have HL := Lib.hid (fun W (hb : Below w.heap.size w W) => h'.below hb)
  have HS := Lib.hid hS
  have HG := Lib.hid hg
  have HB := Lib.hid (fun W (h : Below w.heap.size w W) => cloneB_any b A c D d W (hb.below h) hf)
  have hbnd := hg.b
  have hlen := h.len
  have hn1 := hg.n
  generalize hw0 : (w.alloc (.cells #[.int .i64 b.h, .string (strB b.prev), .slice A b.reqs.length c, .slice D b.ress.length d] 33)) = w0 at *
  have HW0 := Lib.hid hw0
  have HX0 := Lib.hid hx0
  have HB0 := Lib.hid hB0
  have hfin : ∀ x W, Below w0.heap.size w0 W → ApP x L g S w (.returned (.int .i64 x)) W := fun x W hbl => ⟨v, qs, rfl, (HL.out W (bel2M HB0.out hbl)).mono (fun k _ hk => hk.2), Off.of_below (bel2M HB0.out hbl)⟩
  have HFIN := Lib.hid hfin
  obtain ⟨x0, x1, x2, x3, x4⟩ := rows4 hx0
  obtain ⟨z0, z1, z2, z3, z4⟩ := (HL.out w0 hB0).rowP
  have HGL := Lib.hid h.lt
  clear h h' hg hb hf hS hx0 hB0 hfin hw0
  by_cases hc : checkB b ≠ 0
  · have e1 : appE L b = checkB b := if_pos hc
    rw [appL_no (by rw [e1]; exact hc), e1]
    have hn : (checkB b != 0) = true := by simpa using hc
    clear hc e1
    generalize checkB b = xb at *
    go_enter Try.func21, Try.ntmps21
    go_upto_region 1 with fail
    rw [HW0.out]
    go_wp2_with (first
    | (go_at_call 43; refine (HH.out _).mono ?_; rintro e w1 ⟨rfl, hww⟩; rw [hww]; clear hww w1)
      | (go_at_call 46; refine (HCK.out _).mono ?_; rintro e w1 ⟨rfl, hb1⟩; have HB1 := Lib.hid hb1; clear hb1))
    go_ret
    exact HFIN.out _ _ HB1.out
  have hc0 : checkB b = 0 := Classical.not_not.1 hc
  rw [hc0] at HCK
  have hsum : IntKind.i64.wrap (topL L + 1) = topL L + 1 := by rw [IntKind.wrap_i64]; unfold topL at hbnd ⊢; omega
  have HHT := Lib.hid (fun W (hb : Below w.heap.size w W) => lHeight_any (HL.out W hb) HG.out)
  by_cases ht : b.h ≠ topL L + 1
  · have e1 : appE L b = 100 := by unfold appE; rw [if_neg hc, if_pos ht]
    rw [appL_no (by rw [e1]; decide), e1]
    have hn : (b.h != topL L + 1) = true := by simpa using ht
    clear hc e1 ht hc0
    generalize topL L = tp at *
    go_enter Try.func21, Try.ntmps21
    go_upto_region 1 with fail
    rw [HW0.out]
    go_upto_region 6 with (first
    | (go_at_call 43; refine (HH.out _).mono ?_; rintro e w1 ⟨rfl, hww⟩; rw [hww]; clear hww w1)
      | (go_at_call 46; refine (HCK.out _).mono ?_; rintro e w1 ⟨rfl, hb1⟩; have HB1 := Lib.hid hb1; clear hb1))
    have HBC := Lib.hid (show Below w0.heap.size w0 w1.drew from HB1.out.drew)
    go_region_held3 (fun W => W.cell? ⟨w.heap.size, 0, none⟩ = some (.int .i64 b.h)) (first | exact rowCell (heapB HX0.out HBC.out) 0 _ rfl) (first
      | (go_at_call 18; refine (HHT.out _ (bel2M HB0.out HBC.out)).mono ?_; rintro e w2 ⟨rfl, hb2⟩; replace HBC := Lib.hid (bel2M HBC.out hb2); clear hb2))
    go_wp2
    go_ret
    exact HFIN.out _ _ HBC.out
  have ht0 : b.h = topL L + 1 := Classical.not_not.1 ht
  have hn0 : (b.h != topL L + 1) = false := by simp [ht0]
  have HHD := Lib.hid (fun W (hb : Below w.heap.size w W) => lHead_any (HL.out W hb) HG.out hK)
  by_cases hp : b.prev ≠ headL L
  · have e1 : appE L b = 101 := by unfold appE; rw [if_neg hc, if_neg ht, if_pos hp]
    rw [appL_no (by rw [e1]; decide), e1]
    have hst := strB_ne hp
    clear hc e1 ht hc0 ht0 hp
    generalize topL L = tp at *
    generalize headL L = hd at *
    go_enter Try.func21, Try.ntmps21
    go_upto_region 1 with fail
    rw [HW0.out]
    go_upto_region 6 with (first
    | (go_at_call 43; refine (HH.out _).mono ?_; rintro e w1 ⟨rfl, hww⟩; rw [hww]; clear hww w1)
      | (go_at_call 46; refine (HCK.out _).mono ?_; rintro e w1 ⟨rfl, hb1⟩; have HB1 := Lib.hid hb1; clear hb1))
    have HBC := Lib.hid (show Below w0.heap.size w0 w1.drew from HB1.out.drew)
    go_region_held3 (fun W => W.cell? ⟨w.heap.size, 0, none⟩ = some (.int .i64 b.h)) (first | exact rowCell (heapB HX0.out HBC.out) 0 _ rfl) (first
      | (go_at_call 18; refine (HHT.out _ (bel2M HB0.out HBC.out)).mono ?_; rintro e w2 ⟨rfl, hb2⟩; replace HBC := Lib.hid (bel2M HBC.out hb2); clear hb2))
    go_upto_region 8 with fail
    replace HBC := Lib.hid HBC.out.drew
    go_region_held3 (fun W => W.cell? ⟨w.heap.size, 1, none⟩ = some (.string (strB b.prev))) (first | exact rowCell (heapB HX0.out HBC.out) 1 _ rfl) (first
      | (go_at_call 19; refine (HHD.out _ (bel2M HB0.out HBC.out)).mono ?_; rintro e w3 ⟨rfl, hb3⟩; replace HBC := Lib.hid (bel2M HBC.out hb3); clear hb3))
    go_wp2
    go_ret
    exact HFIN.out _ _ HBC.out
  have hp0 : b.prev = headL L := Classical.not_not.1 hp
  have e1 : appE L b = 0 := by unfold appE; rw [if_neg hc, if_neg ht, if_neg hp]
  rw [appL_yes e1, e1]
  rw [← hp0] at HHD
  obtain ⟨i1, hj, hy0, hy1, hy2⟩ := info_parts infoBk
  obtain ⟨AV, cV, rfl⟩ := own_slice (HL.out w0 HB0.out).row
  have hq1000 : qs.length ≤ 1000000 := by omega
  clear hc e1 ht hc0 ht0 hp hp0 hbnd hlen hn1
  generalize topL L = tp at *
  go_enter Try.func21, Try.ntmps21
  go_upto_region 1 with fail
  rw [HW0.out]
  go_upto_region 6 with (first
    | (go_at_call 43; refine (HH.out _).mono ?_; rintro e w1 ⟨rfl, hww⟩; rw [hww]; clear hww w1)
    | (go_at_call 46; refine (HCK.out _).mono ?_; rintro e w1 ⟨rfl, hb1⟩; have HB1 := Lib.hid hb1; clear hb1))
  have HBC := Lib.hid (show Below w0.heap.size w0 w1.drew from HB1.out.drew)
  go_region_held3 (fun W => W.cell? ⟨w.heap.size, 0, none⟩ = some (.int .i64 b.h)) (first | exact rowCell (heapB HX0.out HBC.out) 0 _ rfl) (first
    | (go_at_call 18; refine (HHT.out _ (bel2M HB0.out HBC.out)).mono ?_; rintro e w2 ⟨rfl, hb2⟩; replace HBC := Lib.hid (bel2M HBC.out hb2); clear hb2))
  go_upto_region 8 with fail
  replace HBC := Lib.hid HBC.out.drew
  go_region_held3 (fun W => W.cell? ⟨w.heap.size, 1, none⟩ = some (.string (strB b.prev))) (first | exact rowCell (heapB HX0.out HBC.out) 1 _ rfl) (first
    | (go_at_call 19; refine (HHD.out _ (bel2M HB0.out HBC.out)).mono ?_; rintro e w3 ⟨rfl, hb3⟩; replace HBC := Lib.hid (bel2M HBC.out hb3); clear hb3))
  go_upto_region 10 with fail
  clear x0 x1 x2 x3 x4 z0 z1 z2 z3 z4
  go_cut [28] from 28 to 38 (fun s wx => ∃ v' qs', s = .pointer (some ⟨g, 0, none⟩) ∧ LgP S wx g ⟨L.base, L.dig, L.bl ++ [b]⟩ v' qs' ∧ Off S w wx)
  case first =>
    replace HBC := Lib.hid HBC.out.drew
    have HDR := Lib.hid (show Below w3.heap.size w3 w3.drew from (Below.refl _ _).drew)
    have HKS := Lib.hid (show ∀ W, Below w0.heap.size w0 W → (fun W => W.cell? ⟨w.heap.size, 0, none⟩ = some (.int .i64 b.h) ∧ W.cell? ⟨w.heap.size, 1, none⟩ = some (.string (strB b.prev)) ∧ W.cell? ⟨w.heap.size, 2, none⟩ = some (.slice A b.reqs.length c) ∧ W.cell? ⟨w.heap.size, 3, none⟩ = some (.slice D b.ress.length d)) W from fun W hW => by obtain ⟨e0, e1, e2, e3, -⟩ := rows4 (heapB HX0.out hW); exact ⟨e0, e1, e2, e3⟩)
    obtain ⟨z0, z1, z2, z3, z4⟩ := (HL.out _ (bel2M HB0.out HBC.out)).rowP
    refine wp_region_held_drew (S := (fun W => W.cell? ⟨w.heap.size, 0, none⟩ = some (.int .i64 b.h) ∧ W.cell? ⟨w.heap.size, 1, none⟩ = some (.string (strB b.prev)) ∧ W.cell? ⟨w.heap.size, 2, none⟩ = some (.slice A b.reqs.length c) ∧ W.cell? ⟨w.heap.size, 3, none⟩ = some (.slice D b.ress.length d))) (by kernel_rfl) (HKS.out _ HBC.out) (fun hHeld => ?_)
    refine tk 0 ?_
    (try simp only [Act.put, sA, sB, sC])
    refine tk 1 ?_
    (try simp only [Act.put, sA, sB, sC])
    refine tk 2 ?_
    (try simp only [Act.put, sA, sB, sC])
    refine tk 3 ?_
    (try simp only [Act.put, sA, sB, sC])
    refine tk 5 ?_
    (try simp only [Act.put, sA, sB, sC])
    refine wpAnyH_ready (rs := [4, 6]) (by kernel_rfl) (by simp) ?_
    refine AllReadyH.cons (o := ?o6) ?g6 (fun K hK => ?j6) (AllReadyH.cons (o := ?o7) ?g7 (fun K hK => ?j7) AllReadyH.nil)
    case g6 => (simp only [gA, gB, gC]; rfl)
    case g7 => (simp only [gA, gB, gC]; rfl)
    ·
     go_simp
     refine hK.out _ _ ?_ (fun hHeld => ?_)
     · (try dsimp only); exact HKS.out _ HBC.out
     clear hK K
     (try simp only [Act.put, sA, sB, sC])
     refine wpAnyH_ready (rs := [6]) (by kernel_rfl) (by simp) ?_
     refine AllReadyH.cons (o := ?o8) ?g8 (fun K hK => ?j8) AllReadyH.nil
     case g8 => (simp only [gA, gB, gC]; rfl)
     go_simp
     (go_at_call 42; refine (HB.out _ (bel2M HB0.out HBC.out)).mono ?_)
     rintro e w4 ⟨A4, c4, D4, d4, rfl, hk4, hb4⟩
     have HK4 := Lib.hid hk4
     have HZ4 := Lib.hid HBC.out.size
     replace HBC := Lib.hid (bel2M HBC.out hb4)
     clear hk4 hb4
     obtain ⟨z0, z1, z2, z3, z4⟩ := (HL.out _ (bel2M HB0.out HBC.out)).rowP
     have HB5 := Lib.hid (alloc1B w4 (.cells #[.int .i64 b.h, .string (strB b.prev), .slice A4 b.reqs.length c4, .slice D4 b.ress.length d4] 33))
     have HX5 := Lib.hid (heap_alloc_new w4 (.cells #[.int .i64 b.h, .string (strB b.prev), .slice A4 b.reqs.length c4, .slice D4 b.ress.length d4] 33))
     have HL5 := Lib.hid (HL.out _ (bel2M HB0.out (bel2M HBC.out HB5.out)))
     obtain ⟨k0, k1, k2, k3, k4⟩ := HL5.out.rowP
     refine hK.out _ _ ?_ (fun hHeld => ?_)
     · (try dsimp only); exact HKS.out _ HBC.out
     clear hK K
     (try simp only [Act.put, sA, sB, sC])
     refine wpAnyH_ready (rs := [7]) (by kernel_rfl) (by simp) ?_
     refine AllReadyH.cons (o := ?o9) ?g9 (fun K hK => ?j9) AllReadyH.nil
     case g9 => (simp only [gA, gB, gC]; rfl)
     go_simp
     refine hK.out _ _ ?_ (fun hHeld => ?_)
     · (try dsimp only); exact HKS.out _ (bel2M HBC.out HB5.out)
     clear hK K
     (try simp only [Act.put, sA, sB, sC])
     refine wpAnyH_ready (rs := [8]) (by kernel_rfl) (by simp) ?_
     refine AllReadyH.cons (o := ?o10) ?g10 (fun K hK => ?j10) AllReadyH.nil
     case g10 => (simp only [gA, gB, gC]; rfl)
     refine step_append_rowsM rfl (.tmp 32) (.tmp 35) 52 rfl 0 33 i1 (.agg #[.int .i64 0, .string ⟨#[]⟩, .slice none 0 0, .slice none 0 0]) 4 72 Try.underlying52 hj hy0 hy1 hy2 rfl (by decide) (.slice AV qs.length cV) qs.length (qs.flatMap kbC) rfl HL5.out.row (.slice (some ⟨w4.heap.size, 0, none⟩) 1 1) 1 (kbC ⟨b, A4, c4, D4, d4⟩) rfl (built4 (q := ⟨b, A4, c4, D4, d4⟩) HX5.out) (kbC_one1 _) (by unfold maxLen; omega) (by omega) (Nat.zero_le _) ?_
     intro v6 w6 hown6 hg6 ho6
     obtain ⟨A6, c6, rfl⟩ := own_slice hown6
     have HO6 := Lib.hid hown6
     have HG6 := Lib.hid hg6
     have HR6 := Lib.hid ho6
     have HH6 := Lib.hid ((hg6.block g HL5.out.lt (fun e => (HL5.out.at_v g e.symm).2 rfl)).trans HL5.out.head)
     have HX6 := Lib.hid ((hg6.block w.heap.size (Nat.lt_of_lt_of_le (Array.getElem?_eq_some_iff.1 HX0.out).1 (bel2M HBC.out HB5.out).size) (fun e => Nat.lt_irrefl _ (HL5.out.at_v _ e.symm).1.1)).trans (heapB HX0.out (bel2M HBC.out HB5.out)))
     clear hown6 hg6 ho6
     obtain ⟨m0, m1, m2, m3, m4⟩ := rows4 HH6.out
     refine hK.out _ _ ?_ (fun hHeld => ?_)
     · (try dsimp only); (obtain ⟨e0, e1, e2, e3, -⟩ := rows4 HX6.out; exact ⟨e0, e1, e2, e3⟩)
     clear hK K
     (try simp only [Act.put, sA, sB, sC])
     refine tk 9 ?_
     (try simp only [Act.put, sA, sB, sC])
     refine tk 10 ?_
     (try simp only [Act.put, sA, sB, sC])
     refine wpAnyH_ready (rs := [11]) (by kernel_rfl) (by simp) ?_
     refine AllReadyH.cons (o := ?o13) ?g13 (fun K hK => ?j13) AllReadyH.nil
     case g13 => (simp only [gA, gB, gC]; rfl)
     go_simp
     refine hK.out _ _ ?_ (fun hHeld => ?_)
     · (try dsimp only); (obtain ⟨e0, e1, e2, e3, -⟩ := rows4 HX6.out; exact ⟨setOtherB e0 (Nat.ne_of_gt HGL.out), setOtherB e1 (Nat.ne_of_gt HGL.out), setOtherB e2 (Nat.ne_of_gt HGL.out), setOtherB e3 (Nat.ne_of_gt HGL.out)⟩)
     clear hK K
     (try simp only [Act.put, sA, sB, sC])
     refine wpAnyH_done (by kernel_rfl) ?_ _
     go_wp2_with fail
     go_meet
     have hz0 := HB0.out.size
     have hz4 := HZ4.out
     have hz5 := HB5.out.size
     have hz6 := HBC.out.size
     refine ⟨_, _, rfl, LgR.push (w := w) HL5.out HS.out (by omega) ((HK4.out.keep hz5 (C' := fun k => w.heap.size ≤ k) fun k hk hc => ⟨HB5.out.block k hk, by have h1 : _ ≤ k := hc; omega⟩)) HO6.out HG6.out HR6.out rfl rfl, ?_⟩
     exact ((Off.of_below (bel2M HB0.out (bel2M HBC.out HB5.out))).trans (Off.of_grown HG6.out (fun k hk => (HL5.out.at_v k hk).1.2))).trans ⟨rfl, rfl, rfl, by simp, fun k hk hn => Go.Deep.blk_setCell_other _ _ _ _ (fun e => hn (by rw [e]; exact HL5.out.at_g.2))⟩
    ·
     go_simp
     (go_at_call 42; refine (HB.out _ (bel2M HB0.out HBC.out)).mono ?_)
     rintro e w4 ⟨A4, c4, D4, d4, rfl, hk4, hb4⟩
     have HK4 := Lib.hid hk4
     have HZ4 := Lib.hid HBC.out.size
     replace HBC := Lib.hid (bel2M HBC.out hb4)
     clear hk4 hb4
     obtain ⟨z0, z1, z2, z3, z4⟩ := (HL.out _ (bel2M HB0.out HBC.out)).rowP
     have HB5 := Lib.hid (alloc1B w4 (.cells #[.int .i64 b.h, .string (strB b.prev), .slice A4 b.reqs.length c4, .slice D4 b.ress.length d4] 33))
     have HX5 := Lib.hid (heap_alloc_new w4 (.cells #[.int .i64 b.h, .string (strB b.prev), .slice A4 b.reqs.length c4, .slice D4 b.ress.length d4] 33))
     have HL5 := Lib.hid (HL.out _ (bel2M HB0.out (bel2M HBC.out HB5.out)))
     obtain ⟨k0, k1, k2, k3, k4⟩ := HL5.out.rowP
     refine hK.out _ _ ?_ (fun hHeld => ?_)
     · (try dsimp only); exact HKS.out _ HBC.out
     clear hK K
     (try simp only [Act.put, sA, sB, sC])
     refine wpAnyH_ready (rs := [4, 7]) (by kernel_rfl) (by simp) ?_
     refine AllReadyH.cons (o := ?o14) ?g14 (fun K hK => ?j14) (AllReadyH.cons (o := ?o15) ?g15 (fun K hK => ?j15) AllReadyH.nil)
     case g14 => (simp only [gA, gB, gC]; rfl)
     case g15 => (simp only [gA, gB, gC]; rfl)
     ·
      go_simp
      refine hK.out _ _ ?_ (fun hHeld => ?_)
      · (try dsimp only); exact HKS.out _ HBC.out
      clear hK K
      (try simp only [Act.put, sA, sB, sC])
      refine wpAnyH_ready (rs := [7]) (by kernel_rfl) (by simp) ?_
      refine AllReadyH.cons (o := ?o16) ?g16 (fun K hK => ?j16) AllReadyH.nil
      case g16 => (simp only [gA, gB, gC]; rfl)
      go_simp
      refine hK.out _ _ ?_ (fun hHeld => ?_)
      · (try dsimp only); exact HKS.out _ (bel2M HBC.out HB5.out)
      clear hK K
      (try simp only [Act.put, sA, sB, sC])
      refine wpAnyH_ready (rs := [8]) (by kernel_rfl) (by simp) ?_
      refine AllReadyH.cons (o := ?o17) ?g17 (fun K hK => ?j17) AllReadyH.nil
      case g17 => (simp only [gA, gB, gC]; rfl)
      refine step_append_rowsM rfl (.tmp 32) (.tmp 35) 52 rfl 0 33 i1 (.agg #[.int .i64 0, .string ⟨#[]⟩, .slice none 0 0, .slice none 0 0]) 4 72 Try.underlying52 hj hy0 hy1 hy2 rfl (by decide) (.slice AV qs.length cV) qs.length (qs.flatMap kbC) rfl HL5.out.row (.slice (some ⟨w4.heap.size, 0, none⟩) 1 1) 1 (kbC ⟨b, A4, c4, D4, d4⟩) rfl (built4 (q := ⟨b, A4, c4, D4, d4⟩) HX5.out) (kbC_one1 _) (by unfold maxLen; omega) (by omega) (Nat.zero_le _) ?_
      intro v6 w6 hown6 hg6 ho6
      obtain ⟨A6, c6, rfl⟩ := own_slice hown6
      have HO6 := Lib.hid hown6
      have HG6 := Lib.hid hg6
      have HR6 := Lib.hid ho6
      have HH6 := Lib.hid ((hg6.block g HL5.out.lt (fun e => (HL5.out.at_v g e.symm).2 rfl)).trans HL5.out.head)
      have HX6 := Lib.hid ((hg6.block w.heap.size (Nat.lt_of_lt_of_le (Array.getElem?_eq_some_iff.1 HX0.out).1 (bel2M HBC.out HB5.out).size) (fun e => Nat.lt_irrefl _ (HL5.out.at_v _ e.symm).1.1)).trans (heapB HX0.out (bel2M HBC.out HB5.out)))
      clear hown6 hg6 ho6
      obtain ⟨m0, m1, m2, m3, m4⟩ := rows4 HH6.out
      refine hK.out _ _ ?_ (fun hHeld => ?_)
      · (try dsimp only); (obtain ⟨e0, e1, e2, e3, -⟩ := rows4 HX6.out; exact ⟨e0, e1, e2, e3⟩)
      clear hK K
      (try simp only [Act.put, sA, sB, sC])
      refine tk 9 ?_
      (try simp only [Act.put, sA, sB, sC])
      refine tk 10 ?_
      (try simp only [Act.put, sA, sB, sC])
      refine wpAnyH_ready (rs := [11]) (by kernel_rfl) (by simp) ?_
      refine AllReadyH.cons (o := ?o20) ?g20 (fun K hK => ?j20) AllReadyH.nil
      case g20 => (simp only [gA, gB, gC]; rfl)
      go_simp
      refine hK.out _ _ ?_ (fun hHeld => ?_)
      · (try dsimp only); (obtain ⟨e0, e1, e2, e3, -⟩ := rows4 HX6.out; exact ⟨setOtherB e0 (Nat.ne_of_gt HGL.out), setOtherB e1 (Nat.ne_of_gt HGL.out), setOtherB e2 (Nat.ne_of_gt HGL.out), setOtherB e3 (Nat.ne_of_gt HGL.out)⟩)
      clear hK K
      (try simp only [Act.put, sA, sB, sC])
      refine wpAnyH_done (by kernel_rfl) ?_ _
      go_wp2_with fail
      go_meet
      have hz0 := HB0.out.size
      have hz4 := HZ4.out
      have hz5 := HB5.out.size
      have hz6 := HBC.out.size
      refine ⟨_, _, rfl, LgR.push (w := w) HL5.out HS.out (by omega) ((HK4.out.keep hz5 (C' := fun k => w.heap.size ≤ k) fun k hk hc => ⟨HB5.out.block k hk, by have h1 : _ ≤ k := hc; omega⟩)) HO6.out HG6.out HR6.out rfl rfl, ?_⟩
      exact ((Off.of_below (bel2M HB0.out (bel2M HBC.out HB5.out))).trans (Off.of_grown HG6.out (fun k hk => (HL5.out.at_v k hk).1.2))).trans ⟨rfl, rfl, rfl, by simp, fun k hk hn => Go.Deep.blk_setCell_other _ _ _ _ (fun e => hn (by rw [e]; exact HL5.out.at_g.2))⟩
     ·
      go_simp
      refine hK.out _ _ ?_ (fun hHeld => ?_)
      · (try dsimp only); exact HKS.out _ (bel2M HBC.out HB5.out)
      clear hK K
      (try simp only [Act.put, sA, sB, sC])
      refine wpAnyH_ready (rs := [4]) (by kernel_rfl) (by simp) ?_
      refine AllReadyH.cons (o := ?o21) ?g21 (fun K hK => ?j21) AllReadyH.nil
      case g21 => (simp only [gA, gB, gC]; rfl)
      go_simp
      refine hK.out _ _ ?_ (fun hHeld => ?_)
      · (try dsimp only); exact HKS.out _ (bel2M HBC.out HB5.out)
      clear hK K
      (try simp only [Act.put, sA, sB, sC])
      refine wpAnyH_ready (rs := [8]) (by kernel_rfl) (by simp) ?_
      refine AllReadyH.cons (o := ?o22) ?g22 (fun K hK => ?j22) AllReadyH.nil
      case g22 => (simp only [gA, gB, gC]; rfl)
      refine step_append_rowsM rfl (.tmp 32) (.tmp 35) 52 rfl 0 33 i1 (.agg #[.int .i64 0, .string ⟨#[]⟩, .slice none 0 0, .slice none 0 0]) 4 72 Try.underlying52 hj hy0 hy1 hy2 rfl (by decide) (.slice AV qs.length cV) qs.length (qs.flatMap kbC) rfl HL5.out.row (.slice (some ⟨w4.heap.size, 0, none⟩) 1 1) 1 (kbC ⟨b, A4, c4, D4, d4⟩) rfl (built4 (q := ⟨b, A4, c4, D4, d4⟩) HX5.out) (kbC_one1 _) (by unfold maxLen; omega) (by omega) (Nat.zero_le _) ?_
      intro v6 w6 hown6 hg6 ho6
      obtain ⟨A6, c6, rfl⟩ := own_slice hown6
      have HO6 := Lib.hid hown6
      have HG6 := Lib.hid hg6
      have HR6 := Lib.hid ho6
      have HH6 := Lib.hid ((hg6.block g HL5.out.lt (fun e => (HL5.out.at_v g e.symm).2 rfl)).trans HL5.out.head)
      have HX6 := Lib.hid ((hg6.block w.heap.size (Nat.lt_of_lt_of_le (Array.getElem?_eq_some_iff.1 HX0.out).1 (bel2M HBC.out HB5.out).size) (fun e => Nat.lt_irrefl _ (HL5.out.at_v _ e.symm).1.1)).trans (heapB HX0.out (bel2M HBC.out HB5.out)))
      clear hown6 hg6 ho6
      obtain ⟨m0, m1, m2, m3, m4⟩ := rows4 HH6.out
      refine hK.out _ _ ?_ (fun hHeld => ?_)
      · (try dsimp only); (obtain ⟨e0, e1, e2, e3, -⟩ := rows4 HX6.out; exact ⟨e0, e1, e2, e3⟩)
      clear hK K
      (try simp only [Act.put, sA, sB, sC])
      refine tk 9 ?_
      (try simp only [Act.put, sA, sB, sC])
      refine tk 10 ?_
      (try simp only [Act.put, sA, sB, sC])
      refine wpAnyH_ready (rs := [11]) (by kernel_rfl) (by simp) ?_
      refine AllReadyH.cons (o := ?o25) ?g25 (fun K hK => ?j25) AllReadyH.nil
      case g25 => (simp only [gA, gB, gC]; rfl)
      go_simp
      refine hK.out _ _ ?_ (fun hHeld => ?_)
      · (try dsimp only); (obtain ⟨e0, e1, e2, e3, -⟩ := rows4 HX6.out; exact ⟨setOtherB e0 (Nat.ne_of_gt HGL.out), setOtherB e1 (Nat.ne_of_gt HGL.out), setOtherB e2 (Nat.ne_of_gt HGL.out), setOtherB e3 (Nat.ne_of_gt HGL.out)⟩)
      clear hK K
      (try simp only [Act.put, sA, sB, sC])
      refine wpAnyH_done (by kernel_rfl) ?_ _
      go_wp2_with fail
      go_meet
      have hz0 := HB0.out.size
      have hz4 := HZ4.out
      have hz5 := HB5.out.size
      have hz6 := HBC.out.size
      refine ⟨_, _, rfl, LgR.push (w := w) HL5.out HS.out (by omega) ((HK4.out.keep hz5 (C' := fun k => w.heap.size ≤ k) fun k hk hc => ⟨HB5.out.block k hk, by have h1 : _ ≤ k := hc; omega⟩)) HO6.out HG6.out HR6.out rfl rfl, ?_⟩
      exact ((Off.of_below (bel2M HB0.out (bel2M HBC.out HB5.out))).trans (Off.of_grown HG6.out (fun k hk => (HL5.out.at_v k hk).1.2))).trans ⟨rfl, rfl, rfl, by simp, fun k hk hn => Go.Deep.blk_setCell_other _ _ _ _ (fun e => hn (by rw [e]; exact HL5.out.at_g.2))⟩
  case rest =>
    obtain ⟨v7, qs7, -, hL7, hO7⟩ := hcut
    go_wp2
    go_ret
    exact ⟨v7, qs7, rfl, hL7, hO7⟩



theorem off_set {S : Nat → Prop} {W : World} {g i : Nat} {u : Value} (h : S g) : Off S W (W.setCell ⟨g, i, none⟩ u) := ⟨rfl, rfl, rfl, by simp, fun k _ hn => Go.Deep.blk_setCell_other _ _ _ _ (fun e => hn (by rw [e]; exact h))⟩
theorem cutE_two {L : Ldg} {x : Int} (h : x < L.base ∨ topL L < x) : cutE L x = 2 := if_pos h
set_option maxHeartbeats 4000000 in
theorem lCut_any {S : Nat → Prop} {w : World} {g : Nat} {L : Ldg} {v : Value} {qs : List KB} (h : LgP S w g L v qs) {K : Nat} (hg : GoodL K L) (hK : K ≤ 10000000) (x : Int) (hS : ∀ k, w.heap.size ≤ k → S k) : Calls Try.prog 20 #[.pointer (some ⟨g, 0, none⟩), .int .i64 x] w (ApP (cutE L x) (cutL L x) g S w) := by
  have h' := h.mono (S' := fun k => k < w.heap.size ∧ S k) (fun k hk hs => ⟨hk, hs⟩)
  have HL := Lib.hid (fun W (hb : Below w.heap.size w W) => h'.below hb)
  have HS := Lib.hid hS
  have hbnd := hg.b
  have hlen := h.len
  have hn1 := hg.n
  have HFIN := Lib.hid (show ∀ x W, Below w.heap.size w W → ApP x L g S w (.returned (.int .i64 x)) W from fun x W hbl => ⟨v, qs, rfl, (HL.out W hbl).mono (fun k _ hk => hk.2), Off.of_below hbl⟩)
  have HHT := Lib.hid (fun W (hb : Below w.heap.size w W) => lHeight_any (HL.out W hb) hg)
  obtain ⟨z0, z1, z2, z3, z4⟩ := h.rowP
  have HH := Lib.hid (fun W => has_any g W)
  by_cases h1 : x < L.base
  · have e1 := cutE_two (L := L) (.inl h1)
    rw [cutL_no (by rw [e1]; decide), e1]
    clear h h' hg e1
    go_enter Try.func20, Try.ntmps20
    go_wp2_with (first
      | (go_at_call 43; refine (HH.out _).mono ?_; rintro e w1 ⟨rfl, hww⟩; rw [hww]; clear hww w1))
    go_ret
    exact HFIN.out _ _ (Below.refl _ _)
  by_cases h2 : topL L < x
  · have e1 := cutE_two (L := L) (.inr h2)
    rw [cutL_no (by rw [e1]; decide), e1]
    clear h h' hg e1
    generalize topL L = tp at *
    go_enter Try.func20, Try.ntmps20
    go_wp2_with (first
      | (go_at_call 43; refine (HH.out _).mono ?_; rintro e w1 ⟨rfl, hww⟩; rw [hww]; clear hww w1)
      | (go_at_call 18; refine (HHT.out _ (Below.refl _ _)).mono ?_; rintro e w1 ⟨rfl, hb1⟩; have HB1 := Lib.hid hb1; clear hb1))
    go_ret
    exact HFIN.out _ _ HB1.out
  have e0 : cutE L x = 0 := if_neg (by omega)
  obtain ⟨k, hk, rfl, hcl⟩ := cutE_zero e0
  rw [e0, hcl]
  have hkq : k ≤ qs.length := by omega
  have HMA := Lib.hid (fun W (hb : Below w.heap.size w W) => lMarkAt_any (HL.out W hb) hg hK hkq)
  obtain ⟨AV, cV, rfl⟩ := own_slice h.row
  have hcut := run_cutB AV qs.length cV k hkq
  have hs1 : IntKind.i64.wrap (L.base + (k : Int) - L.base) = (k : Int) := by rw [IntKind.wrap_i64]; omega
  have hs2 : IntKind.i64.wrap ((k : Int)) = (k : Int) := by rw [IntKind.wrap_i64]; omega
  have h1I : ¬ L.base + (k : Int) < L.base := h1
  have hql : qs.length - k ≤ 1000000 := by omega
  have hbl : (⟨L.base + (k : Int), atL L k, L.bl.drop k⟩ : Ldg).bl = L.bl.drop k := rfl
  clear h h' hg e0 hcl hbnd hlen hn1 h1
  generalize topL L = tp at *
  generalize atL L k = dk at *
  generalize hLb : L.bl.drop k = lb at *
  have HLB := Lib.hid hLb
  clear hLb
  go_enter Try.func20, Try.ntmps20
  go_upto_region 5 with (first
      | (go_at_call 43; refine (HH.out _).mono ?_; rintro e w1 ⟨rfl, hww⟩; rw [hww]; clear hww w1)
      | (go_at_call 18; refine (HHT.out _ (Below.refl _ _)).mono ?_; rintro e w1 ⟨rfl, hb1⟩; have HB1 := Lib.hid hb1; clear hb1))
  replace HB1 := Lib.hid HB1.out.drew
  clear z0 z1 z2 z3 z4
  obtain ⟨z0, z1, z2, z3, z4⟩ := (HL.out _ HB1.out).rowP
  go_region_held3 (fun W => W.cell? ⟨g, 0, none⟩ = some (.int .i64 L.base) ∧ W.cell? ⟨g, 2, none⟩ = some (.slice AV qs.length cV)) (first | exact ⟨z0, z2⟩) (fail)
  go_upto_region 7 with (first
    | (go_at_call 44; refine (HMA.out _ HB1.out).mono ?_; rintro e w2 ⟨rfl, hb2⟩; have HB2 := Lib.hid (bel2M HB1.out hb2); clear hb2 z0 z1 z2 z3 z4; obtain ⟨z0, z1, z2, z3, z4⟩ := (HL.out _ HB2.out).rowP))
  have hL2 := HL.out _ HB2.out
  have hgl : g < w.heap.size := hL2.at_g.1
  have hh3 : ((w2.setCell ⟨g, 0, none⟩ (.int .i64 (L.base + (k : Int)))).setCell ⟨g, 1, none⟩ (.string (strB dk))).heap[g]? = some (.cells #[.int .i64 (L.base + (k : Int)), .string (strB dk), .slice AV qs.length cV, .bool true] 77 (0, 0)) := by
    rw [set_cells (set_cells hL2.head)]
    rfl
  have ho3 : ∀ i, i ≠ g → ((w2.setCell ⟨g, 0, none⟩ (.int .i64 (L.base + (k : Int)))).setCell ⟨g, 1, none⟩ (.string (strB dk))).heap[i]? = w2.heap[i]? := fun i hi => by rw [Go.Deep.blk_setCell_other _ _ _ _ hi, Go.Deep.blk_setCell_other _ _ _ _ hi]
  have hz3 : ((w2.setCell ⟨g, 0, none⟩ (.int .i64 (L.base + (k : Int)))).setCell ⟨g, 1, none⟩ (.string (strB dk))).heap.size = w2.heap.size := by simp
  have hf3 : Off S w ((w2.setCell ⟨g, 0, none⟩ (.int .i64 (L.base + (k : Int)))).setCell ⟨g, 1, none⟩ (.string (strB dk))) := ((Off.of_below HB2.out).trans (off_set hL2.at_g.2)).trans (off_set hL2.at_g.2)
  have hrow3 := own_keep hL2.row (w' := ((w2.setCell ⟨g, 0, none⟩ (.int .i64 (L.base + (k : Int)))).setCell ⟨g, 1, none⟩ (.string (strB dk)))) fun i hi => ho3 i (hL2.at_v i hi).2
  generalize ((w2.setCell ⟨g, 0, none⟩ (.int .i64 (L.base + (k : Int)))).setCell ⟨g, 1, none⟩ (.string (strB dk))) = w3 at *
  have HCL := Lib.hid (cloneBk_any (cutA AV cV k) (qs.length - k) (cV - k) ((qs.drop k).flatMap kbC) w3 (own_cut hrow3 rfl hkq) (kbC_one _) hql)
  have HH3 := Lib.hid hh3
  have HO3 := Lib.hid ho3
  have HZ3 := Lib.hid hz3
  have HF3 := Lib.hid hf3
  have HGL := Lib.hid hgl
  clear hh3 ho3 hz3 hf3 hrow3 hL2 hgl z0 z1 z2 z3 z4
  go_wp2_with (first
    | (go_at_call 45; refine HCL.out.mono ?_; rintro e w4 ⟨v4, rfl, ho4, hb4⟩; obtain ⟨A4, c4, rfl⟩ := own_slice ho4; have HO4 := Lib.hid ho4; have HB4 := Lib.hid hb4; have HH4 := Lib.hid (heapB HH3.out hb4); clear ho4 hb4; obtain ⟨z0, z1, z2, z3, z4⟩ := rows4 HH4.out))
  go_ret
  have hz2 := HB2.out.size
  have hz3 := HZ3.out
  have hz4 := HB4.out.size
  have hgl : g < w.heap.size := HGL.out
  have hdl : (qs.drop k).length = qs.length - k := List.length_drop
  have hL := HL.out w (Below.refl _ _)
  refine ⟨.slice A4 (qs.length - k) c4, qs.drop k, rfl, LgR.cutoff hL HS.out (by simp; omega) (fun i hi hne => ?_) ?_ ?_ HLB.out.symm, (HF3.out.trans (Off.of_below HB4.out)).trans (off_set hL.at_g.2)⟩
  · rw [Go.Deep.blk_setCell_other _ _ _ _ hne, HB4.out.block i (by omega), HO3.out i hne, HB2.out.block i hi]
  · rw [hdl]
    exact own_keep (own_leL HO4.out (by omega)) fun i hi => Go.Deep.blk_setCell_other _ _ _ _ (show i ≠ g by have := (HO4.out.lt i hi).1; omega)
  · rw [set_cells HH4.out]
    rfl

theorem off_below {S : Nat → Prop} {w w' : World} {B : Nat} (h : Off S w w') (hB : B ≤ w.heap.size) (hS : ∀ k, S k → B ≤ k) : Below B w w' := ⟨h.os, h.tape, h.output, h.size, fun k hk => h.block k (by omega) (fun hs => by have := hS k hs; omega)⟩
def bA : Blk := ⟨1, firstL, [], []⟩
def L1 : Ldg := ⟨0, firstL, [bA]⟩
def hdA : List UInt8 := hdrL bA
def L2 : Ldg := ⟨1, hdA, []⟩
theorem bA_few : FewQ bA := ⟨by simp [bA], by simp [bA], by simp [bA]⟩
theorem bA_ok : OkB bA := ⟨by show in64B 1; unfold in64B; omega, by simp [bA], by simp [bA]⟩
theorem bA_check : checkB bA = 0 := by
  unfold checkB
  rw [if_neg (by show ¬ ((1 : Int) < 1 ∨ 1099511627776 < (1 : Int)); omega), if_neg (by simp [bA])]
theorem topL0 : topL L0 = 0 := rfl
theorem topL1 : topL L1 = 1 := rfl
theorem app_one : appE L0 bA = 0 ∧ appL L0 bA = L1 := by
  have h : appE L0 bA = 0 := by
    unfold appE
    rw [if_neg (by rw [bA_check]; decide), if_neg (by rw [topL0]; show ¬ ((1 : Int) ≠ 0 + 1); decide), if_neg (fun h => h rfl)]
  exact ⟨h, by rw [appL_yes h]; rfl⟩
theorem app_two : appE L1 bA = 100 ∧ appL L1 bA = L1 := by
  have h : appE L1 bA = 100 := by
    unfold appE
    rw [if_neg (by rw [bA_check]; decide), if_pos (by rw [topL1]; show ((1 : Int) ≠ 1 + 1); decide)]
  exact ⟨h, appL_no (by rw [h]; decide)⟩
theorem good_one : GoodL 26000 L1 := by
  have h := L0_good.app bA_few bA_ok
  rw [app_one.2] at h
  exact h
theorem cut_one : cutE L1 1 = 0 ∧ cutL L1 1 = L2 := by
  have h : cutE L1 1 = 0 := if_neg (by rw [topL1]; show ¬ ((1 : Int) < 0 ∨ 1 < (1 : Int)); omega)
  refine ⟨h, ?_⟩
  unfold cutL
  rw [if_pos h]
  rfl
theorem good_two : GoodL 26000 L2 := by
  have h := good_one.cut 1
  rw [cut_one.2] at h
  exact h
theorem blk_two : blkE L2 1 = 4 ∧ blkL L2 1 = blk0 := blkE_one (.inl (by show (1 : Int) ≤ 1; omega))
set_option maxHeartbeats 2000000 in
theorem awake11_any (w : World) : Calls Try.prog 14 #[] w (Yes w) := by
  have hk0 : ∀ W, BlkK W bA none 0 none 0 := fun W => ⟨RowM.none _ _ _, RowM.none _ _ _⟩
  have HN := Lib.hid (fun W => lNew_any W)
  have HF := Lib.hid (fun W => rFirst_any W)
  have HA1 := Lib.hid (fun (S : Nat → Prop) (W : World) (g : Nat) (v : Value) (qs : List KB) (h : LgP S W g L0 v qs) (hS : ∀ k, W.heap.size ≤ k → S k) => show Calls Try.prog 21 #[.pointer (some ⟨g, 0, none⟩), .agg #[.int .i64 1, .string (strB firstL), .slice none 0 0, .slice none 0 0]] W (ApP 0 L1 g S W) by
    have := lAppend_any h L0_good (by omega) bA none 0 none 0 (hk0 W) bA_few hS
    rw [app_one.1, app_one.2] at this
    exact this)
  have HA2 := Lib.hid (fun (S : Nat → Prop) (W : World) (g : Nat) (v : Value) (qs : List KB) (h : LgP S W g L1 v qs) (hS : ∀ k, W.heap.size ≤ k → S k) => show Calls Try.prog 21 #[.pointer (some ⟨g, 0, none⟩), .agg #[.int .i64 1, .string (strB firstL), .slice none 0 0, .slice none 0 0]] W (ApP 100 L1 g S W) by
    have := lAppend_any h good_one (by omega) bA none 0 none 0 (hk0 W) bA_few hS
    rw [app_two.1, app_two.2] at this
    exact this)
  have HHT := Lib.hid (fun (S : Nat → Prop) (W : World) (g : Nat) (v : Value) (qs : List KB) (h : LgP S W g L1 v qs) => show Calls Try.prog 18 #[.pointer (some ⟨g, 0, none⟩)] W (TellL (.int .i64 1) W) from lHeight_any h good_one)
  have HCT := Lib.hid (fun (S : Nat → Prop) (W : World) (g : Nat) (v : Value) (qs : List KB) (h : LgP S W g L1 v qs) (hS : ∀ k, W.heap.size ≤ k → S k) => show Calls Try.prog 20 #[.pointer (some ⟨g, 0, none⟩), .int .i64 1] W (ApP 0 L2 g S W) by
    have := lCut_any h good_one (by omega) 1 hS
    rw [cut_one.1, cut_one.2] at this
    exact this)
  have HBS := Lib.hid (fun (S : Nat → Prop) (W : World) (g : Nat) (v : Value) (qs : List KB) (h : LgP S W g L2 v qs) => show Calls Try.prog 22 #[.pointer (some ⟨g, 0, none⟩)] W (TellL (.tuple #[.int .i64 1, .string (strB hdA)]) W) from lBase_any h)
  have HBK := Lib.hid (fun (S : Nat → Prop) (W : World) (g : Nat) (v : Value) (qs : List KB) (h : LgP S W g L2 v qs) => show Calls Try.prog 24 #[.pointer (some ⟨g, 0, none⟩), .int .i64 1] W (BlT blk0 4 W) by
    have := lBlock_any h good_two 1
    rw [blk_two.1, blk_two.2] at this
    exact this)
  have HHD := Lib.hid (fun (S : Nat → Prop) (W : World) (g : Nat) (v : Value) (qs : List KB) (h : LgP S W g L2 v qs) => show Calls Try.prog 19 #[.pointer (some ⟨g, 0, none⟩)] W (TellL (.string (strB hdA)) W) from lHead_any h good_two (by omega))
  clear hk0
  generalize L1 = M1 at *
  generalize L2 = M2 at *
  generalize hdA = hd at *
  generalize L0 = M0 at *
  generalize firstL = fl at *
  go_enter Try.func14, Try.ntmps14
  go_upto_region 3 with (first
    | (go_at_call 10; refine (HN.out _).mono ?_; rintro e w1 ⟨g, rfl, hg1, hb1⟩; have HB1 := Lib.hid hb1; have HG1 := Lib.hid hg1; clear hb1 hg1)
    | (go_at_call 35; refine (HF.out _).mono ?_; rintro e w2 ⟨rfl, hb2⟩; have HB2 := Lib.hid hb2; clear hb2))
  have hz1 := HB1.out.size
  have hz2 := HB2.out.size
  have hx3 := heap_alloc_new w2 (.cells #[.int .i64 1, .string (strB fl), .slice none 0 0, .slice none 0 0] 33)
  have hb3 := alloc1B w2 (.cells #[.int .i64 1, .string (strB fl), .slice none 0 0, .slice none 0 0] 33)
  have hz3 : (w2.alloc (.cells #[.int .i64 1, .string (strB fl), .slice none 0 0, .slice none 0 0] 33)).heap.size = w2.heap.size + 1 := World.size_alloc _ _
  generalize w2.alloc (.cells #[.int .i64 1, .string (strB fl), .slice none 0 0, .slice none 0 0] 33) = w3 at *
  have hg3 : LgP (fun k => (w.heap.size ≤ k ∧ k < w1.heap.size) ∨ w3.heap.size ≤ k) w3.drew g M0 (.slice none 0 0) [] := ((LgR.mono HG1.out (S' := fun k => (w.heap.size ≤ k ∧ k < w1.heap.size) ∨ w3.heap.size ≤ k) fun k h1 h2 => .inl ⟨h2, h1⟩).below HB2.out).below (bel2M hb3 ((Below.refl _ _).drew))
  have HG3 := Lib.hid hg3
  have HX3 := Lib.hid hx3
  have HZ := Lib.hid (And.intro hz1 (And.intro hz2 hz3))
  have HB3 := Lib.hid (bel2M (bel2M HB1.out HB2.out) hb3)
  have HS3 := Lib.hid (show ∀ k, (fun k => (w.heap.size ≤ k ∧ k < w1.heap.size) ∨ w3.heap.size ≤ k) k → w.heap.size ≤ k from fun k hk => by rcases hk with hk | hk <;> omega)
  have HNS := Lib.hid (show ¬ (fun k => (w.heap.size ≤ k ∧ k < w1.heap.size) ∨ w3.heap.size ≤ k) w2.heap.size from fun hk => by rcases hk with hk | hk <;> omega)
  have HNZ := Lib.hid (show w2.heap.size < w3.heap.size by omega)
  have HUP := Lib.hid (show ∀ k, w3.heap.size ≤ k → (fun k => (w.heap.size ≤ k ∧ k < w1.heap.size) ∨ w3.heap.size ≤ k) k from fun k hk => .inr hk)
  generalize (fun k => (w.heap.size ≤ k ∧ k < w1.heap.size) ∨ w3.heap.size ≤ k) = S at *
  clear hz1 hz2 hz3 hx3 hb3 hg3 HG1
  have hbox : ∀ W, Off S w3 W → W.cell? ⟨w2.heap.size, 0, none⟩ = some (.int .i64 1) ∧ W.cell? ⟨w2.heap.size, 1, none⟩ = some (.string (strB fl)) ∧ W.cell? ⟨w2.heap.size, 2, none⟩ = some (.slice none 0 0) ∧ W.cell? ⟨w2.heap.size, 3, none⟩ = some (.slice none 0 0) := fun W hW => by
    obtain ⟨e0, e1, e2, e3, -⟩ := rows4 ((hW.block _ HNZ.out HNS.out).trans HX3.out)
    exact ⟨e0, e1, e2, e3⟩
  have HBOX := Lib.hid hbox
  have HO3 := Lib.hid (show Off S w3 w3.drew from Off.of_below ((Below.refl _ _).drew))
  clear hbox
  go_region_held3 (fun W => W.cell? ⟨w2.heap.size, 0, none⟩ = some (.int .i64 1) ∧ W.cell? ⟨w2.heap.size, 1, none⟩ = some (.string (strB fl)) ∧ W.cell? ⟨w2.heap.size, 2, none⟩ = some (.slice none 0 0) ∧ W.cell? ⟨w2.heap.size, 3, none⟩ = some (.slice none 0 0)) (first | exact HBOX.out _ HO5.out | exact HBOX.out _ HO4.out | exact HBOX.out _ HO3.out) (first
    | (go_at_call 21; refine (HA1.out S _ g _ _ HG3.out (fun k hk => HUP.out k (Nat.le_trans HO3.out.size hk))).mono ?_; rintro e w4 ⟨v4, q4, rfl, hg4, ho4⟩; have HG4 := Lib.hid hg4; have HO4 := Lib.hid (HO3.out.trans ho4); clear hg4 ho4 HG3)
    | (go_at_call 21; refine (HA2.out S _ g _ _ HG4.out (fun k hk => HUP.out k (Nat.le_trans HO4.out.size hk))).mono ?_; rintro e w5 ⟨v5, q5, rfl, hg5, ho5⟩; have HG5 := Lib.hid hg5; have HO5 := Lib.hid (HO4.out.trans ho5); clear hg5 ho5 HG4))
  go_wp2_with (first
    | (go_at_call 18; refine (HHT.out S _ g _ _ HG5.out).mono ?_; rintro e w6 ⟨rfl, hb6⟩; have HG6 := Lib.hid (HG5.out.below hb6); have HO6 := Lib.hid (HO5.out.trans (Off.of_below hb6)); clear hb6)
    | (go_at_call 20; refine (HCT.out S _ g _ _ HG6.out (fun k hk => HUP.out k (Nat.le_trans HO6.out.size hk))).mono ?_; rintro e w7 ⟨v7, q7, rfl, hg7, ho7⟩; have HG7 := Lib.hid hg7; have HO7 := Lib.hid (HO6.out.trans ho7); clear hg7 ho7)
    | (go_at_call 22; refine (HBS.out S _ g _ _ HG7.out).mono ?_; rintro e w8 ⟨rfl, hb8⟩; have HG8 := Lib.hid (HG7.out.below hb8); have HO8 := Lib.hid (HO7.out.trans (Off.of_below hb8)); clear hb8)
    | (go_at_call 24; refine (HBK.out S _ g _ _ HG8.out).mono ?_; rintro e w9 ⟨A9, c9, D9, d9, rfl, -, hb9⟩; have HB9 := Lib.hid (bel2M hb9 (alloc1B w9 (.cells #[.int .i64 blk0.h, .string (strB blk0.prev), .slice A9 blk0.reqs.length c9, .slice D9 blk0.ress.length d9] 33))); have HG9 := Lib.hid (HG8.out.below HB9.out); have HO9 := Lib.hid (HO8.out.trans (Off.of_below HB9.out)); clear hb9)
    | (go_at_call 19; refine (HHD.out S _ g _ _ HG9.out).mono ?_; rintro e wA ⟨rfl, hbA⟩; have HOA := Lib.hid (HO9.out.trans (Off.of_below hbA)); clear hbA))
  go_ret
  refine ⟨rfl, HB3.out.trans (off_below HOA.out HB3.out.size HS3.out)⟩

def fewBB (b : Blk) : Bool := decide (b.reqs.length ≤ 20) && decide (b.ress.length ≤ 20) && decide (b.prev.length ≤ 5000) && b.reqs.all fun e => decide (e.2.length ≤ 500)
theorem fewBB_iff {b : Blk} : fewBB b = true ↔ FewB b := by
  constructor
  · intro h
    simp [fewBB] at h
    exact ⟨h.1.1.1, h.1.1.2, h.1.2, fun e he => h.2 e.1 e.2 he⟩
  · intro h
    simp [fewBB]
    exact ⟨⟨⟨h.q, h.r⟩, h.p⟩, fun a c hc => h.d (a, c) hc⟩
def AskB (x : Bool) (w : World) (e : Ending) (w' : World) : Prop := e = .returned (.bool x) ∧ Below w.heap.size w w'
set_option maxHeartbeats 1000000 in
theorem few10_any (b : Blk) (A : Option Addr) (c : Nat) (D : Option Addr) (d : Nat) (w : World) (h : BlkK w b A c D d) : Calls Try.prog 23 #[agB b A c D d] w (AskB (fewBB b) w) := by
  have key : ∀ x, fewBB b = x → Calls Try.prog 23 #[agB b A c D d] w (AskB x w) → Calls Try.prog 23 #[agB b A c D d] w (AskB (fewBB b) w) := fun x h hc => by rw [h]; exact hc
  have HB := Lib.hid (alloc1B w (.cells #[.int .i64 b.h, .string (strB b.prev), .slice A b.reqs.length c, .slice D b.ress.length d] 33))
  have hsz := strB_size b.prev
  have hm1 : b.reqs.length ≤ maxLen := Nat.le_trans h.q.1 h.q.2.1
  have hm2 : b.ress.length ≤ maxLen := Nat.le_trans h.r.1 h.r.2.1
  unfold maxLen at hm1 hm2
  by_cases h1 : b.reqs.length ≤ 20
  case neg =>
    have e1 : decide ((20 : Int) < (b.reqs.length : Int)) = true := by simp; omega
    refine key false (by rw [← Bool.not_eq_true, fewBB_iff]; exact fun h => h1 h.q) ?_
    clear h h1
    go_enter Try.func23, Try.ntmps23
    go_wp2
    go_ret
    exact ⟨rfl, HB.out⟩
  have e1 : decide ((20 : Int) < (b.reqs.length : Int)) = false := by simp; omega
  by_cases h2 : b.ress.length ≤ 20
  case neg =>
    have e2 : decide ((20 : Int) < (b.ress.length : Int)) = true := by simp; omega
    refine key false (by rw [← Bool.not_eq_true, fewBB_iff]; exact fun h => h2 h.r) ?_
    clear h h1 h2
    go_enter Try.func23, Try.ntmps23
    go_wp2
    go_ret
    exact ⟨rfl, HB.out⟩
  have e2 : decide ((20 : Int) < (b.ress.length : Int)) = false := by simp; omega
  by_cases h3 : b.prev.length ≤ 5000
  case neg =>
    have e3 : decide ((5000 : Int) < (b.prev.length : Int)) = true := by simp; omega
    refine key false (by rw [← Bool.not_eq_true, fewBB_iff]; exact fun h => h3 h.p) ?_
    clear h h1 h2 h3
    go_enter Try.func23, Try.ntmps23
    go_wp2
    go_ret
    exact ⟨rfl, HB.out⟩
  have e3 : decide ((5000 : Int) < (b.prev.length : Int)) = false := by simp; omega
  have HX := Lib.hid h.q.2.2.2
  have HKN := Lib.hid (fun (hall : (b.reqs.all fun e => decide (e.2.length ≤ 500)) = true) => show fewBB b = true by unfold fewBB; rw [hall]; simp; omega)
  have HKF := Lib.hid (fun (k : Nat) (hk : k < b.reqs.length) (hb : ¬ b.reqs[k].2.length ≤ 500) => show fewBB b = false by rw [← Bool.not_eq_true, fewBB_iff]; exact fun h => hb (h.d _ (List.getElem_mem hk)))
  clear key h h1 h2 h3
  generalize fewBB b = res at *
  go_enter Try.func23, Try.ntmps23
  go_wp2
  clear e1 e2 e3
  go_loop [3] (fun i => ∃ k : Nat, k ≤ b.reqs.length ∧ (b.reqs.take k).all (fun e => decide (e.2.length ≤ 500)) = true ∧ i = .int .i64 k) (fun i => b.reqs.length - (intOf i).toNat)
  case atStart => exact ⟨0, Nat.zero_le _, rfl, rfl⟩
  case round =>
    obtain ⟨k, hk, hall, rfl⟩ := hrel
    by_cases hlt : k < b.reqs.length
    · have hltI : (k : Int) < (b.reqs.length : Int) := by omega
      obtain ⟨ad, rfl, hbl, hc0, bv, hc1, hbv⟩ := HX.out k hlt
      have g1 := cellB hc1 HB.out
      obtain ⟨A2, c2, rfl, -, -, -, -⟩ := hbv.open
      have HA := Lib.hid hall
      clear hall hc0 hc1 hbv
      by_cases hb : b.reqs[k].2.length ≤ 500
      · have hbt : (b.reqs.take (k + 1)).all (fun e => decide (e.2.length ≤ 500)) = true := by
          rw [List.take_succ_eq_append_getElem hlt, List.all_append, HA.out]; simpa using hb
        have HBT := Lib.hid hbt
        have hbI : ¬ (500 : Int) < ((b.reqs[k].2.length : Nat) : Int) := by omega
        clear hbt hb
        generalize b.reqs[k] = rq at *
        go_wp2
        go_round
        case rel => exact ⟨k + 1, by omega, HBT.out, by go_num⟩
        case measure => simp [intOf]; omega
      · have HF := Lib.hid (HKF.out k hlt hb)
        have hbI : (500 : Int) < ((b.reqs[k].2.length : Nat) : Int) := by omega
        clear hb HKF HA
        generalize b.reqs[k] = rq at *
        go_wp2
        go_ret
        exact ⟨by rw [HF.out]; rfl, HB.out⟩
    · obtain rfl : k = b.reqs.length := by omega
      have hltI : ¬ ((b.reqs.length : Nat) : Int) < (b.reqs.length : Int) := by omega
      rw [List.take_length] at hall
      have HF := Lib.hid (HKN.out hall)
      clear hall HX HKF
      go_wp2
      go_ret
      exact ⟨by rw [HF.out]; rfl, HB.out⟩

end Go.Proofs.Ytggbopgchlgidaa

namespace Go.Proofs.Ytggbopgchlgidaa
open Go.RowKit Go.ChangeShapes Go.WideShapes Go.ChangeAt
set_option linter.unusedVariables false
set_option linter.unusedSimpArgs false
set_option maxRecDepth 20000

theorem rSame3_any (e f : Int × List UInt8) (bv cv : Value) (w : World) (hb : Bs w bv e.2) (hc : Bs w cv f.2) : Calls Try.prog 74 #[agE e.1 bv, agE f.1 cv] w (AskB (decide (e = f)) w) := by
  obtain ⟨A, c, rfl, -⟩ := hb.open
  obtain ⟨D, d, rfl, -⟩ := hc.open
  obtain ⟨s, l⟩ := e
  obtain ⟨t, m⟩ := f
  simp only at hb hc ⊢
  obtain ⟨x1, x2, x3⟩ := box2B w #[.int .i64 s, .slice A l.length c] #[.int .i64 t, .slice D m.length d] 82 82
  have HS := Lib.hid (fun W (h : Below w.heap.size w W) => Same_any _ _ l m W (hb.below h (Nat.le_refl _)) (hc.below h (Nat.le_refl _)))
  have HB := Lib.hid x3
  have HX1 := Lib.hid x1
  have HX2 := Lib.hid x2
  clear x1 x2 x3 hb hc
  by_cases hst : s = t
  · have e1 : (s == t) = true := by simpa using hst
    have hd : decide ((s, l) = (t, m)) = decide (l = m) := by simp [hst]
    rw [hd]
    have HE := Lib.hid (show (l == m) = decide (l = m) by rw [Bool.eq_iff_iff]; simp)
    clear hst hd
    go_enter Try.func74, Try.ntmps74
    go_wp2_with (go_at_call 29; refine (HS.out _ HB.out).mono ?_; rintro e w1 ⟨rfl, rfl⟩)
    go_ret
    exact ⟨by rw [← HE.out]; rfl, HB.out⟩
  · have e1 : (s == t) = false := by simpa using hst
    have hd : decide ((s, l) = (t, m)) = false := by simp [hst]
    rw [hd]
    clear hst hd
    go_enter Try.func74, Try.ntmps74
    go_wp2
    go_ret
    exact ⟨rfl, HB.out⟩
abbrev SA4 (p1 p2 p3 p4 : Addr) (v1 v2 v3 v4 : Value) : World → Prop := fun W => W.cell? p1 = some v1 ∧ W.cell? p2 = some v2 ∧ W.cell? p3 = some v3 ∧ W.cell? p4 = some v4
theorem SA4.below {p1 p2 p3 p4 : Addr} {v1 v2 v3 v4 : Value} {W W' : World} (h : SA4 p1 p2 p3 p4 v1 v2 v3 v4 W) (hb : Below W.heap.size W W') : SA4 p1 p2 p3 p4 v1 v2 v3 v4 W' := ⟨cellB h.1 hb, cellB h.2.1 hb, cellB h.2.2.1 hb, cellB h.2.2.2 hb⟩
set_option maxHeartbeats 1000000 in
theorem rAll3_any (ls ms : List (Int × List UInt8)) (A : Option Addr) (c : Nat) (D : Option Addr) (d : Nat) (w : World) (hl : EnvK w A c ls) (hm : EnvK w D d ms) : Calls Try.prog 48 #[.slice A ls.length c, .slice D ms.length d] w (AskB (decide (ls = ms)) w) := by
  have key : ∀ x, decide (ls = ms) = x → Calls Try.prog 48 #[.slice A ls.length c, .slice D ms.length d] w (AskB x w) → Calls Try.prog 48 #[.slice A ls.length c, .slice D ms.length d] w (AskB (decide (ls = ms)) w) := fun x h hc => by rw [h]; exact hc
  have hm1 : ls.length ≤ maxLen := Nat.le_trans hl.1 hl.2.1
  unfold maxLen at hm1
  by_cases hn : ls.length = ms.length
  case neg =>
    have e1 : ((ls.length : Int) != (ms.length : Int)) = true := by simp; omega
    refine key false (by simp; intro h; exact hn (by rw [h])) ?_
    clear hn hl hm key
    go_enter Try.func48, Try.ntmps48
    go_wp2
    go_ret
    exact ⟨rfl, Below.refl _ _⟩
  have e1 : ((ls.length : Int) != (ms.length : Int)) = false := by simp; omega
  have HL := Lib.hid hl.2.2.2
  have HM := Lib.hid hm.2.2.2
  have HY := Lib.hid (fun (h : ls.take ls.length = ms.take ls.length) => show decide (ls = ms) = true by rw [List.take_length, hn, List.take_length] at h; simpa using h)
  have HN := Lib.hid (fun (k : Nat) (h1 : k < ls.length) (h2 : k < ms.length) (h : ls[k] ≠ ms[k]) => show decide (ls = ms) = false by simp; rintro rfl; exact h rfl)
  have HT := Lib.hid (fun (k : Nat) (h1 : k < ls.length) (h2 : k < ms.length) (h : ls[k] = ms[k]) (ht : ls.take k = ms.take k) => show ls.take (k + 1) = ms.take (k + 1) by rw [List.take_succ_eq_append_getElem h1, List.take_succ_eq_append_getElem h2, h, ht])
  have HNL := Lib.hid hn
  clear key hl hm hn
  generalize decide (ls = ms) = res at *
  go_enter Try.func48, Try.ntmps48
  go_wp2
  clear e1
  go_loopw [5] (fun i wr => ∃ k : Nat, k ≤ ls.length ∧ i = .int .i64 k ∧ ls.take k = ms.take k ∧ Below w.heap.size w wr) (fun i _ => ls.length - (intOf i).toNat)
  case atStart => exact ⟨0, Nat.zero_le _, rfl, rfl, Below.refl _ _⟩
  case round =>
    obtain ⟨k, hk, rfl, htk, hbel⟩ := hrel
    have HTK := Lib.hid htk
    have HBE := Lib.hid hbel
    clear htk hbel
    by_cases hlt : k < ls.length
    · have hlt2 : k < ms.length := by have := HNL.out; omega
      have hltI : (k : Int) < (ls.length : Int) := by omega
      have hltJ : (k : Int) < (ms.length : Int) := by omega
      obtain ⟨ad, rfl, hbl, hq⟩ := HL.out k hlt
      obtain ⟨ae, rfl, hbe, hr⟩ := HM.out k hlt2
      obtain ⟨c1, bv, c2, hbv⟩ := hq.below HBE.out (by rw [block_add]; exact hbl)
      obtain ⟨c3, bw, c4, hbw⟩ := hr.below HBE.out (by rw [block_add]; exact hbe)
      have HT1 := Lib.hid (HT.out k hlt hlt2)
      have HN1 := Lib.hid (HN.out k hlt hlt2)
      clear hq hr
      generalize ls[k] = x at *
      generalize ms[k] = y at *
      have HS := Lib.hid (show SA4 (ad.add (k * 2)) ⟨(ad.add (k * 2)).block, (ad.add (k * 2)).off + 1, none⟩ (ae.add (k * 2)) ⟨(ae.add (k * 2)).block, (ae.add (k * 2)).off + 1, none⟩ (.int .i64 x.1) bv (.int .i64 y.1) bw wr from ⟨c1, c2, c3, c4⟩)
      have HC := Lib.hid (fun W (h : Below wr.heap.size wr W) => rSame3_any x y bv bw W (hbv.below h (Nat.le_refl _)) (hbw.below h (Nat.le_refl _)))
      have HDR := Lib.hid (show Below wr.heap.size wr wr.drew from (Below.refl _ _).drew)
      clear c1 c2 c3 c4 hbv hbw
      by_cases hxy : x = y
      · rw [decide_eq_true hxy] at HC
        have HXY := Lib.hid hxy
        clear hxy
        go_upto_region 6 with fail
        go_region_held3 (SA4 (ad.add (k * 2)) ⟨(ad.add (k * 2)).block, (ad.add (k * 2)).off + 1, none⟩ (ae.add (k * 2)) ⟨(ae.add (k * 2)).block, (ae.add (k * 2)).off + 1, none⟩ (.int .i64 x.1) bv (.int .i64 y.1) bw) (first | exact HS.out.below HDR.out | exact HS.out.below HB2.out) (first
          | (go_at_call 74; refine (HC.out _ HDR.out).mono ?_; rintro e w2 ⟨rfl, hb2⟩; have HB2 := Lib.hid (bel2M HDR.out hb2); clear hb2))
        go_wp2
        go_roundw
        case rel => exact ⟨k + 1, by omega, by go_num, HT1.out HXY.out HTK.out, bel2M HBE.out HB2.out⟩
        case measure => simp [intOf]; omega
      · rw [decide_eq_false hxy] at HC
        have HF := Lib.hid (HN1.out hxy)
        clear hxy
        go_upto_region 6 with fail
        go_region_held3 (SA4 (ad.add (k * 2)) ⟨(ad.add (k * 2)).block, (ad.add (k * 2)).off + 1, none⟩ (ae.add (k * 2)) ⟨(ae.add (k * 2)).block, (ae.add (k * 2)).off + 1, none⟩ (.int .i64 x.1) bv (.int .i64 y.1) bw) (first | exact HS.out.below HDR.out | exact HS.out.below HB2.out) (first
          | (go_at_call 74; refine (HC.out _ HDR.out).mono ?_; rintro e w2 ⟨rfl, hb2⟩; have HB2 := Lib.hid (bel2M HDR.out hb2); clear hb2))
        go_wp2
        go_ret
        exact ⟨by rw [HF.out]; rfl, bel2M HBE.out HB2.out⟩
    · obtain rfl : k = ls.length := by omega
      have hltI : ¬ ((ls.length : Nat) : Int) < (ls.length : Int) := by omega
      have HF := Lib.hid (HY.out HTK.out)
      go_wp2
      go_ret
      exact ⟨by rw [HF.out]; rfl, HBE.out⟩
def sameB (a b : Blk) : Bool := decide (a.h = b.h ∧ a.prev = b.prev ∧ a.reqs = b.reqs ∧ a.ress = b.ress)
theorem sameB_iff (a b : Blk) : sameB a b = true ↔ a = b := by
  obtain ⟨_, _, _, _⟩ := a
  obtain ⟨_, _, _, _⟩ := b
  simp [sameB]
set_option maxHeartbeats 2000000 in
theorem rSameB_any (a b : Blk) (A : Option Addr) (c : Nat) (D : Option Addr) (d : Nat) (A2 : Option Addr) (c2 : Nat) (D2 : Option Addr) (d2 : Nat) (w : World) (ha : BlkK w a A c D d) (hb : BlkK w b A2 c2 D2 d2) : Calls Try.prog 25 #[agB a A c D d, agB b A2 c2 D2 d2] w (AskB (sameB a b) w) := by
  obtain ⟨x1, x2, x3⟩ := box2B w #[.int .i64 a.h, .string (strB a.prev), .slice A a.reqs.length c, .slice D a.ress.length d] #[.int .i64 b.h, .string (strB b.prev), .slice A2 b.reqs.length c2, .slice D2 b.ress.length d2] 33 33
  have HQ := Lib.hid (fun W (h : Below w.heap.size w W) => rAll3_any a.reqs b.reqs A c A2 c2 W (ha.q.below h) (hb.q.below h))
  have HL := Lib.hid ha.r.2.2.2
  have HM := Lib.hid hb.r.2.2.2
  have hm1 : a.ress.length ≤ maxLen := Nat.le_trans ha.r.1 ha.r.2.1
  unfold maxLen at hm1
  have HB := Lib.hid x3
  have HX1 := Lib.hid x1
  have HX2 := Lib.hid x2
  clear ha hb x1 x2 x3
  obtain ⟨ah, ap, aq, ar⟩ := a
  obtain ⟨bh, bp, bq, br⟩ := b
  simp only at *
  have hsb : sameB ⟨ah, ap, aq, ar⟩ ⟨bh, bp, bq, br⟩ = decide (ah = bh ∧ ap = bp ∧ aq = bq ∧ ar = br) := rfl
  by_cases h1 : ah = bh
  case neg =>
    have e1 : (ah != bh) = true := by simpa using h1
    rw [hsb, decide_eq_false (fun h => h1 h.1)]
    clear h1 hsb
    go_enter Try.func25, Try.ntmps25
    go_wp2
    go_ret
    exact ⟨rfl, HB.out⟩
  subst h1
  by_cases h2 : ap = bp
  case neg =>
    have e2 := strB_ne h2
    rw [hsb, decide_eq_false (fun h => h2 h.2.1)]
    clear h2 hsb
    go_enter Try.func25, Try.ntmps25
    go_wp2
    go_ret
    exact ⟨rfl, HB.out⟩
  subst h2
  by_cases h3 : aq = bq
  case neg =>
    rw [hsb, decide_eq_false (fun h => h3 h.2.2.1)]
    rw [decide_eq_false h3] at HQ
    clear h3 hsb
    go_enter Try.func25, Try.ntmps25
    go_wp2_with (go_at_call 48; refine (HQ.out _ HB.out).mono ?_; rintro e w1 ⟨rfl, hb1⟩; have HB1 := Lib.hid (bel2M HB.out hb1))
    go_ret
    exact ⟨rfl, HB1.out⟩
  rw [decide_eq_true h3] at HQ
  by_cases h4 : ar.length = br.length
  case neg =>
    have e4 : ((ar.length : Int) != (br.length : Int)) = true := by simp; omega
    rw [hsb, decide_eq_false (fun h => h4 (by rw [h.2.2.2]))]
    clear h3 h4 hsb
    go_enter Try.func25, Try.ntmps25
    go_wp2_with (go_at_call 48; refine (HQ.out _ HB.out).mono ?_; rintro e w1 ⟨rfl, hb1⟩; have HB1 := Lib.hid (bel2M HB.out hb1); have y1 := heapB HX1.out hb1; have y2 := heapB HX2.out hb1; have g1 := rowCell y1 3 _ rfl; have g2 := rowCell y2 3 _ rfl; clear hb1 y1 y2)
    go_ret
    exact ⟨rfl, HB1.out⟩
  have e4 : ((ar.length : Int) != (br.length : Int)) = false := by simp; omega
  have HY := Lib.hid (fun (h : ar.take ar.length = br.take ar.length) => show sameB ⟨ah, ap, aq, ar⟩ ⟨ah, ap, bq, br⟩ = true by rw [hsb]; rw [List.take_length, h4, List.take_length] at h; simpa using ⟨h3, h⟩)
  have HN := Lib.hid (fun (k : Nat) (h1 : k < ar.length) (h2 : k < br.length) (h : ar[k] ≠ br[k]) => show sameB ⟨ah, ap, aq, ar⟩ ⟨ah, ap, bq, br⟩ = false by rw [hsb]; simp; intro _ e; subst e; exact h rfl)
  have HT := Lib.hid (fun (k : Nat) (h1 : k < ar.length) (h2 : k < br.length) (h : ar[k] = br[k]) (ht : ar.take k = br.take k) => show ar.take (k + 1) = br.take (k + 1) by rw [List.take_succ_eq_append_getElem h1, List.take_succ_eq_append_getElem h2, h, ht])
  have HNL := Lib.hid h4
  clear h3 h4 hsb
  generalize sameB ⟨ah, ap, aq, ar⟩ ⟨ah, ap, bq, br⟩ = res at *
  go_enter Try.func25, Try.ntmps25
  go_wp2_with (go_at_call 48; refine (HQ.out _ HB.out).mono ?_; rintro e w1 ⟨rfl, hb1⟩; have HB1 := Lib.hid (bel2M HB.out hb1); have HY1 := Lib.hid (heapB HX1.out hb1); have HY2 := Lib.hid (heapB HX2.out hb1); have g1 := rowCell HY1.out 3 _ rfl; have g2 := rowCell HY2.out 3 _ rfl; clear hb1)
  clear e4 g1 g2
  go_loopw [5] (fun i wr => ∃ k : Nat, k ≤ ar.length ∧ i = .int .i64 k ∧ ar.take k = br.take k ∧ Below w1.heap.size w1 wr) (fun i _ => ar.length - (intOf i).toNat)
  case atStart => exact ⟨0, Nat.zero_le _, rfl, rfl, Below.refl _ _⟩
  case round =>
    obtain ⟨k, hk, rfl, htk, hbel⟩ := hrel
    have HTK := Lib.hid htk
    have HBE := Lib.hid hbel
    have z1 := heapB HY1.out hbel
    have z2 := heapB HY2.out hbel
    have g1 := rowCell z1 3 _ rfl
    have g2 := rowCell z2 3 _ rfl
    clear htk hbel z1 z2
    by_cases hlt : k < ar.length
    · have hlt2 : k < br.length := by have := HNL.out; omega
      have hltI : (k : Int) < (ar.length : Int) := by omega
      have hltJ : (k : Int) < (br.length : Int) := by omega
      obtain ⟨ad, rfl, hbl, hq⟩ := HL.out k hlt
      obtain ⟨ae, rfl, hbe, hr⟩ := HM.out k hlt2
      have c1 := cellM (bel2M HB1.out HBE.out) (by rw [block_add]; exact hbl) hq.1
      have c2 := cellM (p := ⟨(ad.add (k * 2)).block, (ad.add (k * 2)).off + 1, none⟩) (bel2M HB1.out HBE.out) (by rw [block_add]; exact hbl) hq.2
      have c3 := cellM (bel2M HB1.out HBE.out) (by rw [block_add]; exact hbe) hr.1
      have c4 := cellM (p := ⟨(ae.add (k * 2)).block, (ae.add (k * 2)).off + 1, none⟩) (bel2M HB1.out HBE.out) (by rw [block_add]; exact hbe) hr.2
      have HT1 := Lib.hid (HT.out k hlt hlt2)
      have HN1 := Lib.hid (HN.out k hlt hlt2)
      clear hq hr
      generalize ar[k] = x at *
      generalize br[k] = y at *
      obtain ⟨x1, x2⟩ := x
      obtain ⟨y1, y2⟩ := y
      simp only at c1 c2 c3 c4
      have HS := Lib.hid (show (SRw ⟨w.heap.size, 3, none⟩ ⟨w.heap.size + 1, 3, none⟩ (ad.add (k * 2)) ⟨(ad.add (k * 2)).block, (ad.add (k * 2)).off + 1, none⟩ (ae.add (k * 2)) ⟨(ae.add (k * 2)).block, (ae.add (k * 2)).off + 1, none⟩ (.slice (some ad) ar.length d) (.slice (some ae) br.length d2) (.int .i64 x1) (.int .i64 x2) (.int .i64 y1) (.int .i64 y2)) wr from ⟨g1, g2, c1, c2, c3, c4⟩)
      have HDR := Lib.hid (show Below wr.heap.size wr wr.drew from (Below.refl _ _).drew)
      clear c1 c2 c3 c4
      by_cases hxy : (x1, x2) = (y1, y2)
      · have HXY := Lib.hid hxy
        injection hxy with e1 e2
        subst e1 e2
        go_upto_region 6 with fail
        go_region_held3 (SRw ⟨w.heap.size, 3, none⟩ ⟨w.heap.size + 1, 3, none⟩ (ad.add (k * 2)) ⟨(ad.add (k * 2)).block, (ad.add (k * 2)).off + 1, none⟩ (ae.add (k * 2)) ⟨(ae.add (k * 2)).block, (ae.add (k * 2)).off + 1, none⟩ (.slice (some ad) ar.length d) (.slice (some ae) br.length d2) (.int .i64 x1) (.int .i64 x2) (.int .i64 x1) (.int .i64 x2)) (first | exact HS.out.below HDR.out) (first | fail)
        go_wp2
        go_roundw
        case rel => exact ⟨k + 1, by omega, by go_num, HT1.out HXY.out HTK.out, HBE.out.drew⟩
        case measure => simp [intOf]; omega
      · have HF := Lib.hid (HN1.out hxy)
        by_cases h1 : x1 = y1
        · subst h1
          have e2 : (x2 == y2) = false := by simpa using hxy
          clear hxy
          go_upto_region 6 with fail
          go_region_held3 (SRw ⟨w.heap.size, 3, none⟩ ⟨w.heap.size + 1, 3, none⟩ (ad.add (k * 2)) ⟨(ad.add (k * 2)).block, (ad.add (k * 2)).off + 1, none⟩ (ae.add (k * 2)) ⟨(ae.add (k * 2)).block, (ae.add (k * 2)).off + 1, none⟩ (.slice (some ad) ar.length d) (.slice (some ae) br.length d2) (.int .i64 x1) (.int .i64 x2) (.int .i64 x1) (.int .i64 y2)) (first | exact HS.out.below HDR.out) (first | fail)
          go_wp2
          go_ret
          exact ⟨by rw [HF.out]; rfl, bel2M HB1.out HBE.out.drew⟩
        · have e1 : (x1 == y1) = false := by simpa using h1
          clear hxy h1
          go_upto_region 6 with fail
          go_region_held3 (SRw ⟨w.heap.size, 3, none⟩ ⟨w.heap.size + 1, 3, none⟩ (ad.add (k * 2)) ⟨(ad.add (k * 2)).block, (ad.add (k * 2)).off + 1, none⟩ (ae.add (k * 2)) ⟨(ae.add (k * 2)).block, (ae.add (k * 2)).off + 1, none⟩ (.slice (some ad) ar.length d) (.slice (some ae) br.length d2) (.int .i64 x1) (.int .i64 x2) (.int .i64 y1) (.int .i64 y2)) (first | exact HS.out.below HDR.out) (first | fail)
          go_wp2
          go_ret
          exact ⟨by rw [HF.out]; rfl, bel2M HB1.out HBE.out.drew⟩
    · obtain rfl : k = ar.length := by omega
      have hltI : ¬ ((ar.length : Nat) : Int) < (ar.length : Int) := by omega
      have HF := Lib.hid (HY.out HTK.out)
      go_wp2
      go_ret
      exact ⟨by rw [HF.out]; rfl, bel2M HB1.out HBE.out⟩
end Go.Proofs.Ytggbopgchlgidaa

namespace Go.Proofs.Ytggbopgchlgidaa
open Go.RowKit
set_option linter.unusedVariables false
set_option linter.unusedSimpArgs false
set_option maxRecDepth 20000

def Two11 (ca : Ldg → Value → Array Value) (ta : TypeId) (cb : Ldg → Value → Array Value) (tb : TypeId) (F : Nat → Prop) (w : World) (a b : Nat) (La Lb : Ldg) : Prop :=
  ∃ (Sa Sb : Nat → Prop) (va : Value) (qa : List KB) (vb : Value) (qb : List KB), LgR ca ta Sa w a La va qa ∧ LgR cb tb Sb w b Lb vb qb ∧ (∀ k, Sa k → k < w.heap.size ∧ ¬ F k ∧ ¬ Sb k) ∧ (∀ k, Sb k → k < w.heap.size ∧ ¬ F k) ∧ ∀ k, F k → k < w.heap.size
def Goes (ca : Ldg → Value → Array Value) (ta : TypeId) (x : Int) (L : Ldg) (g : Nat) (S : Nat → Prop) (w : World) (e : Ending) (w' : World) : Prop := ∃ v qs, e = .returned (.int .i64 x) ∧ LgR ca ta S w' g L v qs ∧ Off S w w'
abbrev Kpt (F : Nat → Prop) (w w' : World) : Prop := Off (fun k => ¬ F k) w w'
section
variable {ca cb : Ldg → Value → Array Value} {ta tb : TypeId} {F : Nat → Prop} {w w' : World} {a b : Nat} {La Lb : Ldg}
theorem Two11.swap (h : Two11 ca ta cb tb F w a b La Lb) : Two11 cb tb ca ta F w b a Lb La := by
  obtain ⟨Sa, Sb, va, qa, vb, qb, h1, h2, h3, h4, h5⟩ := h
  exact ⟨Sb, Sa, vb, qb, va, qa, h2, h1, fun k hk => ⟨(h4 k hk).1, (h4 k hk).2, fun hs => (h3 k hs).2.2 hk⟩, fun k hk => ⟨(h3 k hk).1, (h3 k hk).2.1⟩, h5⟩
theorem Two11.below (h : Two11 ca ta cb tb F w a b La Lb) (hb : Below w.heap.size w w') : Two11 ca ta cb tb F w' a b La Lb := by
  obtain ⟨Sa, Sb, va, qa, vb, qb, h1, h2, h3, h4, h5⟩ := h
  have hz := hb.size
  exact ⟨Sa, Sb, va, qa, vb, qb, h1.below hb, h2.below hb, fun k hk => ⟨by have := (h3 k hk).1; omega, (h3 k hk).2⟩, fun k hk => ⟨by have := (h4 k hk).1; omega, (h4 k hk).2⟩, fun k hk => by have := h5 k hk; omega⟩
theorem Two11.more (h : Two11 ca ta cb tb F w a b La Lb) (hb : Below w.heap.size w w') : Two11 ca ta cb tb (fun k => F k ∨ (w.heap.size ≤ k ∧ k < w'.heap.size)) w' a b La Lb := by
  obtain ⟨Sa, Sb, va, qa, vb, qb, h1, h2, h3, h4, h5⟩ := h
  have hz := hb.size
  refine ⟨Sa, Sb, va, qa, vb, qb, h1.below hb, h2.below hb, fun k hk => ⟨by have := (h3 k hk).1; omega, fun hf => ?_, (h3 k hk).2.2⟩, fun k hk => ⟨by have := (h4 k hk).1; omega, fun hf => ?_⟩, fun k hk => ?_⟩
  · rcases hf with hf | hf
    · exact (h3 k hk).2.1 hf
    · have := (h3 k hk).1; omega
  · rcases hf with hf | hf
    · exact (h4 k hk).2 hf
    · have := (h4 k hk).1; omega
  · rcases hk with hk | hk
    · have := h5 k hk; omega
    · exact hk.2
theorem Two11.less {G : Nat → Prop} (h : Two11 ca ta cb tb F w a b La Lb) (hG : ∀ k, G k → F k) : Two11 ca ta cb tb G w a b La Lb := by
  obtain ⟨Sa, Sb, va, qa, vb, qb, h1, h2, h3, h4, h5⟩ := h
  exact ⟨Sa, Sb, va, qa, vb, qb, h1, h2, fun k hk => ⟨(h3 k hk).1, fun hf => (h3 k hk).2.1 (hG k hf), (h3 k hk).2.2⟩, fun k hk => ⟨(h4 k hk).1, fun hf => (h4 k hk).2 (hG k hf)⟩, fun k hk => h5 k (hG k hk)⟩
theorem Two11.opA {P : Program} {f : Nat} {args : Array Value} {x : Int} {La' : Ldg} (h : Two11 ca ta cb tb F w a b La Lb)
    (op : ∀ v qs (S : Nat → Prop), LgR ca ta S w a La v qs → (∀ k, w.heap.size ≤ k → S k) → Calls P f args w (Goes ca ta x La' a S w)) :
    Calls P f args w (fun e w' => e = .returned (.int .i64 x) ∧ Two11 ca ta cb tb F w' a b La' Lb ∧ Kpt F w w') := by
  obtain ⟨Sa, Sb, va, qa, vb, qb, h1, h2, h3, h4, h5⟩ := h
  refine (op va qa (fun k => Sa k ∨ w.heap.size ≤ k) (h1.mono fun k _ hk => .inl hk) (fun k hk => .inr hk)).mono ?_
  rintro e w' ⟨v, qs, rfl, g1, g2⟩
  have hz := g2.size
  refine ⟨rfl, ⟨fun k => (Sa k ∨ w.heap.size ≤ k) ∧ k < w'.heap.size, Sb, v, qs, vb, qb, g1.mono fun k hl hk => ⟨hk, hl⟩, h2.keep hz fun k hk hs => ⟨g2.block k hk fun hS => ?_, hs⟩, fun k hk => ⟨hk.2, fun hf => ?_, fun hs => ?_⟩, fun k hk => ⟨by have := (h4 k hk).1; omega, (h4 k hk).2⟩, fun k hk => by have := h5 k hk; omega⟩, g2.os, g2.tape, g2.output, g2.size, fun k hk hn => g2.block k hk fun hS => ?_⟩
  · rcases hS with hS | hS
    · exact (h3 k hS).2.2 hs
    · omega
  · rcases hk.1 with hS | hS
    · exact (h3 k hS).2.1 hf
    · have := h5 k hf; omega
  · rcases hk.1 with hS | hS
    · exact (h3 k hS).2.2 hs
    · have := (h4 k hs).1; omega
  · rcases hS with hS | hS
    · exact hn (h3 k hS).2.1
    · omega
theorem Two11.opB {P : Program} {f : Nat} {args : Array Value} {x : Int} {Lb' : Ldg} (h : Two11 ca ta cb tb F w a b La Lb)
    (op : ∀ v qs (S : Nat → Prop), LgR cb tb S w b Lb v qs → (∀ k, w.heap.size ≤ k → S k) → Calls P f args w (Goes cb tb x Lb' b S w)) :
    Calls P f args w (fun e w' => e = .returned (.int .i64 x) ∧ Two11 ca ta cb tb F w' a b La Lb' ∧ Kpt F w w') :=
  (h.swap.opA op).mono fun _ _ ⟨h1, h2, h3⟩ => ⟨h1, h2.swap, h3⟩
theorem Two11.askA {P : Program} {f : Nat} {args : Array Value} {Q : Ending → World → Prop} (h : Two11 ca ta cb tb F w a b La Lb) (op : ∀ v qs (S : Nat → Prop), LgR ca ta S w a La v qs → Calls P f args w Q) : Calls P f args w Q := by
  obtain ⟨Sa, Sb, va, qa, vb, qb, h1, -⟩ := h
  exact op va qa Sa h1
theorem Two11.askB {P : Program} {f : Nat} {args : Array Value} {Q : Ending → World → Prop} (h : Two11 ca ta cb tb F w a b La Lb) (op : ∀ v qs (S : Nat → Prop), LgR cb tb S w b Lb v qs → Calls P f args w Q) : Calls P f args w Q := h.swap.askA op
theorem Two11.made {w1 : World} {va vb : Value} {qa qb : List KB} (h1 : LgR ca ta (fun k => w.heap.size ≤ k) w1 a La va qa) (hb : Below w1.heap.size w1 w') (h2 : LgR cb tb (fun k => w1.heap.size ≤ k) w' b Lb vb qb) (hz : w.heap.size ≤ w1.heap.size) : Two11 ca ta cb tb (fun k => k < w.heap.size) w' a b La Lb := by
  have hz2 := hb.size
  refine ⟨fun k => w.heap.size ≤ k ∧ k < w1.heap.size, fun k => w1.heap.size ≤ k ∧ k < w'.heap.size, va, qa, vb, qb, (h1.mono fun k hl hk => ⟨hk, hl⟩).below hb, h2.mono fun k hl hk => ⟨hk, hl⟩, fun k hk => ⟨?_, fun hf => ?_, fun hs => ?_⟩, fun k hk => ⟨hk.2, fun hf => ?_⟩, fun k hk => ?_⟩
  · have := hk.2; omega
  · have := hk.1; omega
  · have := hk.2; have := hs.1; omega
  · have h3 : k < w.heap.size := hf
    have := hk.1
    omega
  · have h3 : k < w.heap.size := hk
    omega
end
abbrev TwoPP : (Nat → Prop) → World → Nat → Nat → Ldg → Ldg → Prop := Two11 csLP 77 csLP 77
theorem Kpt.below {F : Nat → Prop} {w w' : World} {B : Nat} (h : Kpt F w w') (hB : B ≤ w.heap.size) (hF : ∀ k, k < B → F k) : Below B w w' := off_below h hB fun k hk => Nat.le_of_not_lt fun hl => hk (hF k hl)
def rightB (L : Ldg) (b : Blk) : Blk := ⟨topL L + 1, headL L, b.reqs, b.ress⟩

section
variable {ca cb : Ldg → Value → Array Value} {ta tb : TypeId} {F : Nat → Prop} {w w' : World} {a b : Nat} {La Lb : Ldg}
theorem Two11.other (h : Two11 ca ta cb tb F w a b La Lb) (ho : Off F w w') : Two11 ca ta cb tb F w' a b La Lb := by
  obtain ⟨Sa, Sb, va, qa, vb, qb, h1, h2, h3, h4, h5⟩ := h
  have hz := ho.size
  exact ⟨Sa, Sb, va, qa, vb, qb, h1.keep hz fun k hk hs => ⟨ho.block k hk (h3 k hs).2.1, hs⟩, h2.keep hz fun k hk hs => ⟨ho.block k hk (h4 k hs).2, hs⟩, fun k hk => ⟨by have := (h3 k hk).1; omega, (h3 k hk).2⟩, fun k hk => ⟨by have := (h4 k hk).1; omega, (h4 k hk).2⟩, fun k hk => by have := h5 k hk; omega⟩
end



structure Chn (L : Ldg) : Prop where
  b : L.base = 0
  d : L.dig = firstL
  l : ∀ n (hn : n < L.bl.length), L.bl[n].h = n + 1 ∧ L.bl[n].prev = atL L n
theorem chn_zero : Chn L0 := ⟨rfl, rfl, fun n hn => absurd hn (Nat.not_lt_zero _)⟩
theorem Chn.app {L : Ldg} (h : Chn L) (b : Blk) : Chn (appL L b) := by
  by_cases he : appE L b = 0
  · rw [appL_yes he]
    obtain ⟨-, h2, h3⟩ := appE_zero he
    refine ⟨h.b, h.d, fun n hn => ?_⟩
    have hn' : n ≤ L.bl.length := by simp at hn; omega
    rw [atL_append L b hn']
    by_cases hl : n < L.bl.length
    · simp only [List.getElem_append_left hl]
      exact h.l n hl
    · obtain rfl : n = L.bl.length := by omega
      have hb := h.b
      unfold topL at h2
      simp only [List.getElem_append_right (Nat.le_refl _), Nat.sub_self, List.getElem_cons_zero]
      refine ⟨by omega, h3⟩
  · rw [appL_no he]; exact h
theorem hdrL_inj {a b : Blk} (fa : FewQ a) (fb : FewQ b) (oa : OkB a) (ob : OkB b) (ca : checkB a = 0) (cb : checkB b = 0) (pa : a.prev.length ≤ 10000000) (pb : b.prev.length ≤ 10000000) (h : hdrL a = hdrL b) : a = b := by
  have sa := fa.sum.1
  have sb := fb.sum.1
  have ra := fa.root
  have rb := fb.root
  obtain ⟨h1, h2, h3, h4⟩ := digB_inj oa.h ob.h ⟨by omega, by omega⟩ ⟨by omega, by omega⟩ pa pb (by omega) (by omega) h
  have h5 : (leavesB b).length = (leavesB a).length := by omega
  have h6 := root_inj (leavesB a) fa.small (leavesB b) fb.small h5 h4
  obtain ⟨-, -, la, -⟩ := checkB_zero ca
  obtain ⟨-, -, lb, -⟩ := checkB_zero cb
  obtain ⟨h7, h8⟩ := leavesB_inj oa ob la lb h6
  obtain ⟨_, _, _, _⟩ := a
  obtain ⟨_, _, _, _⟩ := b
  simp only at h1 h2 h7 h8
  subst h1 h2 h7 h8
  rfl
theorem first_ne {b : Blk} (fb : FewQ b) (pb : b.prev.length ≤ 10000000) : firstL ≠ hdrL b := fun h => by
  have rb := fb.root
  unfold firstL hdrL digB at h
  have := (encT_inj (by simp) (by simp) (by simp) (by simp [i8B_length]; omega) h).1
  exact absurd this (by decide)
theorem chain_at {K : Nat} {M N : Ldg} (gm : GoodL K M) (gn : GoodL K N) (hK : K ≤ 10000000) (cm : Chn M) (cn : Chn N) : ∀ m n, m ≤ M.bl.length → n ≤ N.bl.length → atL M m = atL N n → m = n ∧ ∀ j (h1 : j < M.bl.length) (h2 : j < N.bl.length), j < m → M.bl[j] = N.bl[j]
  | 0, 0, _, _, _ => ⟨rfl, fun j _ _ h => absurd h (Nat.not_lt_zero _)⟩
  | 0, n + 1, _, hn, h => by
    obtain ⟨q1, q2, q3, q4, q5⟩ := gn.q _ (List.getElem_mem (show n < N.bl.length from hn))
    rw [atL_nil, cm.d, atL_succ hn] at h
    exact absurd h (first_ne q1 (by omega))
  | m + 1, 0, hm, _, h => by
    obtain ⟨q1, q2, q3, q4, q5⟩ := gm.q _ (List.getElem_mem (show m < M.bl.length from hm))
    rw [atL_nil, cn.d, atL_succ hm] at h
    exact absurd h.symm (first_ne q1 (by omega))
  | m + 1, n + 1, hm, hn, h => by
    obtain ⟨p1, p2, p3, p4, p5⟩ := gm.q _ (List.getElem_mem (show m < M.bl.length from hm))
    obtain ⟨q1, q2, q3, q4, q5⟩ := gn.q _ (List.getElem_mem (show n < N.bl.length from hn))
    rw [atL_succ hm, atL_succ hn] at h
    have he := hdrL_inj p1 q1 p2 q2 p3 q3 (by omega) (by omega) h
    obtain ⟨a1, a2⟩ := cm.l m hm
    obtain ⟨b1, b2⟩ := cn.l n hn
    rw [he] at a1 a2
    obtain ⟨hmn, ih⟩ := chain_at gm gn hK cm cn m n (by omega) (by omega) (a2.symm.trans b2)
    subst hmn
    refine ⟨rfl, fun j h1 h2 hj => ?_⟩
    by_cases hjm : j = m
    · subst hjm; exact he
    · exact ih j h1 h2 (by omega)
def alk (M N : Ldg) : Nat → Bool
  | 0 => topL M == topL N
  | j + 1 => alk M N j && sameB (blkL M ((j : Int) + 1)) (blkL N ((j : Int) + 1))
theorem blk_in {L : Ldg} (hb : L.base = 0) {j : Nat} (hj : j < L.bl.length) : blkE L ((j : Int) + 1) = 0 ∧ blkL L ((j : Int) + 1) = L.bl[j] := by
  have h0 : blkE L ((j : Int) + 1) = 0 := if_neg (by unfold topL; rw [hb]; omega)
  obtain ⟨k, hk, e1, e2⟩ := blkE_zero h0
  refine ⟨h0, ?_⟩
  rw [e2]
  have : k = j := by rw [hb] at e1; omega
  subst this
  rfl
theorem alk_iff {M N : Ldg} (bm : M.base = 0) (bn : N.base = 0) : ∀ j, j ≤ M.bl.length → j ≤ N.bl.length → (alk M N j = true ↔ topL M = topL N ∧ ∀ i (h1 : i < M.bl.length) (h2 : i < N.bl.length), i < j → M.bl[i] = N.bl[i])
  | 0, _, _ => by
    show (topL M == topL N) = true ↔ _
    rw [beq_iff_eq]
    exact ⟨fun h => ⟨h, fun i _ _ hi => absurd hi (Nat.not_lt_zero _)⟩, fun h => h.1⟩
  | j + 1, hm, hn => by
    show (alk M N j && sameB _ _) = true ↔ _
    rw [Bool.and_eq_true, alk_iff bm bn j (by omega) (by omega), sameB_iff, (blk_in bm hm).2, (blk_in bn hn).2]
    constructor
    · rintro ⟨⟨h1, h2⟩, h3⟩
      refine ⟨h1, fun i a b hi => ?_⟩
      by_cases hij : i = j
      · subst hij; exact h3
      · exact h2 i a b (by omega)
    · rintro ⟨h1, h2⟩
      exact ⟨⟨h1, fun i a b hi => h2 i a b (by omega)⟩, h2 j hm hn (by omega)⟩
theorem heads_iff {K : Nat} {M N : Ldg} (gm : GoodL K M) (gn : GoodL K N) (hK : K ≤ 10000000) (cm : Chn M) (cn : Chn N) {j : Nat} (h1 : j ≤ M.bl.length) (h2 : j ≤ N.bl.length) (h3 : M.bl.length ≤ j ∨ N.bl.length ≤ j) : headL M = headL N ↔ alk M N j = true := by
  rw [alk_iff cm.b cn.b j h1 h2]
  constructor
  · intro h
    obtain ⟨e1, e2⟩ := chain_at gm gn hK cm cn _ _ (Nat.le_refl _) (Nat.le_refl _) h
    refine ⟨by unfold topL; rw [cm.b, cn.b, e1], fun i a b hi => e2 i a b a⟩
  · rintro ⟨e1, e2⟩
    have hl : M.bl.length = N.bl.length := by unfold topL at e1; rw [cm.b, cn.b] at e1; omega
    have hb : M.bl = N.bl := List.ext_getElem hl fun i a b => e2 i a b (by omega)
    unfold headL
    obtain ⟨b1, d1, l1⟩ := M
    obtain ⟨b2, d2, l2⟩ := N
    have hd : d1 = d2 := cm.d.trans cn.d.symm
    simp only at hb
    subst hb hd
    cases l1 with
    | nil => rfl
    | cons x t => rfl

set_option maxHeartbeats 16000000 in
theorem LedgerChain_any (l1 : List Blk) (A : Option Addr) (c : Nat) (l2 : List Blk) (A2 : Option Addr) (c2 : Nat) (w : World) (h : BlksK w A c l1) (ok : ∀ a ∈ l1, OkB a) (h2 : BlksK w A2 c2 l2) (ok2 : ∀ a ∈ l2, OkB a) : Calls Try.prog 6 #[.slice A l1.length c, .slice A2 l2.length c2] w (Yes w) := by
  have HQ := Lib.hid h.2.2.2
  have HQ2 := Lib.hid h2.2.2.2
  have hmx1 : l1.length ≤ maxLen := Nat.le_trans h.1 h.2.1
  have hmx2 : l2.length ≤ maxLen := Nat.le_trans h2.1 h2.2.1
  unfold maxLen at hmx1 hmx2
  have HOK := Lib.hid ok
  have HOK2 := Lib.hid ok2
  have HW := Lib.hid (fun W => awake11_any W)
  have HNA := Lib.hid (fun W => lNew_any W)
  clear h ok h2 ok2
  by_cases hl1 : 20 < l1.length
  · have hI : (20 : Int) < (l1.length : Int) := by omega
    go_enter Try.func6, Try.ntmps6
    go_wp2
    go_ret
    exact ⟨rfl, Below.refl _ _⟩
  have hI1 : ¬ (20 : Int) < (l1.length : Int) := by omega
  by_cases hl2 : 20 < l2.length
  · have hI : (20 : Int) < (l2.length : Int) := by omega
    go_enter Try.func6, Try.ntmps6
    go_wp2
    go_ret
    exact ⟨rfl, Below.refl _ _⟩
  have hI2 : ¬ (20 : Int) < (l2.length : Int) := by omega
  go_enter Try.func6, Try.ntmps6
  go_wp2_with (first
    | (go_at_call 10; refine (HNA.out w).mono ?_; rintro e w2 ⟨a, rfl, hg2, hb2⟩; have HG2 := Lib.hid hg2; have HB2 := Lib.hid hb2; have HN2 := Lib.hid (HNA.out w2); clear hg2 hb2 HNA)
    | (go_at_call 10; refine HN2.out.mono ?_; rintro e w3 ⟨b, rfl, hg3, hb3⟩; have HG3 := Lib.hid hg3; have HB3 := Lib.hid hb3; clear hg3 hb3 HN2))
  obtain ⟨F, hF⟩ : ∃ F : Nat → Prop, F = fun k => k < w.heap.size := ⟨_, rfl⟩
  have HFF := Lib.hid (show ∀ k, k < w.heap.size → F k from fun k hk => by rw [hF]; exact hk)
  have HSTART := Lib.hid (show TwoPP F w3 a b L0 L0 from (Two11.made HG2.out HB3.out HG3.out HB2.out.size).less fun k hk => by rw [hF] at hk; exact hk)
  have HBB := Lib.hid (show Below w.heap.size w w3 from bel2M HB2.out HB3.out)
  clear hF HG2 HG3 HB2 HB3
  go_loopw [7] (fun i wr => ∃ (k : Nat) (M : Ldg), k ≤ l1.length ∧ i = .int .i64 k ∧ TwoPP F wr a b M L0 ∧ GoodL (5000 + 21000 * k) M ∧ Chn M ∧ Below w.heap.size w wr) (fun i _ => l1.length - (intOf i).toNat)
  case atStart => exact ⟨0, L0, Nat.zero_le _, rfl, HSTART.out, L0_good, chn_zero, HBB.out⟩
  case round =>
    obtain ⟨k, M, hk, rfl, htw, hgm, hch, hbel⟩ := hrel
    by_cases hlt : k < l1.length
    · have hltI : (k : Int) < (l1.length : Int) := by omega
      obtain ⟨ad, rfl, hbl, A1, c1, D1, d1, z0, z1, z2, z3, hbk⟩ := HQ.out k hlt
      have hl4 : (ad.add (k * 4)).block < w.heap.size := by rw [block_add]; exact hbl
      have hok := HOK.out _ (List.getElem_mem hlt)
      have HBEL := Lib.hid hbel
      replace z0 := cellM hbel hl4 z0
      replace z1 := cellM (p := ⟨_, _, none⟩) hbel hl4 z1
      replace z2 := cellM (p := ⟨_, _, none⟩) hbel hl4 z2
      replace z3 := cellM (p := ⟨_, _, none⟩) hbel hl4 z3
      generalize l1[k] = x at *
      have hbx := alloc1B wr (.cells #[.int .i64 x.h, .string (strB x.prev), .slice A1 x.reqs.length c1, .slice D1 x.ress.length d1] 33)
      have hxx := heap_alloc_new wr (.cells #[.int .i64 x.h, .string (strB x.prev), .slice A1 x.reqs.length c1, .slice D1 x.ress.length d1] 33)
      have htt := htw.more hbx
      have hzz : (wr.alloc (.cells #[.int .i64 x.h, .string (strB x.prev), .slice A1 x.reqs.length c1, .slice D1 x.ress.length d1] 33)).heap.size = wr.heap.size + 1 := World.size_alloc _ _
      have HFE := Lib.hid (few10_any x A1 c1 D1 d1 (wr.alloc (.cells #[.int .i64 x.h, .string (strB x.prev), .slice A1 x.reqs.length c1, .slice D1 x.ress.length d1] 33)) ((hbk.below hbel).below (Below.trans (Below.refl _ _) (hbx.mono (Nat.le_refl _)))))
      generalize hw1 : wr.alloc (.cells #[.int .i64 x.h, .string (strB x.prev), .slice A1 x.reqs.length c1, .slice D1 x.ress.length d1] 33) = w1 at *
      have HW1 := Lib.hid hw1
      have HBX := Lib.hid hbx
      have HXX := Lib.hid hxx
      obtain ⟨G, hG⟩ : ∃ G : Nat → Prop, G = fun k => F k ∨ wr.heap.size ≤ k ∧ k < w1.heap.size := ⟨_, rfl⟩
      rw [← hG] at htt
      have HGF := Lib.hid (show ∀ k, F k → G k from fun k hk => by rw [hG]; exact .inl hk)
      have HGN := Lib.hid (show G wr.heap.size by rw [hG]; exact .inr ⟨Nat.le_refl _, by omega⟩)
      have HTT := Lib.hid htt
      have HLF := Lib.hid (show ∀ k, k < w.heap.size → G k from fun k hk => HGF.out k (HFF.out k hk))
      have HBK := Lib.hid (fun W (h : Below w.heap.size w W) => hbk.below h)
      obtain ⟨r0, r1, r2, r3, r4⟩ := rows4 HXX.out
      rcases hfx : fewBB x with _ | _
      · rw [hfx] at HFE
        clear hbx hxx htt hzz hw1 hG htw hgm hch hbel hok hbk hfx
        go_upto_region 8 with fail
        rw [HW1.out]
        go_wp2_with (go_at_call 23; refine HFE.out.mono ?_; rintro e w2 ⟨rfl, hb2⟩; have HB2 := Lib.hid hb2; clear hb2)
        go_ret
        exact ⟨rfl, HBEL.out.trans ((bel2M HBX.out HB2.out).mono HBEL.out.size)⟩
      · rw [hfx] at HFE
        have hfb := fewBB_iff.1 hfx
        have hfq : FewQ (rightB M x) := ⟨hfb.q, hfb.r, hfb.d⟩
        have hbnd := hgm.b
        have hoq : OkB (rightB M x) := ⟨by show in64B (topL M + 1); unfold topL at hbnd ⊢; unfold in64B; omega, hok.q, hok.r⟩
        have hKb : 5000 + 21000 * k ≤ 10000000 := by omega
        have hgm1 := hgm.app hfq hoq
        have HAP := Lib.hid (fun (G : Nat → Prop) W (h : TwoPP G W a b M L0) (hbl : BlkK W (rightB M x) A1 c1 D1 d1) => h.opA (fun v qs S hl hS => lAppend_any hl hgm hKb (rightB M x) A1 c1 D1 d1 hbl hfq hS))
        have HHT := Lib.hid (fun (G : Nat → Prop) W (h : TwoPP G W a b M L0) => h.askA (fun v qs S hl => lHeight_any hl hgm))
        have HHD := Lib.hid (fun (G : Nat → Prop) W (h : TwoPP G W a b M L0) => h.askA (fun v qs S hl => lHead_any hl hgm hKb))
        have hch1 := hch.app (rightB M x)
        have HBR := Lib.hid (fun W (h : BlkK W x A1 c1 D1 d1) => show BlkK W (rightB M x) A1 c1 D1 d1 from ⟨h.q, h.r⟩)
        have hsum : IntKind.i64.wrap (topL M + 1) = topL M + 1 := by rw [IntKind.wrap_i64]; unfold topL at hbnd ⊢; omega
        rw [show agB (rightB M x) A1 c1 D1 d1 = .agg #[.int .i64 (topL M + 1), .string (strB (headL M)), .slice A1 x.reqs.length c1, .slice D1 x.ress.length d1] from rfl] at HAP
        generalize rightB M x = rb at *
        have HG1 := Lib.hid (show GoodL (5000 + 21000 * (k + 1)) (appL M rb) from by rw [Nat.mul_add, Nat.mul_one, ← Nat.add_assoc]; exact hgm1)
        have HC1 := Lib.hid hch1
        clear hbx hxx htt hzz hw1 hG htw hgm hch hbel hok hbk hfx hfb hfq hoq hgm1 hch1 hbnd
        generalize appL M rb = M' at *
        generalize appE M rb = ae at *
        generalize topL M = tm at *
        generalize headL M = hm at *
        go_upto_region 8 with fail
        rw [HW1.out]
        go_upto_region 11 with (first
          | (go_at_call 23; refine HFE.out.mono ?_; rintro e w9 ⟨rfl, hb9⟩; have HB9 := Lib.hid hb9; have HT9 := Lib.hid (HTT.out.below hb9); clear hb9 r0 r1 r2 r3 r4)
          | (go_at_call 18; refine (HHT.out G _ HT9.out).mono ?_; rintro e w2 ⟨rfl, hb2⟩; have HB2 := Lib.hid (bel2M HB9.out hb2); have HT2 := Lib.hid (HT9.out.below hb2); have HX2 := Lib.hid (heapB HXX.out HB2.out); clear hb2; obtain ⟨s0, s1, s2, s3, s4⟩ := rows4 HX2.out))
        have hx3 := set_cells (i := 0) (u := .int .i64 (tm + 1)) HX2.out
        have ho3 : Off G w2 (w2.setCell ⟨wr.heap.size, 0, none⟩ (.int .i64 (tm + 1))) := off_set HGN.out
        have ht3 := HT2.out.other ho3
        have hk3 : Below wr.heap.size wr (w2.setCell ⟨wr.heap.size, 0, none⟩ (.int .i64 (tm + 1))) := ((bel2M HBX.out HB2.out)).setCell (p := ⟨wr.heap.size, 0, none⟩) (Nat.le_refl _) _
        generalize w2.setCell ⟨wr.heap.size, 0, none⟩ (.int .i64 (tm + 1)) = w3 at *
        have HX3 := Lib.hid (show w3.heap[wr.heap.size]? = some (.cells #[.int .i64 (tm + 1), .string (strB x.prev), .slice A1 x.reqs.length c1, .slice D1 x.ress.length d1] 33 (0, 0)) from hx3)
        have HT3 := Lib.hid ht3
        have HK3 := Lib.hid hk3
        clear hx3 ho3 ht3 hk3 s0 s1 s2 s3 s4 HT2
        go_upto_region 12 with (go_at_call 19; refine (HHD.out G _ HT3.out).mono ?_; rintro e w4 ⟨rfl, hb4⟩; have HB4 := Lib.hid hb4; have HT4 := Lib.hid (HT3.out.below hb4); have HX4 := Lib.hid (heapB HX3.out hb4); clear hb4; obtain ⟨s0, s1, s2, s3, s4⟩ := rows4 HX4.out)
        have hx5 := set_cells (i := 1) (u := .string (strB hm)) HX4.out
        have ho5 : Off G w4 (w4.setCell ⟨wr.heap.size, 1, none⟩ (.string (strB hm))) := off_set HGN.out
        have ht5 := HT4.out.other ho5
        have hk5 : Below wr.heap.size wr (w4.setCell ⟨wr.heap.size, 1, none⟩ (.string (strB hm))) := ((HK3.out.trans (HB4.out.mono HK3.out.size))).setCell (p := ⟨wr.heap.size, 1, none⟩) (Nat.le_refl _) _
        generalize w4.setCell ⟨wr.heap.size, 1, none⟩ (.string (strB hm)) = w5 at *
        have HX5 := Lib.hid (show w5.heap[wr.heap.size]? = some (.cells #[.int .i64 (tm + 1), .string (strB hm), .slice A1 x.reqs.length c1, .slice D1 x.ress.length d1] 33 (0, 0)) from hx5)
        have HT5 := Lib.hid ht5
        have HEK := Lib.hid (show Below w.heap.size w w5 from HBEL.out.trans (hk5.mono HBEL.out.size))
        clear hx5 ho5 ht5 hk5 s0 s1 s2 s3 s4 HT4
        obtain ⟨s0, s1, s2, s3, s4⟩ := rows4 HX5.out
        go_wp2_with (go_at_call 21; refine (HAP.out G _ HT5.out (HBR.out _ (HBK.out _ HEK.out))).mono ?_; rintro e w6 ⟨rfl, ht6, hk6⟩; have HT6 := Lib.hid ht6; have HB6 := Lib.hid (HEK.out.trans (Kpt.below hk6 HEK.out.size HLF.out)); clear ht6 hk6)
        go_roundw
        case rel => exact ⟨k + 1, M', by omega, by go_num, HT6.out.less HGF.out, HG1.out, HC1.out, HB6.out⟩
        case measure => simp [intOf]; omega
    · obtain rfl : k = l1.length := by omega
      have hltI : ¬ (l1.length : Int) < (l1.length : Int) := by omega
      have hgm0 : GoodL 425000 M := hgm.mono (by omega)
      clear HSTART HBB
      have HSTART := Lib.hid htw
      have HBB := Lib.hid hbel
      have HGM := Lib.hid hgm0
      have HCM := Lib.hid hch
      clear htw hgm hch hbel hgm0
      go_wp2
      go_loopw [9] (fun i wr => ∃ (k : Nat) (N : Ldg), k ≤ l2.length ∧ i = .int .i64 k ∧ TwoPP F wr a b M N ∧ GoodL (5000 + 21000 * k) N ∧ Chn N ∧ Below w.heap.size w wr) (fun i _ => l2.length - (intOf i).toNat)
      case atStart => exact ⟨0, L0, Nat.zero_le _, rfl, HSTART.out, L0_good, chn_zero, HBB.out⟩
      case round =>
        obtain ⟨k, N, hk, rfl, htw, hgm, hch, hbel⟩ := hrel
        by_cases hlt : k < l2.length
        · have hltI : (k : Int) < (l2.length : Int) := by omega
          obtain ⟨ad, rfl, hbl, A1, c1, D1, d1, z0, z1, z2, z3, hbk⟩ := HQ2.out k hlt
          have hl4 : (ad.add (k * 4)).block < w.heap.size := by rw [block_add]; exact hbl
          have hok := HOK2.out _ (List.getElem_mem hlt)
          have HBEL := Lib.hid hbel
          replace z0 := cellM hbel hl4 z0
          replace z1 := cellM (p := ⟨_, _, none⟩) hbel hl4 z1
          replace z2 := cellM (p := ⟨_, _, none⟩) hbel hl4 z2
          replace z3 := cellM (p := ⟨_, _, none⟩) hbel hl4 z3
          generalize l2[k] = x at *
          have hbx := alloc1B wr (.cells #[.int .i64 x.h, .string (strB x.prev), .slice A1 x.reqs.length c1, .slice D1 x.ress.length d1] 33)
          have hxx := heap_alloc_new wr (.cells #[.int .i64 x.h, .string (strB x.prev), .slice A1 x.reqs.length c1, .slice D1 x.ress.length d1] 33)
          have htt := htw.more hbx
          have hzz : (wr.alloc (.cells #[.int .i64 x.h, .string (strB x.prev), .slice A1 x.reqs.length c1, .slice D1 x.ress.length d1] 33)).heap.size = wr.heap.size + 1 := World.size_alloc _ _
          have HFE := Lib.hid (few10_any x A1 c1 D1 d1 (wr.alloc (.cells #[.int .i64 x.h, .string (strB x.prev), .slice A1 x.reqs.length c1, .slice D1 x.ress.length d1] 33)) ((hbk.below hbel).below (Below.trans (Below.refl _ _) (hbx.mono (Nat.le_refl _)))))
          generalize hw1 : wr.alloc (.cells #[.int .i64 x.h, .string (strB x.prev), .slice A1 x.reqs.length c1, .slice D1 x.ress.length d1] 33) = w1 at *
          have HW1 := Lib.hid hw1
          have HBX := Lib.hid hbx
          have HXX := Lib.hid hxx
          obtain ⟨G, hG⟩ : ∃ G : Nat → Prop, G = fun k => F k ∨ wr.heap.size ≤ k ∧ k < w1.heap.size := ⟨_, rfl⟩
          rw [← hG] at htt
          have HGF := Lib.hid (show ∀ k, F k → G k from fun k hk => by rw [hG]; exact .inl hk)
          have HGN := Lib.hid (show G wr.heap.size by rw [hG]; exact .inr ⟨Nat.le_refl _, by omega⟩)
          have HTT := Lib.hid htt
          have HLF := Lib.hid (show ∀ k, k < w.heap.size → G k from fun k hk => HGF.out k (HFF.out k hk))
          have HBK := Lib.hid (fun W (h : Below w.heap.size w W) => hbk.below h)
          obtain ⟨r0, r1, r2, r3, r4⟩ := rows4 HXX.out
          rcases hfx : fewBB x with _ | _
          · rw [hfx] at HFE
            clear hbx hxx htt hzz hw1 hG htw hgm hch hbel hok hbk hfx
            go_upto_region 17 with fail
            rw [HW1.out]
            go_wp2_with (go_at_call 23; refine HFE.out.mono ?_; rintro e w2 ⟨rfl, hb2⟩; have HB2 := Lib.hid hb2; clear hb2)
            go_ret
            exact ⟨rfl, HBEL.out.trans ((bel2M HBX.out HB2.out).mono HBEL.out.size)⟩
          · rw [hfx] at HFE
            have hfb := fewBB_iff.1 hfx
            have hfq : FewQ (rightB N x) := ⟨hfb.q, hfb.r, hfb.d⟩
            have hbnd := hgm.b
            have hoq : OkB (rightB N x) := ⟨by show in64B (topL N + 1); unfold topL at hbnd ⊢; unfold in64B; omega, hok.q, hok.r⟩
            have hKb : 5000 + 21000 * k ≤ 10000000 := by omega
            have hgm1 := hgm.app hfq hoq
            have HAP := Lib.hid (fun (G : Nat → Prop) W (h : TwoPP G W a b M N) (hbl : BlkK W (rightB N x) A1 c1 D1 d1) => h.opB (fun v qs S hl hS => lAppend_any hl hgm hKb (rightB N x) A1 c1 D1 d1 hbl hfq hS))
            have HHT := Lib.hid (fun (G : Nat → Prop) W (h : TwoPP G W a b M N) => h.askB (fun v qs S hl => lHeight_any hl hgm))
            have HHD := Lib.hid (fun (G : Nat → Prop) W (h : TwoPP G W a b M N) => h.askB (fun v qs S hl => lHead_any hl hgm hKb))
            have hch1 := hch.app (rightB N x)
            have HBR := Lib.hid (fun W (h : BlkK W x A1 c1 D1 d1) => show BlkK W (rightB N x) A1 c1 D1 d1 from ⟨h.q, h.r⟩)
            have hsum : IntKind.i64.wrap (topL N + 1) = topL N + 1 := by rw [IntKind.wrap_i64]; unfold topL at hbnd ⊢; omega
            rw [show agB (rightB N x) A1 c1 D1 d1 = .agg #[.int .i64 (topL N + 1), .string (strB (headL N)), .slice A1 x.reqs.length c1, .slice D1 x.ress.length d1] from rfl] at HAP
            generalize rightB N x = rb at *
            have HG1 := Lib.hid (show GoodL (5000 + 21000 * (k + 1)) (appL N rb) from by rw [Nat.mul_add, Nat.mul_one, ← Nat.add_assoc]; exact hgm1)
            have HC1 := Lib.hid hch1
            clear hbx hxx htt hzz hw1 hG htw hgm hch hbel hok hbk hfx hfb hfq hoq hgm1 hch1 hbnd
            generalize appL N rb = N' at *
            generalize appE N rb = ae at *
            generalize topL N = tm at *
            generalize headL N = hm at *
            go_upto_region 17 with fail
            rw [HW1.out]
            go_upto_region 20 with (first
              | (go_at_call 23; refine HFE.out.mono ?_; rintro e w9 ⟨rfl, hb9⟩; have HB9 := Lib.hid hb9; have HT9 := Lib.hid (HTT.out.below hb9); clear hb9 r0 r1 r2 r3 r4)
              | (go_at_call 18; refine (HHT.out G _ HT9.out).mono ?_; rintro e w2 ⟨rfl, hb2⟩; have HB2 := Lib.hid (bel2M HB9.out hb2); have HT2 := Lib.hid (HT9.out.below hb2); have HX2 := Lib.hid (heapB HXX.out HB2.out); clear hb2; obtain ⟨s0, s1, s2, s3, s4⟩ := rows4 HX2.out))
            have hx3 := set_cells (i := 0) (u := .int .i64 (tm + 1)) HX2.out
            have ho3 : Off G w2 (w2.setCell ⟨wr.heap.size, 0, none⟩ (.int .i64 (tm + 1))) := off_set HGN.out
            have ht3 := HT2.out.other ho3
            have hk3 : Below wr.heap.size wr (w2.setCell ⟨wr.heap.size, 0, none⟩ (.int .i64 (tm + 1))) := ((bel2M HBX.out HB2.out)).setCell (p := ⟨wr.heap.size, 0, none⟩) (Nat.le_refl _) _
            generalize w2.setCell ⟨wr.heap.size, 0, none⟩ (.int .i64 (tm + 1)) = w3 at *
            have HX3 := Lib.hid (show w3.heap[wr.heap.size]? = some (.cells #[.int .i64 (tm + 1), .string (strB x.prev), .slice A1 x.reqs.length c1, .slice D1 x.ress.length d1] 33 (0, 0)) from hx3)
            have HT3 := Lib.hid ht3
            have HK3 := Lib.hid hk3
            clear hx3 ho3 ht3 hk3 s0 s1 s2 s3 s4 HT2
            go_upto_region 21 with (go_at_call 19; refine (HHD.out G _ HT3.out).mono ?_; rintro e w4 ⟨rfl, hb4⟩; have HB4 := Lib.hid hb4; have HT4 := Lib.hid (HT3.out.below hb4); have HX4 := Lib.hid (heapB HX3.out hb4); clear hb4; obtain ⟨s0, s1, s2, s3, s4⟩ := rows4 HX4.out)
            have hx5 := set_cells (i := 1) (u := .string (strB hm)) HX4.out
            have ho5 : Off G w4 (w4.setCell ⟨wr.heap.size, 1, none⟩ (.string (strB hm))) := off_set HGN.out
            have ht5 := HT4.out.other ho5
            have hk5 : Below wr.heap.size wr (w4.setCell ⟨wr.heap.size, 1, none⟩ (.string (strB hm))) := ((HK3.out.trans (HB4.out.mono HK3.out.size))).setCell (p := ⟨wr.heap.size, 1, none⟩) (Nat.le_refl _) _
            generalize w4.setCell ⟨wr.heap.size, 1, none⟩ (.string (strB hm)) = w5 at *
            have HX5 := Lib.hid (show w5.heap[wr.heap.size]? = some (.cells #[.int .i64 (tm + 1), .string (strB hm), .slice A1 x.reqs.length c1, .slice D1 x.ress.length d1] 33 (0, 0)) from hx5)
            have HT5 := Lib.hid ht5
            have HEK := Lib.hid (show Below w.heap.size w w5 from HBEL.out.trans (hk5.mono HBEL.out.size))
            clear hx5 ho5 ht5 hk5 s0 s1 s2 s3 s4 HT4
            obtain ⟨s0, s1, s2, s3, s4⟩ := rows4 HX5.out
            go_wp2_with (go_at_call 21; refine (HAP.out G _ HT5.out (HBR.out _ (HBK.out _ HEK.out))).mono ?_; rintro e w6 ⟨rfl, ht6, hk6⟩; have HT6 := Lib.hid ht6; have HB6 := Lib.hid (HEK.out.trans (Kpt.below hk6 HEK.out.size HLF.out)); clear ht6 hk6)
            go_roundw
            case rel => exact ⟨k + 1, N', by omega, by go_num, HT6.out.less HGF.out, HG1.out, HC1.out, HB6.out⟩
            case measure => simp [intOf]; omega
        · obtain rfl : k = l2.length := by omega
          have hltI : ¬ (l2.length : Int) < (l2.length : Int) := by omega
          have hgn0 : GoodL 425000 N := hgm.mono (by omega)
          have HHM := Lib.hid (fun W (h : TwoPP F W a b M N) => h.askA (fun v qs S hl => lHeight_any hl HGM.out))
          have HHN := Lib.hid (fun W (h : TwoPP F W a b M N) => h.askB (fun v qs S hl => lHeight_any hl hgn0))
          have HDM := Lib.hid (fun W (h : TwoPP F W a b M N) => h.askA (fun v qs S hl => lHead_any hl HGM.out (by omega)))
          have HDN := Lib.hid (fun W (h : TwoPP F W a b M N) => h.askB (fun v qs S hl => lHead_any hl hgn0 (by omega)))
          have HKM := Lib.hid (fun y W (h : TwoPP F W a b M N) => h.askA (fun v qs S hl => lBlock_any hl HGM.out y))
          have HKN := Lib.hid (fun y W (h : TwoPP F W a b M N) => h.askB (fun v qs S hl => lBlock_any hl hgn0 y))
          have hbM := HCM.out.b
          have hbN := hch.b
          have htM : topL M = (M.bl.length : Int) := by unfold topL; rw [hbM]; omega
          have htN : topL N = (N.bl.length : Int) := by unfold topL; rw [hbN]; omega
          have HHI := Lib.hid (fun j (h1 : j ≤ M.bl.length) (h2 : j ≤ N.bl.length) (h3 : M.bl.length ≤ j ∨ N.bl.length ≤ j) => heads_iff HGM.out hgn0 (by omega) HCM.out hch h1 h2 h3)
          have HBM := Lib.hid (fun j (hj : j < M.bl.length) => (blk_in hbM hj).1)
          have HBN := Lib.hid (fun j (hj : j < N.bl.length) => (blk_in hbN hj).1)
          have hmM := HGM.out.n
          have hmN := hgn0.n
          have hAL0 : alk M N 0 = (topL M == topL N) := rfl
          have HALS := Lib.hid (show ∀ j, alk M N (j + 1) = (alk M N j && sameB (blkL M ((j : Int) + 1)) (blkL N ((j : Int) + 1))) from fun j => rfl)
          have HTW := Lib.hid htw
          have HBL := Lib.hid hbel
          clear htw hgm hch hbel hgn0 HSTART HBB HCM HGM
          rw [htM, htN] at hAL0
          rw [htM] at HHM
          rw [htN] at HHN
          generalize hlm : M.bl.length = lm at *
          generalize hln : N.bl.length = ln at *
          clear hlm hln hbM hbN htM htN
          have HAL0 := Lib.hid hAL0
          clear hAL0
          go_upto_region 23 with (first
            | (go_at_call 18; refine (HHM.out _ HTW.out).mono ?_; rintro e w2 ⟨rfl, hb2⟩; have HT2 := Lib.hid (HTW.out.below hb2); have HB2 := Lib.hid (HBL.out.trans (hb2.mono HBL.out.size)); clear hb2 HTW)
            | (go_at_call 18; refine (HHN.out _ HT2.out).mono ?_; rintro e w3 ⟨rfl, hb3⟩; have HT3 := Lib.hid (HT2.out.below hb3); have HB3 := Lib.hid (HB2.out.trans (hb3.mono HB2.out.size)); clear hb3 HT2))
          rw [← HAL0.out]
          go_wp2
          go_loopw [11, 12] (fun al i wr => ∃ j : Nat, j ≤ lm ∧ j ≤ ln ∧ al = .bool (alk M N j) ∧ i = .int .i64 ((j : Int) + 1) ∧ TwoPP F wr a b M N ∧ Below w.heap.size w wr) (fun _ i _ => lm + 1 - (intOf i).toNat)
          case atStart => exact ⟨0, Nat.zero_le _, Nat.zero_le _, rfl, rfl, HT3.out, HB3.out⟩
          case round =>
            obtain ⟨j, hj1, hj2, rfl, rfl, htw, hbel⟩ := hrel
            clear HT3 HB3 HB2
            have HTW := Lib.hid htw
            have HBEL := Lib.hid hbel
            have hfn := HHI.out j hj1 hj2
            have HFN := Lib.hid hfn
            clear htw hbel hfn
            by_cases hA : j < lm
            case neg =>
              have hAI : ¬ ((j : Int) + 1 ≤ (lm : Int)) := by omega
              have hfin := HFN.out (.inl (by omega))
              rcases hal : alk M N j with _ | _
              · have hne : headL M ≠ headL N := fun e => by rw [hfin.1 e] at hal; cases hal
                have hst := strB_ne hne
                clear hne hfin hal HFN
                generalize headL M = h1 at *
                generalize headL N = h2 at *
                go_wp2_with (first
                  | (go_at_call 18; refine (HHM.out _ HTW.out).mono ?_; rintro e w2 ⟨rfl, hb2⟩; have HT2 := Lib.hid (HTW.out.below hb2); have HB2 := Lib.hid (HBEL.out.trans (hb2.mono HBEL.out.size)); clear hb2 HTW)
                  | (go_at_call 19; refine (HDM.out _ HT2.out).mono ?_; rintro e w4 ⟨rfl, hb4⟩; have HT4 := Lib.hid (HT2.out.below hb4); have HB4 := Lib.hid (HB2.out.trans (hb4.mono HB2.out.size)); clear hb4 HT2)
                  | (go_at_call 19; refine (HDN.out _ HT4.out).mono ?_; rintro e w5 ⟨rfl, hb5⟩; have HB5 := Lib.hid (HB4.out.trans (hb5.mono HB4.out.size)); clear hb5 HT4)
                  | (go_at_call 14; refine (HW.out _).mono ?_; rintro e wz ⟨rfl, hbz⟩; have HBZ := Lib.hid (HB5.out.trans (hbz.mono HB5.out.size)); clear hbz))
                go_ret
                exact ⟨rfl, HBZ.out⟩
              · have hee := hfin.2 hal
                rw [← hee] at HDN
                clear hfin hal HFN hee
                generalize headL M = h1 at *
                go_wp2_with (first
                  | (go_at_call 18; refine (HHM.out _ HTW.out).mono ?_; rintro e w2 ⟨rfl, hb2⟩; have HT2 := Lib.hid (HTW.out.below hb2); have HB2 := Lib.hid (HBEL.out.trans (hb2.mono HBEL.out.size)); clear hb2 HTW)
                  | (go_at_call 19; refine (HDM.out _ HT2.out).mono ?_; rintro e w4 ⟨rfl, hb4⟩; have HT4 := Lib.hid (HT2.out.below hb4); have HB4 := Lib.hid (HB2.out.trans (hb4.mono HB2.out.size)); clear hb4 HT2)
                  | (go_at_call 19; refine (HDN.out _ HT4.out).mono ?_; rintro e w5 ⟨rfl, hb5⟩; have HB5 := Lib.hid (HB4.out.trans (hb5.mono HB4.out.size)); clear hb5 HT4)
                  | (go_at_call 14; refine (HW.out _).mono ?_; rintro e wz ⟨rfl, hbz⟩; have HBZ := Lib.hid (HB5.out.trans (hbz.mono HB5.out.size)); clear hbz))
                go_ret
                exact ⟨rfl, HBZ.out⟩
            case pos =>
            have hAI : (j : Int) + 1 ≤ (lm : Int) := by omega
            by_cases hB : j < ln
            case neg =>
              have hBI : ¬ ((j : Int) + 1 ≤ (ln : Int)) := by omega
              have hfin := HFN.out (.inr (by omega))
              rcases hal : alk M N j with _ | _
              · have hne : headL M ≠ headL N := fun e => by rw [hfin.1 e] at hal; cases hal
                have hst := strB_ne hne
                clear hne hfin hal HFN
                generalize headL M = h1 at *
                generalize headL N = h2 at *
                go_wp2_with (first
                  | (go_at_call 18; refine (HHM.out _ HTW.out).mono ?_; rintro e w2 ⟨rfl, hb2⟩; have HT2 := Lib.hid (HTW.out.below hb2); have HB2 := Lib.hid (HBEL.out.trans (hb2.mono HBEL.out.size)); clear hb2 HTW)
                  | (go_at_call 18; refine (HHN.out _ HT2.out).mono ?_; rintro e w3 ⟨rfl, hb3⟩; have HT3 := Lib.hid (HT2.out.below hb3); have HB3 := Lib.hid (HB2.out.trans (hb3.mono HB2.out.size)); clear hb3 HT2)
                  | (go_at_call 19; refine (HDM.out _ HT3.out).mono ?_; rintro e w4 ⟨rfl, hb4⟩; have HT4 := Lib.hid (HT3.out.below hb4); have HB4 := Lib.hid (HB3.out.trans (hb4.mono HB3.out.size)); clear hb4 HT3)
                  | (go_at_call 19; refine (HDN.out _ HT4.out).mono ?_; rintro e w5 ⟨rfl, hb5⟩; have HB5 := Lib.hid (HB4.out.trans (hb5.mono HB4.out.size)); clear hb5 HT4)
                  | (go_at_call 14; refine (HW.out _).mono ?_; rintro e wz ⟨rfl, hbz⟩; have HBZ := Lib.hid (HB5.out.trans (hbz.mono HB5.out.size)); clear hbz))
                go_ret
                exact ⟨rfl, HBZ.out⟩
              · have hee := hfin.2 hal
                rw [← hee] at HDN
                clear hfin hal HFN hee
                generalize headL M = h1 at *
                go_wp2_with (first
                  | (go_at_call 18; refine (HHM.out _ HTW.out).mono ?_; rintro e w2 ⟨rfl, hb2⟩; have HT2 := Lib.hid (HTW.out.below hb2); have HB2 := Lib.hid (HBEL.out.trans (hb2.mono HBEL.out.size)); clear hb2 HTW)
                  | (go_at_call 18; refine (HHN.out _ HT2.out).mono ?_; rintro e w3 ⟨rfl, hb3⟩; have HT3 := Lib.hid (HT2.out.below hb3); have HB3 := Lib.hid (HB2.out.trans (hb3.mono HB2.out.size)); clear hb3 HT2)
                  | (go_at_call 19; refine (HDM.out _ HT3.out).mono ?_; rintro e w4 ⟨rfl, hb4⟩; have HT4 := Lib.hid (HT3.out.below hb4); have HB4 := Lib.hid (HB3.out.trans (hb4.mono HB3.out.size)); clear hb4 HT3)
                  | (go_at_call 19; refine (HDN.out _ HT4.out).mono ?_; rintro e w5 ⟨rfl, hb5⟩; have HB5 := Lib.hid (HB4.out.trans (hb5.mono HB4.out.size)); clear hb5 HT4)
                  | (go_at_call 14; refine (HW.out _).mono ?_; rintro e wz ⟨rfl, hbz⟩; have HBZ := Lib.hid (HB5.out.trans (hbz.mono HB5.out.size)); clear hbz))
                go_ret
                exact ⟨rfl, HBZ.out⟩
            case pos =>
            have hBI : (j : Int) + 1 ≤ (ln : Int) := by omega
            have HK1 := Lib.hid (fun W h => HKM.out ((j : Int) + 1) W h)
            have HK2 := Lib.hid (fun W h => HKN.out ((j : Int) + 1) W h)
            rw [HBM.out j hA] at HK1
            rw [HBN.out j hB] at HK2
            have HAS := Lib.hid (HALS.out j)
            have hjw : IntKind.i64.wrap ((j : Int) + 1 + 1) = (j : Int) + 1 + 1 := by rw [IntKind.wrap_i64]; omega
            generalize blkL M ((j : Int) + 1) = p at *
            generalize blkL N ((j : Int) + 1) = q at *
            have HSB := Lib.hid (fun A c D d A2 c2 D2 d2 W (h1 : BlkK W p A c D d) (h2 : BlkK W q A2 c2 D2 d2) => rSameB_any p q A c D d A2 c2 D2 d2 W h1 h2)
            rcases hal : alk M N j with _ | _
            · rw [hal] at HAS
              rw [Bool.false_and] at HAS
              clear hal HFN HSB
              go_wp2_with (first
                | (go_at_call 18; refine (HHM.out _ HTW.out).mono ?_; rintro e w2 ⟨rfl, hb2⟩; have HT2 := Lib.hid (HTW.out.below hb2); have HB2 := Lib.hid (HBEL.out.trans (hb2.mono HBEL.out.size)); clear hb2 HTW)
                | (go_at_call 18; refine (HHN.out _ HT2.out).mono ?_; rintro e w3 ⟨rfl, hb3⟩; have HT3 := Lib.hid (HT2.out.below hb3); have HB3 := Lib.hid (HB2.out.trans (hb3.mono HB2.out.size)); clear hb3 HT2)
                | (go_at_call 24; refine (HK1.out _ HT3.out).mono ?_; rintro e w4 ⟨A4, c4, D4, d4, rfl, hk4, hb4⟩; have HC4 := Lib.hid (bel2M hb4 (alloc1B w4 (.cells #[.int .i64 p.h, .string (strB p.prev), .slice A4 p.reqs.length c4, .slice D4 p.ress.length d4] 33))); have HT4 := Lib.hid (HT3.out.below HC4.out); have HB4 := Lib.hid (HB3.out.trans (HC4.out.mono HB3.out.size)); have HL4 := Lib.hid (hk4.below (alloc1B w4 (.cells #[.int .i64 p.h, .string (strB p.prev), .slice A4 p.reqs.length c4, .slice D4 p.ress.length d4] 33))); have HX4 := Lib.hid (heap_alloc_new w4 (.cells #[.int .i64 p.h, .string (strB p.prev), .slice A4 p.reqs.length c4, .slice D4 p.ress.length d4] 33)); clear hk4 hb4 HT3)
                | (go_at_call 24; refine (HK2.out _ HT4.out).mono ?_; rintro e w5 ⟨A5, c5, D5, d5, rfl, hk5, hb5⟩; have HC5 := Lib.hid (bel2M hb5 (alloc1B w5 (.cells #[.int .i64 q.h, .string (strB q.prev), .slice A5 q.reqs.length c5, .slice D5 q.ress.length d5] 33))); have HT6 := Lib.hid (HT4.out.below HC5.out); have HB6 := Lib.hid (HB4.out.trans (HC5.out.mono HB4.out.size)); have HL7 := Lib.hid (hk5.below (alloc1B w5 (.cells #[.int .i64 q.h, .string (strB q.prev), .slice A5 q.reqs.length c5, .slice D5 q.ress.length d5] 33))); have HL6 := Lib.hid (HL4.out.below HC5.out); have HX6 := Lib.hid (heapB HX4.out HC5.out); have HX7 := Lib.hid (heap_alloc_new w5 (.cells #[.int .i64 q.h, .string (strB q.prev), .slice A5 q.reqs.length c5, .slice D5 q.ress.length d5] 33)); clear hk5 hb5 HT4; obtain ⟨u0, u1, u2, u3, -⟩ := rows4 HX6.out; obtain ⟨t0, t1, t2, t3, -⟩ := rows4 HX7.out)
                )
              go_roundw
              case rel => exact ⟨j + 1, by omega, by omega, by rw [HAS.out], by go_num, HT6.out, HB6.out⟩
              case measure => simp [intOf]; omega
            · rw [hal] at HAS
              rw [Bool.true_and] at HAS
              clear hal HFN
              generalize sameB p q = sb at *
              go_wp2_with (first
                | (go_at_call 18; refine (HHM.out _ HTW.out).mono ?_; rintro e w2 ⟨rfl, hb2⟩; have HT2 := Lib.hid (HTW.out.below hb2); have HB2 := Lib.hid (HBEL.out.trans (hb2.mono HBEL.out.size)); clear hb2 HTW)
                | (go_at_call 18; refine (HHN.out _ HT2.out).mono ?_; rintro e w3 ⟨rfl, hb3⟩; have HT3 := Lib.hid (HT2.out.below hb3); have HB3 := Lib.hid (HB2.out.trans (hb3.mono HB2.out.size)); clear hb3 HT2)
                | (go_at_call 24; refine (HK1.out _ HT3.out).mono ?_; rintro e w4 ⟨A4, c4, D4, d4, rfl, hk4, hb4⟩; have HC4 := Lib.hid (bel2M hb4 (alloc1B w4 (.cells #[.int .i64 p.h, .string (strB p.prev), .slice A4 p.reqs.length c4, .slice D4 p.ress.length d4] 33))); have HT4 := Lib.hid (HT3.out.below HC4.out); have HB4 := Lib.hid (HB3.out.trans (HC4.out.mono HB3.out.size)); have HL4 := Lib.hid (hk4.below (alloc1B w4 (.cells #[.int .i64 p.h, .string (strB p.prev), .slice A4 p.reqs.length c4, .slice D4 p.ress.length d4] 33))); have HX4 := Lib.hid (heap_alloc_new w4 (.cells #[.int .i64 p.h, .string (strB p.prev), .slice A4 p.reqs.length c4, .slice D4 p.ress.length d4] 33)); clear hk4 hb4 HT3)
                | (go_at_call 24; refine (HK2.out _ HT4.out).mono ?_; rintro e w5 ⟨A5, c5, D5, d5, rfl, hk5, hb5⟩; have HC5 := Lib.hid (bel2M hb5 (alloc1B w5 (.cells #[.int .i64 q.h, .string (strB q.prev), .slice A5 q.reqs.length c5, .slice D5 q.ress.length d5] 33))); have HT6 := Lib.hid (HT4.out.below HC5.out); have HB6 := Lib.hid (HB4.out.trans (HC5.out.mono HB4.out.size)); have HL7 := Lib.hid (hk5.below (alloc1B w5 (.cells #[.int .i64 q.h, .string (strB q.prev), .slice A5 q.reqs.length c5, .slice D5 q.ress.length d5] 33))); have HL6 := Lib.hid (HL4.out.below HC5.out); have HX6 := Lib.hid (heapB HX4.out HC5.out); have HX7 := Lib.hid (heap_alloc_new w5 (.cells #[.int .i64 q.h, .string (strB q.prev), .slice A5 q.reqs.length c5, .slice D5 q.ress.length d5] 33)); clear hk5 hb5 HT4; obtain ⟨u0, u1, u2, u3, -⟩ := rows4 HX6.out; obtain ⟨t0, t1, t2, t3, -⟩ := rows4 HX7.out)
                | (go_at_call 25; refine (HSB.out _ _ _ _ _ _ _ _ _ HL6.out HL7.out).mono ?_; rintro e w8 ⟨rfl, hb8⟩; have HT8 := Lib.hid (HT6.out.below hb8); have HB8 := Lib.hid (HB6.out.trans (hb8.mono HB6.out.size)); clear hb8)
                )
              go_roundw
              case rel => exact ⟨j + 1, by omega, by omega, by rw [HAS.out], by go_num, HT8.out, HB8.out⟩
              case measure => simp [intOf]; omega

end Go.Proofs.Ytggbopgchlgidaa
