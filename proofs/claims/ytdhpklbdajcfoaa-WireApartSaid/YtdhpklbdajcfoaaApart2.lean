/- WireApart's own walk. -/
import Derived.Test.YtdhpklbdajcfoaaApart
import Derived.Deep.RegionWith
import Derived.Deep.RegionHeld3
namespace Go.Proofs.Ytdhpklbdajcfoaa
open Go.RowKit
set_option linter.unusedVariables false

/-- a row of one item -/
theorem Itms.one {w0 w : World} {y : Itm} {by' : Value} (hy : y.ok) (hby : Bs w by' y.b) (b : Nat) (hb : b = w.heap.size) : Itms (w.alloc (.cells #[.int .i64 y.kind, .int .i64 y.n, by', .float .f64 y.x] 32)) (.slice (some ⟨b, 0, none⟩) 1 1) [y] := by
  subst hb
  have hc : ∀ j u, #[Value.int .i64 y.kind, .int .i64 y.n, by', .float .f64 y.x][j]? = some u → (w.alloc (.cells #[.int .i64 y.kind, .int .i64 y.n, by', .float .f64 y.x] 32)).cell? ⟨w.heap.size, j, none⟩ = some u :=
    fun j u hj => (cell_of_row _ _ j _ 32 (0, 0) (heap_alloc_new w _)).trans hj
  refine ⟨some ⟨w.heap.size, 0, none⟩, 1, rfl, Nat.le_refl _, by unfold maxLen; omega, (by intro h; cases h), fun _ => ⟨⟨w.heap.size, 0, none⟩, rfl, by simp, fun k i hk => ?_⟩⟩
  match k, hk with
  | 0, hk =>
    simp at hk
    subst hk
    exact ⟨hy, by', hc 0 _ rfl, hc 1 _ rfl, hc 2 _ rfl, Rd.below hby ((Below.refl _ _).alloc (Nat.le_refl _) _) (Nat.le_refl _), hc 3 _ rfl⟩

def newsOf (w : World) (ad : Addr) (n : Nat) : List Value := (List.range (n * 4)).map fun j => (w.cell? (ad.add j)).getD undef
theorem newsOf_cells {w W : World} {ad : Addr} {its : List Itm} (hat : ∀ k i, its[k]? = some i → ItmAt w (ad.add (k * 4)) i) (hb : Below w.heap.size w W) (hl : ad.block < w.heap.size) :
    (newsOf w ad its.length).length = its.length * 4 ∧ (∀ j u, (newsOf w ad its.length)[j]? = some u → W.cell? (ad.add j) = some u) ∧ ∀ u ∈ newsOf w ad its.length, u.oneCell' = true := by
  refine ⟨by simp [newsOf], fun j u hj => ?_, fun u hu => ?_⟩
  · have hjl : j < its.length * 4 := by have := (List.getElem?_eq_some_iff.1 hj).1; simpa [newsOf] using this
    obtain ⟨u', h1, -⟩ := Itms.cellAt hat j hjl
    simp [newsOf, hjl, h1] at hj
    subst hj
    exact (hb.cell (by rw [block_add]; exact hl)).trans h1
  · obtain ⟨j, hj, rfl⟩ := List.mem_map.1 hu
    obtain ⟨u', h1, h2⟩ := Itms.cellAt hat j (List.mem_range.1 hj)
    simpa [h1] using h2

/-- behind the copy of the row: where it lies, what it holds; the box of the other item stands -/
theorem copy_step {w w2 : World} {ad : Addr} {its : List Itm} {v2 : Value} {y0 y1 y2 y3 : Value} {o' : Obj} (hat : ∀ k i, its[k]? = some i → ItmAt w (ad.add (k * 4)) i) (hne : its ≠ [])
    (hg : (((w.alloc (.cells #[y0, y1, y2, y3] 32)).alloc o').alloc (.cells #[] 32)).grownBy w2 (some (w.heap.size + 2)))
    (hown : w2.ownsRow (w.heap.size + 2) 32 4 v2 its.length (newsOf w ad its.length)) :
    ∃ g cap, v2 = .slice (some ⟨g, 0, none⟩) its.length cap ∧ its.length ≤ cap ∧ cap ≤ maxLen ∧ w.heap.size + 2 ≤ g ∧ g < w2.heap.size ∧ ItmRow w w2 g its ∧ (∀ j, w2.frozen? ⟨g, j, none⟩ = false) ∧ Below w.heap.size w w2 ∧
      w2.cell? ⟨w.heap.size, 0, none⟩ = some y0 ∧ w2.cell? ⟨w.heap.size, 1, none⟩ = some y1 ∧ w2.cell? ⟨w.heap.size, 2, none⟩ = some y2 ∧ w2.cell? ⟨w.heap.size, 3, none⟩ = some y3 ∧ w2.frozen? ⟨w.heap.size, 0, none⟩ = false := by
  have hpos : 0 < its.length := List.length_pos_iff.2 hne
  have hb : Below w.heap.size w w2 := ((((Below.refl w.heap.size w).alloc (Nat.le_refl _) _).alloc (by simp) _).alloc (by simp; omega) _).grown hg (by simp; omega) (by intro k h; injection h with h; omega)
  have hblk : w2.heap[w.heap.size]? = some (.cells #[y0, y1, y2, y3] 32 (0, 0)) := by
    rw [hg.block w.heap.size (by simp; omega) (by simp), Below.heap_alloc _ _ _ (by simp; omega), Below.heap_alloc _ _ _ (by simp)]
    exact heap_alloc_new w _
  have hc : ∀ j u, #[y0, y1, y2, y3][j]? = some u → w2.cell? ⟨w.heap.size, j, none⟩ = some u := fun j u hj => (cell_of_row _ _ j _ _ (0, 0) hblk).trans hj
  have hown' := hown
  rcases hown.2 with ⟨-, h0⟩ | ⟨g, cap, cur, rfl, hgb, hgg, hcap, hmx, hsz, htake⟩
  · omega
  · refine ⟨g, cap, rfl, hcap, hmx, hgb, (Array.getElem?_eq_some_iff.1 hgg).1, ItmRow.copied hat fun j hj => ?_, fun j => by simp [World.frozen?, hgg], hb, hc 0 _ rfl, hc 1 _ rfl, hc 2 _ rfl, hc 3 _ rfl, by simp [World.frozen?, hblk]⟩
    obtain ⟨u, h1, -⟩ := Itms.cellAt hat j hj
    have h2 := hown'.cells (g := g) rfl j u (by simp [newsOf, hj, h1])
    rw [Addr.add_lit, Nat.zero_add] at h2
    rw [h2, h1]

theorem ItmRow.far {w0 w : World} {g : Nat} {its : List Itm} (h : ItmRow w0 w g its) (a : Addr) (u : Value) (ha : a.block ≠ g) : ItmRow w0 (w.setCell a u) g its := by
  intro k it hk
  obtain ⟨hok, bv, hbv, f0, f1, f2, f3⟩ := h k it hk
  exact ⟨hok, bv, hbv, (so' (by rintro rfl; exact ha rfl)).trans f0, (so' (by rintro rfl; exact ha rfl)).trans f1, (so' (by rintro rfl; exact ha rfl)).trans f2, (so' (by rintro rfl; exact ha rfl)).trans f3⟩
theorem fewB_set (its : List Itm) (i : Nat) (y : Itm) (h : fewB its = true) (hy : y.b.length ≤ 2000) : fewB (its.set i y) = true := by
  simp only [fewB, Bool.and_eq_true, decide_eq_true_eq, List.all_eq_true, List.length_set] at h ⊢
  refine ⟨h.1, fun x hx => ?_⟩
  rcases List.mem_or_eq_of_mem_set hx with h1 | h1
  · exact h.2 x h1
  · rw [h1]; exact hy
theorem ap_keep {w5 W W' : World} {a0 a1 a2 a3 b0 b1 b2 b3 : Addr} {x0 x1 x2 x3 y0 y1 y2 y3 : Value} (hb : Below W.heap.size W W')
    (h : Below w5.heap.size w5 W ∧ W.cell? a0 = some x0 ∧ W.cell? a1 = some x1 ∧ W.cell? a2 = some x2 ∧ W.cell? a3 = some x3 ∧ W.cell? b0 = some y0 ∧ W.cell? b1 = some y1 ∧ W.cell? b2 = some y2 ∧ W.cell? b3 = some y3) :
    Below w5.heap.size w5 W' ∧ W'.cell? a0 = some x0 ∧ W'.cell? a1 = some x1 ∧ W'.cell? a2 = some x2 ∧ W'.cell? a3 = some x3 ∧ W'.cell? b0 = some y0 ∧ W'.cell? b1 = some y1 ∧ W'.cell? b2 = some y2 ∧ W'.cell? b3 = some y3 := by
  have k : ∀ {a : Addr} {x : Value}, W.cell? a = some x → W'.cell? a = some x := fun h => (hb.cell (World.block_lt_of_cell? W _ h)).trans h
  obtain ⟨h0, h1, h2, h3, h4, h5, h6, h7, h8⟩ := h
  exact ⟨h0.trans (hb.mono h0.size), k h1, k h2, k h3, k h4, k h5, k h6, k h7, k h8⟩

theorem own_empty4 (w : World) (e : TypeId) (B n : Nat) (hB : B ≤ w.heap.size) (hn : n = w.heap.size) : (w.alloc (.cells #[] e)).ownsRow B e 4 (.slice (some ⟨n, 0, none⟩) 0 0) 0 [] := by
  subst hn
  exact World.ownsRow_made w #[] 0 hB (Nat.zero_le _) rfl

set_option maxRecDepth 100000 in
set_option maxHeartbeats 1000000 in
theorem WireApart_yes (v : Value) (its : List Itm) (at0 : Int) (y : Itm) (by' : Value) (w : World) (hv : Itms w v its) (hfew : fewB its = true) (hne : its ≠ []) (hy : y.ok) (hby : Bs w by' y.b) (hyl : y.b.length ≤ 2000) (ha0 : -9223372036854775808 ≤ at0) (ha1 : at0 ≤ 9223372036854775807) :
    Calls Try.prog 5 #[v, .int .i64 at0, y.val by'] w fun e w' => e = .returned (.bool true) ∧ Below w.heap.size w w' := by
  obtain ⟨i0, hi, hz0, hz1, hz2⟩ := info_parts iteminfo
  have hoy : by'.oneCell' = true := by obtain ⟨A, c, rfl, -⟩ := hby.open; rfl
  have hv1 := hv.below ((Below.refl w.heap.size w).alloc (Nat.le_refl _) (.cells #[.int .i64 y.kind, .int .i64 y.n, by', .float .f64 y.x] 32)) (Nat.le_refl _)
  have hfa := few_any v its _ hv1
  rw [hfew] at hfa
  have hby1 := Rd.below hby ((Below.refl w.heap.size w).alloc (Nat.le_refl _) (.cells #[.int .i64 y.kind, .int .i64 y.n, by', .float .f64 y.x] 32)) (Nat.le_refl _)
  have hfo := few_any _ [y] _ (Itms.one (w0 := w) hy hby1 (w.heap.size + 1) (by simp))
  have hfy : fewB [y] = true := by simp [fewB]; exact hyl
  rw [hfy] at hfo
  have HF := Lib.hid hfa
  have HO := Lib.hid hfo
  have HV := Lib.hid hv
  obtain ⟨A, c, rfl, hc, hm, hn, hx⟩ := hv
  obtain ⟨ad, rfl, hadl, hat⟩ := hx hne
  have hlen : its.length ≤ 200 := by simp [fewB] at hfew; exact hfew.1
  have hpos : 0 < its.length := List.length_pos_iff.2 hne
  have hz : ((its.length : Int) == 0) = false := by simp; exact hne
  have HFEW := Lib.hid hfew
  have HAT := Lib.hid hat
  clear hfew hfa hx hn hat hfo hfy hv1
  have ht1 : -(its.length : Int) < at0.tmod its.length := by
    have := Int.lt_tmod_of_pos at0 (show (0 : Int) < its.length by omega)
    omega
  have ht2 : at0.tmod its.length < its.length := Int.tmod_lt_of_pos at0 (by omega)
  obtain ⟨i, hidx⟩ : ∃ i : Nat, at0.tmod its.length % (its.length : Int) = (i : Int) := Int.eq_ofNat_of_zero_le (Int.emod_nonneg _ (by omega))
  have hil : i < its.length := by have := Int.emod_lt_of_pos (at0.tmod its.length) (show (0 : Int) < its.length by omega); omega
  obtain ⟨hoki, bvi, hi0, hi1, hi2, hi3, hi4⟩ := HAT.out i its[i] (List.getElem?_eq_getElem hil)
  have hadi : (ad.add (i * 4)).block < w.heap.size := by rw [block_add]; exact hadl
  have hsf := fun (w : World) (a : Addr) (m : Mode) (b : Nat) => run_store Try.prog w a (.float .f64 b) m rfl
  have hsv := fun (w : World) (a : Addr) (m : Mode) => run_store Try.prog w a by' m hoy
  unfold Itm.val
  go_enter Try.func5, Try.ntmps5
  go_wp2_with (first
    | (go_at_call_of 7 (Value.slice (some ad) its.length c); refine HF.out.mono ?_; rintro e w' ⟨rfl, rfl⟩)
    | (go_at_call 7; refine HO.out.mono ?_; rintro e w' ⟨rfl, rfl⟩)
    | (at_builtin; (refine wpList_append_own _ rfl _ _ 22 rfl (w.heap.size + 2) 32 i0 _ 4 48 Try.underlying22 hi hz0 hz1 hz2 rfl (by decide) _ 0 [] rfl (own_empty4 _ _ _ _ (by simp) (by simp)) ad its.length c (newsOf w ad its.length) rfl (newsOf_cells HAT.out (Below.refl _ _) hadl).1 (newsOf_cells HAT.out ((((Below.refl w.heap.size w).alloc (Nat.le_refl _) _).alloc (by simp) _).alloc (by simp; omega) _) hadl).2.1 (newsOf_cells HAT.out (Below.refl _ _) hadl).2.2 (by unfold maxLen; omega) (by omega) (by simp) ?_; intro v2 w2 hown2 hg2 _; rw [List.nil_append, Nat.zero_add] at hown2; obtain ⟨g, cap, rfl, hcap, hcm, hgl, hgw, hrow, hfz, hB2, hc0, hc1, hc2, hc3, hfz0⟩ := copy_step HAT.out hne hg2 hown2; clear hg2 hown2; have hk0 := (hB2.cell hadi).trans hi0; obtain ⟨-, bvg, -, q0, q1, q2, q3⟩ := hrow i its[i] (List.getElem?_eq_getElem hil); have r0 := (so' (w := w2) (v := .int .i64 its[i].kind) (a := ⟨w.heap.size, 0, none⟩) (by intro e; injection e; omega)).trans q0; have r1 := (so' (w := w2) (v := .int .i64 its[i].kind) (a := ⟨w.heap.size, 0, none⟩) (by intro e; injection e; omega)).trans q1; have r2 := (so' (w := w2) (v := .int .i64 its[i].kind) (a := ⟨w.heap.size, 0, none⟩) (by intro e; injection e; omega)).trans q2; have r3 := (so' (w := w2) (v := .int .i64 its[i].kind) (a := ⟨w.heap.size, 0, none⟩) (by intro e; injection e; omega)).trans q3; clear q0 q1 q2 q3))
    | (go_at_call_of 8 (Value.slice (some ad) its.length c); (refine (put_any _ its _ (HV.out.below (((((hB2.setCell (Nat.le_refl _) _).setCell (by show w.heap.size ≤ g; omega) _).setCell (by show w.heap.size ≤ g; omega) _).setCell (by show w.heap.size ≤ g; omega) _).setCell (by show w.heap.size ≤ g; omega) _) (Nat.le_refl _)) HFEW.out).mono ?_; rintro e w4 ⟨va, vb, rfl, ha, -, hb4⟩)))
  have hB3 : Below w.heap.size w _ := (((((hB2.setCell (p := ⟨w.heap.size, 0, none⟩) (Nat.le_refl _) (.int .i64 its[i].kind)).setCell (p := ⟨g, i * 4, none⟩) (by show w.heap.size ≤ g; omega) (.int .i64 its[i].kind)).setCell (p := ⟨g, i * 4 + 1, none⟩) (by show w.heap.size ≤ g; omega) (.int .i64 y.n)).setCell (p := ⟨g, i * 4 + 2, none⟩) (by show w.heap.size ≤ g; omega) by').setCell (p := ⟨g, i * 4 + 3, none⟩) (by show w.heap.size ≤ g; omega) (.float .f64 y.x))
  have hB4 : Below w.heap.size w w4 := hB3.trans (hb4.mono hB3.size)
  obtain ⟨y', hy'⟩ : ∃ y' : Itm, y' = ⟨its[i].kind, y.n, y.b, y.x⟩ := ⟨_, rfl⟩
  have hyok : y'.ok := by
    obtain ⟨o1, o2, -, -, -⟩ := hoki
    obtain ⟨-, -, o3, o4, o5⟩ := hy
    subst hy'
    exact ⟨o1, o2, o3, o4, o5⟩
  have hrow3 := (hrow.far ⟨w.heap.size, 0, none⟩ (.int .i64 its[i].kind) (by show w.heap.size ≠ g; omega)).set (y := y') (by' := by') hyok (by subst hy'; exact hby) hil
  have hrow4 := hrow3.below (w' := w4) (by subst hy'; exact hb4) (by subst hy'; simpa [st4, World.setCell] using hgw)
  have hgw4 : g < w4.heap.size := Nat.lt_of_lt_of_le hgw (by have := hb4.size; simpa [World.setCell] using this)
  have him := hrow4.itms hB4 hgw4 (by rw [List.length_set]; exact hcap) hcm
  rw [List.length_set] at him
  have hf2 := fewB_set its i y' HFEW.out (by subst hy'; exact hyl)
  refine (put_any _ _ _ him hf2).mono ?_
  rintro e w5 ⟨va2, vb2, rfl, ha2, -, hb5⟩
  have ha5 := Rd.below ha hb5 (Nat.le_refl _)
  have hB5 := hB4.trans (hb5.mono hB4.size)
  have hby5 := Rd.below hby hB5 (Nat.le_refl _)
  have hbi5 := Rd.below hi3 hB5 (Nat.le_refl _)
  have c0 := (hB5.cell hadi).trans hi0
  have c1 := (hB5.cell (p := ⟨(ad.add (i * 4)).block, (ad.add (i * 4)).off + 1, none⟩) hadi).trans hi1
  have c2 := (hB5.cell (p := ⟨(ad.add (i * 4)).block, (ad.add (i * 4)).off + 2, none⟩) hadi).trans hi2
  have c3 := (hB5.cell (p := ⟨(ad.add (i * 4)).block, (ad.add (i * 4)).off + 3, none⟩) hadi).trans hi4
  have hwl : w.heap.size < w2.heap.size := World.block_lt_of_cell? w2 _ hc0
  have keepbox : ∀ j, j ≠ 0 → w5.cell? ⟨w.heap.size, j, none⟩ = w2.cell? ⟨w.heap.size, j, none⟩ := by
    intro j hj
    rw [hb5.cell (p := ⟨w.heap.size, j, none⟩) (Nat.lt_of_lt_of_le hwl (by have h1 := hb4.size; simp [World.setCell] at h1; exact h1)), hb4.cell (p := ⟨w.heap.size, j, none⟩) (by simpa [World.setCell] using hwl)]
    rw [so' (by intro e; injection e; omega), so' (by intro e; injection e; omega), so' (by intro e; injection e; omega), so' (by intro e; injection e; omega), so' (by intro e; injection e; omega)]
  have d0 : w5.cell? ⟨w.heap.size, 0, none⟩ = some (.int .i64 its[i].kind) := by
    rw [hb5.cell (p := ⟨w.heap.size, 0, none⟩) (Nat.lt_of_lt_of_le hwl (by have h1 := hb4.size; simp [World.setCell] at h1; exact h1)), hb4.cell (p := ⟨w.heap.size, 0, none⟩) (by simpa [World.setCell] using hwl)]
    rw [so' (by intro e; injection e; omega), so' (by intro e; injection e; omega), so' (by intro e; injection e; omega), so' (by intro e; injection e; omega)]
    exact ss' hc0
  have d1 := (keepbox 1 (by omega)).trans hc1
  have d2 := (keepbox 2 (by omega)).trans hc2
  have d3 := (keepbox 3 (by omega)).trans hc3
  have hes : (encs its == encs (its.set i y')) = (enc its[i] == enc y') := encs_set its i y' hil
  have hyb : Bs w5 by' y'.b := by subst hy'; exact hby5
  have hal := fun (W : World) (h1 : Bs W bvi its[i].b) (h2 : Bs W by' y'.b) => alike_any its[i] y' bvi by' W hoki hyok (by subst hy'; rfl) h1 h2 (HFEW.out |> fun h => by simp [fewB] at h; exact h.2 _ (List.getElem_mem hil)) (by subst hy'; exact hyl)
  have hval : y'.val by' = .agg #[.int .i64 its[i].kind, .int .i64 y.n, by', .float .f64 y.x] := by subst hy'; rfl
  rw [hval] at hal
  have HES := Lib.hid hes
  have HAL := Lib.hid hal
  have HAD := Lib.hid hadl
  clear hes hal hval keepbox hrow hrow3 hrow4 him hf2 hy' hk0 r0 r1 r2 r3 hc0 hc1 hc2 hc3 hi0 hi1 hi2 hi4 hsf hsv hfz hfz0 hB2 hB3 hB4 hb4 hb5 ha HF HO HV HAT hidx hadi ht1 ht2 hz
  have hbe : ∀ b : Bool, (b == b) = true := fun b => by simp
  go_wp2_with fail
  go_region_held3 (fun W => Below w5.heap.size w5 W ∧ W.cell? (ad.add (i * 4)) = some (.int .i64 its[i].kind) ∧ W.cell? ⟨(ad.add (i * 4)).block, (ad.add (i * 4)).off + 1, none⟩ = some (.int .i64 its[i].n) ∧ W.cell? ⟨(ad.add (i * 4)).block, (ad.add (i * 4)).off + 2, none⟩ = some bvi ∧ W.cell? ⟨(ad.add (i * 4)).block, (ad.add (i * 4)).off + 3, none⟩ = some (.float .f64 its[i].x) ∧ W.cell? ⟨w.heap.size, 0, none⟩ = some (.int .i64 its[i].kind) ∧ W.cell? ⟨w.heap.size, 1, none⟩ = some (.int .i64 y.n) ∧ W.cell? ⟨w.heap.size, 2, none⟩ = some by' ∧ W.cell? ⟨w.heap.size, 3, none⟩ = some (.float .f64 y.x)) (first | exact ⟨(Below.refl _ w5).drew, c0, c1, c2, c3, d0, d1, d2, d3⟩ | exact ap_keep (by assumption) (by assumption) | assumption)
    (first
      | (go_at_call 14; refine (Same_any _ _ (encs its) (encs (its.set i y')) _ (Rd.below ha5 (And.left (by assumption : Below w5.heap.size w5 _ ∧ _)) (Nat.le_refl _)) (Rd.below ha2 (And.left (by assumption : Below w5.heap.size w5 _ ∧ _)) (Nat.le_refl _))).mono ?_; rintro e w' ⟨rfl, rfl⟩; rw [HES.out])
      | (go_at_call 21; refine (HAL.out _ (Rd.below hbi5 (And.left (by assumption : Below w5.heap.size w5 _ ∧ _)) (Nat.le_refl _)) (Rd.below hyb (And.left (by assumption : Below w5.heap.size w5 _ ∧ _)) (Nat.le_refl _))).mono ?_; rintro e wL ⟨rfl, hbL⟩)
      | (go_at_call 9; refine (awake_any _).mono ?_; rintro e wK ⟨rfl, hbK⟩))
  all_goals
    have hZ := And.left (by assumption : Below w5.heap.size w5 _ ∧ _)
    go_wp2
    go_ret
    exact ⟨rfl, hB5.trans (hZ.mono hB5.size)⟩

theorem WireApart_any (v : Value) (its : List Itm) (at0 : Int) (y : Itm) (by' : Value) (w : World) (hv : Itms w v its) (hy : y.ok) (hby : Bs w by' y.b) (ha0 : -9223372036854775808 ≤ at0) (ha1 : at0 ≤ 9223372036854775807) :
    Calls Try.prog 5 #[v, .int .i64 at0, y.val by'] w fun e w' => e = .returned (.bool true) ∧ Below w.heap.size w w' := by
  have hoy : by'.oneCell' = true := by obtain ⟨A, c, rfl, -⟩ := hby.open; rfl
  have hb1 := (Below.refl w.heap.size w).alloc (Nat.le_refl _) (.cells #[Value.int .i64 y.kind, Value.int .i64 y.n, by', Value.float .f64 y.x] 32)
  have hfa := few_any v its _ (hv.below hb1 (Nat.le_refl _))
  rcases hf : fewB its with _ | _
  · rw [hf] at hfa
    have HF := Lib.hid hfa
    clear hf hfa
    unfold Itm.val
    go_enter Try.func5, Try.ntmps5
    go_wp2_with (first
      | (go_at_call 7; refine HF.out.mono ?_; rintro e w' ⟨rfl, rfl⟩)
      | (go_at_call 9; refine (awake_any _).mono ?_; rintro e wK ⟨rfl, hbK⟩))
    go_ret
    exact ⟨rfl, hb1.trans (hbK.mono (by simp))⟩
  by_cases hne : its = []
  · subst hne
    rw [hf] at hfa
    have HF := Lib.hid hfa
    obtain ⟨A, c, rfl, hc, hm, hn, hx⟩ := hv
    clear hf hfa hx hn
    have hz : ((0 : Int) == 0) = true := rfl
    unfold Itm.val
    rw [List.length_nil] at HF ⊢
    go_enter Try.func5, Try.ntmps5
    go_wp2_with (first
      | (go_at_call 7; refine HF.out.mono ?_; rintro e w' ⟨rfl, rfl⟩)
      | (go_at_call 9; refine (awake_any _).mono ?_; rintro e wK ⟨rfl, hbK⟩))
    go_ret
    exact ⟨rfl, hb1.trans (hbK.mono (by simp))⟩
  by_cases hyl : y.b.length ≤ 2000
  · exact WireApart_yes v its at0 y by' w hv hf hne hy hby hyl ha0 ha1
  · rw [hf] at hfa
    have hfo := few_any _ [y] _ (Itms.one (w0 := w) hy (Rd.below hby hb1 (Nat.le_refl _)) (w.heap.size + 1) (by simp))
    have hfy : fewB [y] = false := by simp [fewB]; omega
    rw [hfy] at hfo
    have HF := Lib.hid hfa
    have HO := Lib.hid hfo
    obtain ⟨A, c, rfl, hc, hm, hn, hx⟩ := hv
    obtain ⟨ad, rfl, hadl, hat⟩ := hx hne
    have hz : ((its.length : Int) == 0) = false := by simp; exact hne
    clear hf hfa hx hn hfo hfy hat
    unfold Itm.val
    go_enter Try.func5, Try.ntmps5
    go_wp2_with (first
      | (go_at_call_of 7 (Value.slice (some ad) its.length c); refine HF.out.mono ?_; rintro e w' ⟨rfl, rfl⟩)
      | (go_at_call 7; refine HO.out.mono ?_; rintro e w' ⟨rfl, rfl⟩)
      | (go_at_call 9; refine (awake_any _).mono ?_; rintro e wK ⟨rfl, hbK⟩))
    go_ret
    exact ⟨rfl, (hb1.alloc (by simp) _).trans (hbK.mono (by simp; omega))⟩
end Go.Proofs.Ytdhpklbdajcfoaa
