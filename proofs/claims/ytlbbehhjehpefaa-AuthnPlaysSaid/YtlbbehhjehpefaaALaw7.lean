/- Layer 3: AuthnForges. -/
import Derived.Test.YtlbbehhjehpefaaADeed
import Derived.Test.YtlbbehhjehpefaaALaw2
namespace Go.Proofs.Ytlbbehhjehpefaa
open Go.RowKit
set_option linter.unusedVariables false

/-- a cell is as it was while a map turns -/
theorem cell_besideMap {w w' : World} {b : Nat} {es : Array MapEntry} {clock : Nat} {a : Addr} {u : Value} (h : w.cell? a = some u) (hm : w.heap[b]? = some (.map es clock)) (hg : w.grownBy w' (some b)) : w'.cell? a = some u := by
  have hne : a.block ≠ b := by rintro rfl; simp [World.cell?, hm] at h
  exact (World.cell?_of_block (hg.block _ (cell_lt h) (by intro e; injection e with e; exact hne e))).trans h

theorem three_cells {w W : World} {b B : Nat} {x y z : Value} {t : TypeId} (hw : w.heap[b]? = some (.cells #[x, y, z] t (0, 0))) (hb : Below B w W) (hB : w.heap.size ≤ B) : W.cell? ⟨b, 0, none⟩ = some x ∧ W.cell? ⟨b, 1, none⟩ = some y ∧ W.cell? ⟨b, 2, none⟩ = some z := by
  have h : W.heap[b]? = some (.cells #[x, y, z] t (0, 0)) := (hb.block b (Nat.lt_of_lt_of_le (Array.getElem?_eq_some_iff.1 hw).1 hB)).trans hw
  exact ⟨(cell_of_row W b 0 _ _ (0, 0) h).trans rfl, (cell_of_row W b 1 _ _ (0, 0) h).trans rfl, (cell_of_row W b 2 _ _ (0, 0) h).trans rfl⟩

set_option maxHeartbeats 2000000 in
theorem AuthnForges_any (F C : Int) (v yv : Value) (ds : List Dd) (y : Dd) (w : World) (hv : Ds w v ds) (hy : Bs w yv y.l) (hys : ok64 y.s) :
    Calls Try.prog 6 #[.agg #[.int .i64 F, .int .i64 C], v, .agg #[.int .i64 y.s, yv, .bool y.ask]] w (Yes3 w) := by
  obtain ⟨Ay, cy, rfl, -⟩ := hy.open
  obtain ⟨wX, hwX⟩ : ∃ wX, wX = (w.alloc (.cells #[.int .i64 F, .int .i64 C] 23)).alloc (.cells #[.int .i64 y.s, .slice Ay y.l.length cy, .bool y.ask] 36) := ⟨_, rfl⟩
  have hbX : Below w.heap.size w wX := by rw [hwX]; exact ((Below.refl _ _).alloc (Nat.le_refl _) _).alloc (by simp) _
  have hX1 : wX.heap[w.heap.size]? = some (.cells #[.int .i64 F, .int .i64 C] 23 (0, 0)) := by
    rw [hwX]
    exact (((Below.refl _ _).alloc (Nat.le_refl _) _).block w.heap.size (by simp)).trans (heap_alloc_new _ _)
  have hY1 : wX.heap[w.heap.size + 1]? = some (.cells #[.int .i64 y.s, .slice Ay y.l.length cy, .bool y.ask] 36 (0, 0)) := by
    rw [hwX, show w.heap.size + 1 = (w.alloc (.cells #[.int .i64 F, .int .i64 C] 23)).heap.size by simp]
    exact heap_alloc_new _ _
  obtain ⟨x0, x1⟩ := both_cells hX1 (Below.refl wX.heap.size wX)
  obtain ⟨y0, y1, y2⟩ := three_cells hY1 (Below.refl wX.heap.size wX) (Nat.le_refl _)
  have HV := Lib.hid (hv.below hbX (Nat.le_refl _))
  have HYB := Lib.hid (hy.below hbX (Nat.le_refl _))
  have hfew := fewD_any v ds wX HV.out
  have HW := Lib.hid hwX
  have HY1 := Lib.hid hY1
  obtain ⟨A, ca, rfl, -, -, -⟩ := id hv
  clear hv hy hwX hY1 hX1
  rcases hf : fewD ds with _ | _
  · rw [hf] at hfew
    have HFEW := Lib.hid hfew
    clear hfew hf
    go_enter Try.func6, Try.ntmps6
    go_wp2_with (first
      | (go_at_call 15; rw [← HW.out]; refine HFEW.out.mono ?_; rintro e w' ⟨rfl, hww⟩; rw [hww]; clear hww w'))
    go_ret
    exact ⟨rfl, hbX⟩
  · rw [hf] at hfew
    have HFEW := Lib.hid hfew
    obtain ⟨h100, h1000⟩ := fewD_iff.1 hf
    have H1000 := Lib.hid h1000
    clear hfew hf h1000
    by_cases hyl : 1000 < y.l.length
    · have hI : decide ((1000 : Int) < (y.l.length : Int)) = true := by simp; omega
      go_enter Try.func6, Try.ntmps6
      go_wp2_with (first
        | (go_at_call 15; rw [← HW.out]; refine HFEW.out.mono ?_; rintro e w' ⟨rfl, hww⟩; rw [hww]; clear hww w'))
      go_ret
      exact ⟨rfl, hbX⟩
    · have hI : decide ((1000 : Int) < (y.l.length : Int)) = false := by simp; omega
      go_enter Try.func6, Try.ntmps6
      go_wp2_with (first
        | (go_at_call 15; rw [← HW.out]; refine HFEW.out.mono ?_; rintro e w' ⟨rfl, hww⟩; rw [hww]; clear hww w')
        | (go_at_call 10; refine (New3_any F C _).mono ?_; rintro e w1 ⟨g, bm, rfl, hg, hbm, hA, hbA⟩))
      have hfc : max 0 (min F 2) = clF F := rfl
      have hcc : max 0 (min C 8) = clC C := rfl
      rw [hfc, hcc] at hA
      clear hfc hcc
      generalize clF F = f at *
      generalize clC C = c at *
      go_loopw [8, 9] (fun tv i wr => ∃ k : Nat, k ≤ ds.length ∧ i = .int .i64 k ∧ tv = .bool (there f c (ds.take k) y) ∧ Au wr g bm f c (tabK f c (ds.take k)) ∧ Below wX.heap.size wX wr) (fun _ i _ => ds.length - (intOf i).toNat)
      case atStart => exact ⟨0, Nat.zero_le _, rfl, rfl, hA, hbA⟩
      case round =>
        obtain ⟨k, hk, rfl, rfl, hAu, hbel⟩ := hrel
        by_cases hlt : k < ds.length
        · obtain ⟨A', c', e, -, -, hx⟩ := HV.out.below hbel (Nat.le_refl _)
          injection e with e e2 e3
          subst e
          clear e2 e3
          obtain ⟨ad, bv, rfl, hadl, z0, z1, -, hbx, h64⟩ := hx k hlt
          obtain ⟨Ab, cb, rfl, -⟩ := hbx.open
          clear hx
          have hl9 : ds[k].l.length ≤ 1000 := H1000.out _ (List.getElem_mem hlt)
          have hTl := tabK_le f c ds k
          have hTk := tabK_take f c ds k hlt
          have hth := there_take f c ds y k hlt
          have hSG : ∀ W, Below wr.heap.size wr W → Calls Try.prog 18 #[.pointer (some ⟨g, 0, none⟩), .int .i64 ds[k].s, .slice Ab ds[k].l.length cb] W (Signs g bm f c ds[k].s ds[k].l (tabK f c (ds.take k)) W) := fun W hb =>
            Sign_any g bm f c ds[k].s _ ds[k].l _ W (hAu.below hb (Nat.le_refl _)) h64 (hbx.below hb (Nat.le_refl _)) (by omega) (by omega)
          have hMP : ∀ W, Below wr.heap.size wr W → ∃ es clock, W.heap[bm]? = some (.map es clock) := fun W hb => (hAu.below hb (Nat.le_refl _)).map
          have hS0 : wr.drew.cell? (ad.add (k * 3)) = some (.int .i64 ds[k].s) ∧ wr.drew.cell? ⟨(ad.add (k * 3)).block, (ad.add (k * 3)).off + 1, none⟩ = some (.slice Ab ds[k].l.length cb) := ⟨z0, z1⟩
          have hka : ∀ (W : World) (o : Obj), (W.cell? (ad.add (k * 3)) = some (.int .i64 ds[k].s) ∧ W.cell? ⟨(ad.add (k * 3)).block, (ad.add (k * 3)).off + 1, none⟩ = some (.slice Ab ds[k].l.length cb)) → ((W.alloc o).cell? (ad.add (k * 3)) = some (.int .i64 ds[k].s) ∧ (W.alloc o).cell? ⟨(ad.add (k * 3)).block, (ad.add (k * 3)).off + 1, none⟩ = some (.slice Ab ds[k].l.length cb)) :=
            fun W o h => ⟨(((Below.refl W.heap.size W).alloc (Nat.le_refl _) o).cell (cell_lt h.1)).trans h.1, (((Below.refl W.heap.size W).alloc (Nat.le_refl _) o).cell (cell_lt h.2)).trans h.2⟩
          have hkm : ∀ (W W' : World), (W.cell? (ad.add (k * 3)) = some (.int .i64 ds[k].s) ∧ W.cell? ⟨(ad.add (k * 3)).block, (ad.add (k * 3)).off + 1, none⟩ = some (.slice Ab ds[k].l.length cb)) → (∃ es clock, W.heap[bm]? = some (.map es clock)) → W.grownBy W' (some bm) → (W'.cell? (ad.add (k * 3)) = some (.int .i64 ds[k].s) ∧ W'.cell? ⟨(ad.add (k * 3)).block, (ad.add (k * 3)).off + 1, none⟩ = some (.slice Ab ds[k].l.length cb)) :=
            fun W W' h ⟨es, clk, hm⟩ hg => ⟨cell_besideMap h.1 hm hg, cell_besideMap h.2 hm hg⟩
          have HSG := Lib.hid hSG
          have HMP := Lib.hid hMP
          have HTK := Lib.hid hTk
          have HTH := Lib.hid hth
          clear hSG hMP hTk hth
          have hbm : bm < wr.heap.size := hAu.2.lt
          have hbC1 : Below wr.heap.size wr wr.drew := (Below.refl _ _).drew
          have hbC2 : Below wr.heap.size wr (wr.alloc (.cells #[.int .i64 0, .slice none 0 0] 40)).drew := ((Below.refl _ _).alloc (Nat.le_refl _) _).drew
          have hev2 : Ev (wr.alloc (.cells #[.int .i64 0, .slice none 0 0] 40)).drew wr.heap.size (.int .i64 0) (.slice none 0 0) := heap_alloc_new _ _
          have hks : ∀ (W : World) (x y : Value), (W.cell? (ad.add (k * 3)) = some (.int .i64 ds[k].s) ∧ W.cell? ⟨(ad.add (k * 3)).block, (ad.add (k * 3)).off + 1, none⟩ = some (.slice Ab ds[k].l.length cb)) → (((W.setCell ⟨wr.heap.size, 0, none⟩ x).setCell ⟨wr.heap.size, 1, none⟩ y).cell? (ad.add (k * 3)) = some (.int .i64 ds[k].s) ∧ ((W.setCell ⟨wr.heap.size, 0, none⟩ x).setCell ⟨wr.heap.size, 1, none⟩ y).cell? ⟨(ad.add (k * 3)).block, (ad.add (k * 3)).off + 1, none⟩ = some (.slice Ab ds[k].l.length cb)) := fun W x y h => by
            have hon : W.grownBy ((W.setCell ⟨wr.heap.size, 0, none⟩ x).setCell ⟨wr.heap.size, 1, none⟩ y) (some wr.heap.size) := Only.set (Only.set (Only.refl _ _) 0 _) 1 _
            have hne : (ad.add (k * 3)).block ≠ wr.heap.size := by rw [block_add]; omega
            exact ⟨(World.cell?_of_block (hon.block _ (cell_lt h.1) (by intro e; injection e with e; exact hne e))).trans h.1, (World.cell?_of_block (hon.block _ (cell_lt h.2) (by intro e; injection e with e; exact hne e))).trans h.2⟩
          go_upto_region 8 with fail
          go_cut [10, 11] from 26 to 71 (fun s10 s11 wx => s11 = .int .i64 (signE f c ds[k].s ds[k].l) ∧ Au wx g bm f c (tabK f c (ds.take (k + 1))) ∧ Below wX.heap.size wX wx)
          case first =>
            go_region_held3 (fun W => W.cell? (ad.add (k * 3)) = some (.int .i64 ds[k].s) ∧ W.cell? ⟨(ad.add (k * 3)).block, (ad.add (k * 3)).off + 1, none⟩ = some (.slice Ab ds[k].l.length cb)) (first | exact hS0 | exact hka _ _ (hkm _ _ hS0 (HMP.out _ hbC1) hg3) | exact hkm _ _ hS0 (HMP.out _ hbC1) hg3 | exact hka _ _ hS0 | exact hkm _ _ (hka _ _ hS0) (HMP.out _ hbC2) hg4 | exact hks _ _ _ (hkm _ _ (hka _ _ hS0) (HMP.out _ hbC2) hg4)) (first
              | (go_at_call 18; refine (HSG.out _ hbC1).mono ?_; rintro e w3 ⟨v3, rfl, hv3, hn3, hA3, hg3⟩; obtain ⟨A3, c3, rfl, -⟩ := hv3.open)
              | (go_at_call 18; refine (HSG.out _ hbC2).mono ?_; rintro e w4 ⟨v4, rfl, hv4, hn4, hA4, hg4⟩; obtain ⟨A4, c4, rfl, -⟩ := hv4.open; obtain ⟨q0, q1, q2, q3, -⟩ := Ev.open (hev2.kept hg4 (by intro e; injection e with e; omega))))
            · go_wp2_with fail
              go_meet
              have hB3 : Below wX.heap.size wX w3 := hbel.drew.grown hg3 (by have := hbel.size; exact this) (by intro k hk; injection hk with hk; omega)
              refine ⟨rfl, ?_, hB3.alloc hB3.size _⟩
              rw [HTK.out]
              exact hA3.below ((Below.refl _ _).alloc (Nat.le_refl _) _) (Nat.le_refl _)
            · go_wp2_with fail
              go_meet
              have hB4 : Below wX.heap.size wX w4 := (hbel.trans (hbC2.mono hbel.size)).grown hg4 (by have := (hbel.trans (hbC2.mono hbel.size)).size; exact this) (by intro k hk; injection hk with hk; omega)
              have hon : ∀ x y, w4.grownBy ((w4.setCell ⟨wr.heap.size, 0, none⟩ x).setCell ⟨wr.heap.size, 1, none⟩ y) (some wr.heap.size) := fun x y => Only.set (Only.set (Only.refl _ _) 0 _) 1 _
              refine ⟨rfl, ?_, hB4.grown (hon _ _) hB4.size (by intro k hk; injection hk with hk; have := hbel.size; omega)⟩
              rw [HTK.out]
              exact ⟨hA4.1.kept (hon _ _) (by intro e; injection e with e; have := hAu.1.lt; omega), hA4.2.kept (hon _ _) (by intro e; injection e with e; omega)⟩
          case rest =>
          obtain ⟨rfl, hAc, hBc⟩ := hcut
          clear hS0 hka hkm hks hbC1 hbC2 hev2 z0 z1 hbx
          obtain ⟨A', c', e, -, -, hx⟩ := HV.out.below hBc (Nat.le_refl _)
          injection e with e e2 e3
          subst e
          clear e2 e3
          obtain ⟨ad', bv', e, hadl', z0, z1, -, hbx, -⟩ := hx k hlt
          injection e with e
          subst e
          clear hx
          obtain ⟨Ac, cx, rfl, -⟩ := hbx.open
          obtain ⟨y0, y1, y2⟩ := three_cells HY1.out hBc (Nat.le_refl _)
          have hby := HYB.out.below hBc (Nat.le_refl _)
          rcases hb : there f c (ds.take k) y with _ | _
          · rcases he : (signE f c ds[k].s ds[k].l == 0) with _ | _
            · have HTH2 := Lib.hid (show there f c (ds.take (k + 1)) y = false by rw [HTH.out, hb, he]; rfl)
              clear hb
              go_wp2
              go_quiet (fail)
              go_wp2
              go_roundw
              case rel => exact ⟨k + 1, by omega, by go_num, by rw [HTH2.out], hAc.below (drewN_below rfl) (Nat.le_refl _), below_drewN hBc _⟩
              case measure => simp [intOf]; omega
            · by_cases hs : ds[k].s = y.s
              · rw [hs] at z0
                have hsm : ∀ n, Calls Try.prog 21 #[.slice Ac ds[k].l.length cx, .slice Ay y.l.length cy] (wc.drewN n) fun e w' => e = .returned (.bool (ds[k].l == y.l)) ∧ w' = wc.drewN n :=
                  fun n => (Same_any _ _ _ _ (wc.drewN n) (Rd.drewN hbx n) (Rd.drewN hby n)).mono fun e w' h => ⟨by rw [h.1], h.2.symm⟩
                rcases hl : (ds[k].l == y.l) with _ | _
                · rw [hl] at hsm
                  have HTH2 := Lib.hid (show there f c (ds.take (k + 1)) y = false by rw [HTH.out, hb, he, hl]; simp)
                  clear hb hl hs
                  go_wp2
                  go_quiet (first | (go_at_call 21; exact Calls.quiet_of_same (hsm _)))
                  go_wp2
                  go_roundw
                  case rel => exact ⟨k + 1, by omega, by go_num, by rw [HTH2.out], hAc.below (drewN_below rfl) (Nat.le_refl _), below_drewN hBc _⟩
                  case measure => simp [intOf]; omega
                · rw [hl] at hsm
                  have HTH2 := Lib.hid (show there f c (ds.take (k + 1)) y = true by rw [HTH.out, hb, he, hl]; simp [hs])
                  clear hb hl hs
                  go_wp2
                  go_quiet (first | (go_at_call 21; exact Calls.quiet_of_same (hsm _)))
                  go_wp2
                  go_roundw
                  case rel => exact ⟨k + 1, by omega, by go_num, by rw [HTH2.out], hAc.below (drewN_below rfl) (Nat.le_refl _), below_drewN hBc _⟩
                  case measure => simp [intOf]; omega
              · have hd : (ds[k].s == y.s) = false := by simpa using hs
                have HTH2 := Lib.hid (show there f c (ds.take (k + 1)) y = false by rw [HTH.out, hb, he]; simp [hs])
                clear hb hs
                go_wp2
                go_quiet (fail)
                go_wp2
                go_roundw
                case rel => exact ⟨k + 1, by omega, by go_num, by rw [HTH2.out], hAc.below (drewN_below rfl) (Nat.le_refl _), below_drewN hBc _⟩
                case measure => simp [intOf]; omega
          · have HTH2 := Lib.hid (show there f c (ds.take (k + 1)) y = true by rw [HTH.out, hb]; rfl)
            clear hb
            go_wp2
            go_quiet (fail)
            go_wp2
            go_roundw
            case rel => exact ⟨k + 1, by omega, by go_num, by rw [HTH2.out], hAc.below (drewN_below rfl) (Nat.le_refl _), below_drewN hBc _⟩
            case measure => simp [intOf]; omega
        · obtain rfl : k = ds.length := by omega
          rw [List.take_length] at hAu
          have hTl := tabK_le f c ds ds.length
          rw [List.take_length] at hTl
          obtain ⟨y0, y1, y2⟩ := three_cells HY1.out hbel (Nat.le_refl _)
          have hC := Check_any g bm f c y.s _ y.l _ wr hAu hys (HYB.out.below hbel (Nat.le_refl _)) (by omega)
          have hth := check_there f c ds y
          rw [show ds.take ds.length = ds from List.take_length] at *
          generalize checkE f c y.s y.l (tabK f c ds) = d at *
          have HAU := Lib.hid hAu
          clear hAu hTl
          rcases ht : there f c ds y with _ | _
          · rw [ht] at hth
            have HC := Lib.hid hC
            clear hC ht
            go_wp2_with (first
              | (go_at_call 16; refine HC.out.mono ?_; rintro e w3 ⟨rfl, hb3⟩)
              | (go_at_call 14; refine (awake3_any _).mono ?_; rintro e w8 ⟨rfl, hb8⟩))
            go_ret
            have h2 := hbX.trans ((hbel.trans (hb3.mono hbel.size)).mono hbX.size)
            exact ⟨rfl, h2.trans (hb8.mono h2.size)⟩
          · rw [ht] at hth
            have HC := Lib.hid hC
            clear hC ht
            go_wp2_with (first
              | (go_at_call 16; refine HC.out.mono ?_; rintro e w3 ⟨rfl, hb3⟩)
              | (go_at_call 14; refine (awake3_any _).mono ?_; rintro e w8 ⟨rfl, hb8⟩))
            go_ret
            have h2 := hbX.trans ((hbel.trans (hb3.mono hbel.size)).mono hbX.size)
            exact ⟨rfl, h2.trans (hb8.mono h2.size)⟩
end Go.Proofs.Ytlbbehhjehpefaa
