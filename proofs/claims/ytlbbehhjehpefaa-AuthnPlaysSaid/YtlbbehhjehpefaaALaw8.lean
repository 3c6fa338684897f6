/- Layer 3: AuthnPlays. -/
import Derived.Test.YtlbbehhjehpefaaAPlay
namespace Go.Proofs.Ytlbbehhjehpefaa
open Go.RowKit
set_option linter.unusedVariables false

set_option maxHeartbeats 2000000 in
set_option maxRecDepth 20000 in
theorem AuthnPlays_any (F C : Int) (v : Value) (ds : List Dd) (w : World) (hv : Ds w v ds) :
    Calls Try.prog 4 #[.agg #[.int .i64 F, .int .i64 C], v] w (Yes3 w) := by
  obtain ⟨i0, hi, hz0, hz1, hz2⟩ := info_parts u8info
  have hw1 : (w.alloc (.cells #[.int .i64 F, .int .i64 C] 23)).heap[w.heap.size]? = some (.cells #[.int .i64 F, .int .i64 C] 23 (0, 0)) := heap_alloc_new _ _
  have hb1 : Below w.heap.size w (w.alloc (.cells #[.int .i64 F, .int .i64 C] 23)) := (Below.refl _ _).alloc (Nat.le_refl _) _
  have HV := Lib.hid hv
  have hfew := fewD_any v ds _ (hv.below hb1 (Nat.le_refl _))
  obtain ⟨A, ca, rfl, -, -, -⟩ := id hv
  clear hv
  rcases hf : fewD ds with _ | _
  · rw [hf] at hfew
    have HFEW := Lib.hid hfew
    clear hfew hf
    go_enter Try.func4, Try.ntmps4
    go_wp2_with (first
      | (go_at_call 15; refine HFEW.out.mono ?_; rintro e w' ⟨rfl, hww⟩; rw [hww]; clear hww w'))
    go_ret
    exact ⟨rfl, hb1⟩
  · rw [hf] at hfew
    have HFEW := Lib.hid hfew
    obtain ⟨h100, h1000⟩ := fewD_iff.1 hf
    have H1000 := Lib.hid h1000
    clear hfew hf h1000
    go_enter Try.func4, Try.ntmps4
    go_upto_region 3 with (first
      | (go_at_call 15; refine HFEW.out.mono ?_; rintro e w' ⟨rfl, hww⟩; rw [hww]; clear hww w'))
    clear HFEW
    generalize w.alloc (.cells #[.int .i64 F, .int .i64 C] 23) = w1 at *
    go_cut [5, 6] from 17 to 26 (fun s5 s6 wx => ∃ g bm g2 v, s5 = .pointer (some ⟨g, 0, none⟩) ∧ s6 = .pointer (some ⟨g2, 0, none⟩) ∧ Both w wx g bm g2 v (clF F) (clC C))
    case first =>
      have hS0 := both_cells hw1 ((Below.refl _ _).drew)
      have hk : ∀ W W', (W.cell? ⟨w.heap.size, 0, none⟩ = some (.int .i64 F) ∧ W.cell? ⟨w.heap.size, 1, none⟩ = some (.int .i64 C)) → Below W.heap.size W W' → (W'.cell? ⟨w.heap.size, 0, none⟩ = some (.int .i64 F) ∧ W'.cell? ⟨w.heap.size, 1, none⟩ = some (.int .i64 C)) :=
        fun W W' h hb => ⟨(hb.cell (cell_lt h.1)).trans h.1, (hb.cell (cell_lt h.2)).trans h.2⟩
      go_region_held3 (fun W => W.cell? ⟨w.heap.size, 0, none⟩ = some (.int .i64 F) ∧ W.cell? ⟨w.heap.size, 1, none⟩ = some (.int .i64 C)) (first | exact hS0 | exact hk _ _ (by assumption) hbA | exact hk _ _ (by assumption) hbB) (first
        | (go_at_call 10; refine (New3_any F C _).mono ?_; rintro e wA ⟨g, bm, rfl, hg, hbm, hA, hbA⟩)
        | (go_at_call 11; refine (rNew_any F C _).mono ?_; rintro e wB ⟨g2, v, rfl, hg2, hD, hbB⟩))
      go_wp2_with fail
      go_meet
      exact ⟨g, bm, g2, v, rfl, rfl, Both.one (hb1.trans ((Below.refl _ _).drew.mono hb1.size)) hg hbm hA hbA hD hbB⟩
    case rest =>
    obtain ⟨g, bm, g2, va, rfl, rfl, hBoth⟩ := hcut
    generalize clF F = f at *
    generalize clC C = c at *
    have hPI0 : PI w wc g bm g2 f c va [] := ⟨hBoth.au, hBoth.dt, hBoth.below, hBoth.at_g, hBoth.at_bm⟩
    clear hBoth hw1 hb1
    go_wp2
    go_loopw [7] (fun i wr => ∃ k : Nat, k ≤ ds.length ∧ i = .int .i64 k ∧ ∃ v E, PI w wr g bm g2 f c v E ∧ E.length ≤ k) (fun i _ => ds.length - (intOf i).toNat)
    case atStart => exact ⟨0, Nat.zero_le _, rfl, va, [], hPI0, Nat.le_refl _⟩
    case round =>
      clear hPI0 va
      obtain ⟨k, hk, rfl, va, E, hPI, hEk⟩ := hrel
      by_cases hlt : k < ds.length
      · obtain ⟨A', c', e, -, -, hx⟩ := HV.out.below hPI.below (Nat.le_refl _)
        injection e with e e2 e3
        subst e
        clear e2 e3
        obtain ⟨ad, xb, rfl, hadl, z0, z1, z2, hbx, h64⟩ := hx k hlt
        clear hx
        obtain ⟨Ab, cb, rfl, -⟩ := hbx.open
        have hl9 : ds[k].l.length ≤ 1000 := H1000.out _ (List.getElem_mem hlt)
        have z1A : (wr.alloc (.cells #[] 5)).cell? ⟨(ad.add (k * 3)).block, (ad.add (k * 3)).off + 1, none⟩ = some (.slice Ab ds[k].l.length cb) := cell_later ((Below.refl wr.heap.size wr).alloc (Nat.le_refl _) _) z1
        have HBX := Lib.hid hbx
        clear hbx
        go_upto_region 8 with (first
          | (at_builtin; refine wpList_append_rdo _ rfl (.tmp 33) (.tmp 38) 34 rfl wr.heap.size 5 i0 (.int .u8 0) 1 Try.underlying34 hi hz0 hz1 hz2 rfl _ _ _ rfl (own_empty _ _ _ _ (Nat.le_refl _) rfl) _ _ rfl (HBX.out.below ((Below.refl wr.heap.size wr).alloc (Nat.le_refl _) _) (Nat.le_refl _)) (bc_one _) (by simp; unfold maxLen; omega) (by simp; omega) (by simp) ?_; intro v2 w2 hown2 hg2 ho2))
        have hb2 : Below wr.heap.size wr w2 := ((Below.refl wr.heap.size wr).alloc (Nat.le_refl _) _).grown hg2 (by simp) (by intro k h; injection h with h; simp only at h; omega)
        have hnw2 := New.of_own hown2
        have hbs2 : Bs w2 v2 ds[k].l := Rd.of_own (by simpa using hown2)
        obtain ⟨A2, c2, rfl, -, -, -, -⟩ := hbs2.open
        have hPI2 := hPI.step hb2
        clear hown2 hg2 ho2 z1A
        have y0 := cell_later hb2 z0
        have y1 := cell_later hb2 z1
        have y2 := cell_later hb2 z2
        have hbx2 := HBX.out.below hb2 (Nat.le_refl _)
        have HB2 := Lib.hid hbs2
        have HBX2 := Lib.hid hbx2
        clear z0 z1 z2 hbs2 hbx2
        rcases hask : ds[k].ask with _ | _
        · rw [hask] at y2
          clear hask
          have hPL : (pairsT E).length ≤ 1000000000 := by rw [pairsT_length]; omega
          go_upto_region 12 with (first
            | (go_at_call 18; refine (Sign_own g bm f c ds[k].s _ ds[k].l (pairsT E) _ hPI2.au h64 HB2.out (by omega) hPL).mono ?_; rintro e w3 ⟨v3, rfl, ho3, hA3, hg3⟩; obtain ⟨A3, c3, rfl⟩ := own_slice ho3))
          have hM := Mid.mk' hPI hb2 HB2.out hnw2 ho3 hA3 hg3 (.int .i64 (signS f c ds[k].s ds[k].l))
          clear ho3 hA3 hg3 y0 y1 y2
          have hsl : signT f c ds[k].s ds[k].l (pairsT E) = signT f c ds[k].s ds[k].l (pairsT E) := rfl
          have hTl := signT_length f c ds[k].s ds[k].l (pairsT E)
          rw [pairsT_length] at hTl
          obtain ⟨w4, hw4⟩ : ∃ w4, w4 = w3.alloc (.cells #[.int .i64 (signS f c ds[k].s ds[k].l), .slice A3 (signL f c ds[k].s ds[k].l).length c3] 40) := ⟨_, rfl⟩
          rw [← hw4] at hM ⊢
          clear hw4 hsl
          obtain ⟨A', c', e, -, -, hx⟩ := HV.out.below hM.below (Nat.le_refl _)
          injection e with e e2 e3
          subst e
          clear e2 e3
          obtain ⟨ad', xb', e, hadl', z0, z1, z2, hbx, -⟩ := hx k hlt
          injection e with e
          subst e
          clear hx z2
          obtain ⟨Ac, cx, rfl, -⟩ := hbx.open
          have HBX4 := Lib.hid hbx
          clear hbx
          have HRS : ∀ W, Below w4.heap.size w4 W → Calls Try.prog 19 #[.pointer (some ⟨g2, 0, none⟩), .int .i64 ds[k].s, .slice Ac ds[k].l.length cx] W (SignsR g2 f c ds[k].s ds[k].l E (S1 w wr g bm W.heap.size) W) := fun W hb =>
            rSign_any g2 f c ds[k].s va _ ds[k].l E _ W (hM.dtW hb) h64 (HBX4.out.below hb (Nat.le_refl _)) (by omega) (by omega) (hM.sW hb)
          have HRSh := Lib.hid HRS
          have HMh := Lib.hid hM
          have hbC1 : Below w4.heap.size w4 w4.drew := (Below.refl _ _).drew
          have hbC2 : Below w4.heap.size w4 (w4.alloc (.cells #[.int .i64 0, .slice none 0 0] 40)).drew := ((Below.refl _ _).alloc (Nat.le_refl _) _).drew
          have hev2 : Ev (w4.alloc (.cells #[.int .i64 0, .slice none 0 0] 40)).drew w4.heap.size (.int .i64 0) (.slice none 0 0) := heap_alloc_new _ _
          have hadlt : ad.block < w.heap.size := by
            obtain ⟨A', c', e, -, -, hx⟩ := HV.out
            injection e with e e2 e3
            subst e
            obtain ⟨ad0, xb0, e, h0, -⟩ := hx k hlt
            injection e with e
            subst e
            exact h0
          clear HRS
          have hsz2 : (w4.alloc (.cells #[.int .i64 0, .slice none 0 0] 40)).drew.heap.size = w4.heap.size + 1 := by simp
          have hlt2 : w4.heap.size < (w4.alloc (.cells #[.int .i64 0, .slice none 0 0] 40)).drew.heap.size := by omega
          have hs14 : wr.heap.size ≤ w4.heap.size := by have := hM.s2; have := hM.s3; have := hM.s4; omega
          have hno2 : ¬ S1 w wr g bm (w4.alloc (.cells #[.int .i64 0, .slice none 0 0] 40)).drew.heap.size w4.heap.size := fun hS => by
            rcases hS.2.2.2 with h | h <;> omega
          have HSZ2 := Lib.hid hsz2
          clear hsz2
          have hS0 : (w4.drew.cell? (ad.add (k * 3)) = some (.int .i64 ds[k].s) ∧ w4.drew.cell? ⟨(ad.add (k * 3)).block, (ad.add (k * 3)).off + 1, none⟩ = some (.slice Ac ds[k].l.length cx)) := ⟨z0, z1⟩
          have hka : ∀ (W : World) (o : Obj), (W.cell? (ad.add (k * 3)) = some (.int .i64 ds[k].s) ∧ W.cell? ⟨(ad.add (k * 3)).block, (ad.add (k * 3)).off + 1, none⟩ = some (.slice Ac ds[k].l.length cx)) → ((W.alloc o).cell? (ad.add (k * 3)) = some (.int .i64 ds[k].s) ∧ (W.alloc o).cell? ⟨(ad.add (k * 3)).block, (ad.add (k * 3)).off + 1, none⟩ = some (.slice Ac ds[k].l.length cx)) :=
            fun W o h => ⟨(((Below.refl W.heap.size W).alloc (Nat.le_refl _) o).cell (cell_lt h.1)).trans h.1, (((Below.refl W.heap.size W).alloc (Nat.le_refl _) o).cell (cell_lt h.2)).trans h.2⟩
          have hko : ∀ (W W' : World) (N : Nat), (W.cell? (ad.add (k * 3)) = some (.int .i64 ds[k].s) ∧ W.cell? ⟨(ad.add (k * 3)).block, (ad.add (k * 3)).off + 1, none⟩ = some (.slice Ac ds[k].l.length cx)) → Off (S1 w wr g bm N) W W' → (W'.cell? (ad.add (k * 3)) = some (.int .i64 ds[k].s) ∧ W'.cell? ⟨(ad.add (k * 3)).block, (ad.add (k * 3)).off + 1, none⟩ = some (.slice Ac ds[k].l.length cx)) := fun W W' N h ho =>
            ⟨(World.cell?_of_block (ho.block _ (cell_lt h.1) (fun hS => by have := hS.1; rw [block_add] at this; omega))).trans h.1, (World.cell?_of_block (ho.block _ (cell_lt h.2) (fun hS => by have := hS.1; simp only [block_add] at this; omega))).trans h.2⟩
          have hks : ∀ (W : World) (x y : Value), (W.cell? (ad.add (k * 3)) = some (.int .i64 ds[k].s) ∧ W.cell? ⟨(ad.add (k * 3)).block, (ad.add (k * 3)).off + 1, none⟩ = some (.slice Ac ds[k].l.length cx)) → (((W.setCell ⟨w4.heap.size, 0, none⟩ x).setCell ⟨w4.heap.size, 1, none⟩ y).cell? (ad.add (k * 3)) = some (.int .i64 ds[k].s) ∧ ((W.setCell ⟨w4.heap.size, 0, none⟩ x).setCell ⟨w4.heap.size, 1, none⟩ y).cell? ⟨(ad.add (k * 3)).block, (ad.add (k * 3)).off + 1, none⟩ = some (.slice Ac ds[k].l.length cx)) := fun W x y h => by
            have hon : W.grownBy ((W.setCell ⟨w4.heap.size, 0, none⟩ x).setCell ⟨w4.heap.size, 1, none⟩ y) (some w4.heap.size) := Only.set (Only.set (Only.refl _ _) 0 _) 1 _
            have hne : (ad.add (k * 3)).block ≠ w4.heap.size := by rw [block_add]; omega
            exact ⟨(World.cell?_of_block (hon.block _ (cell_lt h.1) (by intro e; injection e with e; exact hne e))).trans h.1, (World.cell?_of_block (hon.block _ (cell_lt h.2) (by intro e; injection e with e; exact hne e))).trans h.2⟩
          have HKA := Lib.hid hka
          have HKO := Lib.hid hko
          have HKS := Lib.hid hks
          clear hka hko hks hM
          go_cut [11, 12] from 27 to 131 (fun s11 s12 wx => ∃ hf vf v' E', s11 = .pointer (some ⟨hf, 0, none⟩) ∧ s12 = .int .i64 (signE f c ds[k].s ds[k].l) ∧ Ev wx hf (.int .i64 (signS f c ds[k].s ds[k].l)) vf ∧ Bs wx vf (signL f c ds[k].s ds[k].l) ∧
            E'.length ≤ k + 1 ∧ Aft w wx g bm g2 f c v' E' (.slice A2 ds[k].l.length c2) ds[k].l w3.heap.size (.int .i64 (signS f c ds[k].s ds[k].l)) (.slice A3 (signL f c ds[k].s ds[k].l).length c3) w2.heap.size (signL f c ds[k].s ds[k].l).length ((signL f c ds[k].s ds[k].l).map bc))
          case first =>
            go_region_held3 (fun W => W.cell? (ad.add (k * 3)) = some (.int .i64 ds[k].s) ∧ W.cell? ⟨(ad.add (k * 3)).block, (ad.add (k * 3)).off + 1, none⟩ = some (.slice Ac ds[k].l.length cx)) (first | exact hS0 | exact HKA.out _ _ (HKO.out _ _ _ hS0 ho5) | exact HKO.out _ _ _ hS0 ho5 | exact HKA.out _ _ hS0 | exact HKO.out _ _ _ (HKA.out _ _ hS0) ho6 | exact HKS.out _ _ _ (HKO.out _ _ _ (HKA.out _ _ hS0) ho6)) (first
              | (go_at_call 19; refine (HRSh.out _ hbC1).mono ?_; rintro e w5 ⟨v5, vf5, E5, rfl, hv5, hD5, hp5, ho5, hn5⟩; obtain ⟨A5, c5, rfl, -⟩ := hv5.open)
              | (go_at_call 19; refine (HRSh.out _ hbC2).mono ?_; rintro e w6 ⟨v6, vf6, E6, rfl, hv6, hD6, hp6, ho6, hn6⟩; obtain ⟨A6, c6, rfl, -⟩ := hv6.open; have hev6 := hev2.keep (ho6.block _ hlt2 hno2); obtain ⟨q0, q1, q2, q3, -⟩ := Ev.open hev6))
            · go_wp2_with fail
              go_meet
              have hlen := congrArg List.length hp5
              rw [pairsT_length] at hlen
              exact ⟨w5.heap.size, _, v5, E5, rfl, rfl, heap_alloc_new _ _, hv5.below ((Below.refl _ _).alloc (Nat.le_refl _) _) (Nat.le_refl _), by omega, HMh.out.aft hbC1 hD5 hp5 ho5 (World.grownBy_alloc w5 _ none) (by intro k hk; cases hk)⟩
            · go_wp2_with fail
              go_meet
              have hlen := congrArg List.length hp6
              rw [pairsT_length] at hlen
              have hon : ∀ x y, w6.grownBy ((w6.setCell ⟨w4.heap.size, 0, none⟩ x).setCell ⟨w4.heap.size, 1, none⟩ y) (some w4.heap.size) := fun x y => Only.set (Only.set (Only.refl _ _) 0 _) 1 _
              exact ⟨w4.heap.size, _, v6, E6, rfl, rfl, hev6.set2 _ _, hv6.grown (hon _ _) (fun _ k hk e => by injection e with e; have := hn6 k hk; omega), by omega, HMh.out.aft hbC2 hD6 hp6 ho6 (hon _ _) (by intro k hk; injection hk with hk; subst hk; exact ⟨Nat.le_refl _, hlt2⟩)⟩
          case rest =>
          obtain ⟨hf, vf, v', E', rfl, rfl, hevf, hbf, hE', hAft⟩ := hcut
          clear HRSh HMh hbC1 hbC2 hev2 HKA HKO HKS hS0 hno2 HSZ2 hlt2 HBX4 z0 z1 hPI hPI2 hTl hPL
          have hlS : (signL f c ds[k].s ds[k].l).length ≤ 1000 := by
            unfold signL
            split
            · exact hl9
            · exact Nat.zero_le _
          generalize signE f c ds[k].s ds[k].l = eE at *
          generalize signS f c ds[k].s ds[k].l = sS at *
          generalize signL f c ds[k].s ds[k].l = lS at *
          obtain ⟨Af, cf, rfl, -⟩ := hbf.open
          have hsame := rSame_yes sS _ _ lS wc (Rd.of_own hAft.own) hbf
          obtain ⟨d0, d1, -, -, -⟩ := hAft.ev.open
          obtain ⟨f0, f1, -, -, -⟩ := hevf.open
          have HSA := Lib.hid hsame
          have HAF := Lib.hid hAft
          clear hsame hbf hevf hAft
          go_wp2_with (first
            | (go_at_call 20; refine HSA.out.mono ?_; rintro e w7 ⟨rfl, hb7⟩; obtain ⟨d0', d1', -, -, -⟩ := (HAF.out.step hb7).ev.open))
          have hA7 := Lib.hid (HAF.out.step hb7)
          clear d0 d1 f0 f1 HSA HAF d0'
          go_loopw [13, 106] (fun _ i wq => ∃ j : Nat, j ≤ lS.length ∧ i = .int .i64 j ∧ w7.grownBy wq (Value.slice A3 lS.length c3).ownBlock ∧ (∀ ge, (Value.slice A3 lS.length c3).ownBlock = some ge → ∃ cur, wq.heap[ge]? = some (.cells cur 5 (0, 0)) ∧ lS.length ≤ cur.size)) (fun _ i _ => lS.length - (intOf i).toNat)
          case atStart => exact ⟨0, Nat.zero_le _, rfl, World.grownBy.refl _ _, own_room hA7.out.own⟩
          case round =>
            obtain ⟨j, hj, rfl, hgq, hrow⟩ := hrel
            by_cases hlt2 : j < lS.length
            · rcases hA7.out.own.2 with ⟨-, h0⟩ | ⟨ge, cap, cur0, e, -⟩
              · omega
              · injection e with e1 e2 e3
                subst e1 e3
                clear e2
                obtain ⟨cur, hcur, hsz⟩ := hrow ge rfl
                obtain ⟨⟨x, hcell⟩, hfz, cur', hcur', hsz'⟩ := row_write hcur (Nat.lt_of_lt_of_le hlt2 hsz) (.int .u8 238)
                obtain ⟨dq0, dq1, -, -, -⟩ := (hA7.out.write hgq).2.2.open
                have HCU := Lib.hid hcur'
                have HJ := Lib.hid (show j + 1 ≤ lS.length from hlt2)
                have HGQ := Lib.hid hgq
                clear hrow hcur hcur' hgq
                go_wp2
                go_roundw
                case rel => exact ⟨j + 1, HJ.out, by go_num, HGQ.out.trans (Only.set (Only.refl _ _) j _), fun ge' h => by injection h with h; subst h; exact ⟨cur', HCU.out, by have := HJ.out; omega⟩⟩
                case measure =>
                  have := HJ.out
                  simp [intOf]
                  omega
            · obtain rfl : j = lS.length := by omega
              obtain ⟨hPIq, hbodyq, -⟩ := hA7.out.write hgq
              obtain ⟨A', c', e, -, -, hx⟩ := HV.out.below hPIq.below (Nat.le_refl _)
              injection e with e e2 e3
              subst e
              clear e2 e3
              obtain ⟨ad', xb', e, hadl', z0, z1, z2, hbx, -⟩ := hx k hlt
              injection e with e
              subst e
              clear hx z2 z0
              obtain ⟨Ad, cd, rfl, -⟩ := hbx.open
              obtain ⟨dq0, dq1, -, -, -⟩ := (hA7.out.write hgq).2.2.open
              have HRW := Lib.hid hrow
              clear hrow
              have hsm : ∀ n, Calls Try.prog 21 #[.slice A2 ds[k].l.length c2, .slice Ad ds[k].l.length cd] (wr.drewN n) fun e w' => e = .returned (.bool true) ∧ w' = wr.drewN n :=
                fun n => (Same_any _ _ ds[k].l ds[k].l (wr.drewN n) (Rd.drewN hbodyq n) (Rd.drewN hbx n)).mono fun e w' h => ⟨by rw [h.1]; exact ret_bool (by simp), h.2.symm⟩
              have hsg : ∀ n, Calls Try.prog 12 #[.pointer (some ⟨g, 0, none⟩)] (wr.drewN n) (Says (.int .i64 (E'.length : Int)) (wr.drewN n)) :=
                fun n => by
                  have := Signed_any g bm f c (pairsT E') (wr.drewN n) hPIq.au
                  rwa [pairsT_length] at this
              obtain ⟨-, -, -, q3⟩ := hPIq.dt.head.open
              obtain ⟨Av, cv, rfl, -, -, -⟩ := hPIq.dt.open
              have zz1 := z1
              have HPIX := Lib.hid hPIq
              have HSM := Lib.hid hsm
              have HSG := Lib.hid hsg
              clear hsm hsg
              go_wp2
              go_quiet (first | (go_at_call 21; exact Calls.quiet_of_same (HSM.out _)) | (go_at_call 12; exact Calls.quiet_of_same (HSG.out _)))
              go_wp2
              go_roundw
              case rel => exact ⟨k + 1, by omega, by go_num, _, E', HPIX.out.step (drewN_below rfl), hE'⟩
              case measure => simp [intOf]; omega
        · rw [hask] at y2
          clear hask
          have HCK : ∀ W, Below w2.heap.size w2 W → Calls Try.prog 16 #[.pointer (some ⟨g, 0, none⟩), .agg #[.int .i64 ds[k].s, .slice A2 ds[k].l.length c2]] W fun e w' => e = .returned (.int .i64 (checkE f c ds[k].s ds[k].l (pairsT E))) ∧ Below W.heap.size W w' := fun W hb =>
            Check_any g bm f c ds[k].s _ ds[k].l (pairsT E) W (hPI2.au.below hb (Nat.le_refl _)) h64 (HB2.out.below hb (Nat.le_refl _)) (by omega)
          have HRK : ∀ W, Below w2.heap.size w2 W → Calls Try.prog 17 #[.pointer (some ⟨g2, 0, none⟩), .agg #[.int .i64 ds[k].s, .slice Ab ds[k].l.length cb]] W fun e w' => e = .returned (.int .i64 (checkE f c ds[k].s ds[k].l (pairsT E))) ∧ Below W.heap.size W w' := fun W hb =>
            rCheck_any g2 f c ds[k].s va _ ds[k].l E _ W (hPI2.dt.below hb) h64 (HBX2.out.below hb (Nat.le_refl _))
          generalize checkE f c ds[k].s ds[k].l (pairsT E) = d at *
          have HCKh := Lib.hid HCK
          have HRKh := Lib.hid HRK
          clear HCK HRK
          have hk2 : ∀ W W', (W.cell? (ad.add (k * 3)) = some (.int .i64 ds[k].s) ∧ W.cell? ⟨(ad.add (k * 3)).block, (ad.add (k * 3)).off + 1, none⟩ = some (.slice Ab ds[k].l.length cb)) → Below W.heap.size W W' → (W'.cell? (ad.add (k * 3)) = some (.int .i64 ds[k].s) ∧ W'.cell? ⟨(ad.add (k * 3)).block, (ad.add (k * 3)).off + 1, none⟩ = some (.slice Ab ds[k].l.length cb)) :=
            fun W W' h hb => ⟨(hb.cell (cell_lt h.1)).trans h.1, (hb.cell (cell_lt h.2)).trans h.2⟩
          have hS0 : w2.drew.cell? (ad.add (k * 3)) = some (.int .i64 ds[k].s) ∧ w2.drew.cell? ⟨(ad.add (k * 3)).block, (ad.add (k * 3)).off + 1, none⟩ = some (.slice Ab ds[k].l.length cb) := ⟨y0, y1⟩
          have hbd : Below w2.heap.size w2 w2.drew := (Below.refl _ _).drew
          go_upto_region 9 with fail
          go_region_held3 (fun W => W.cell? (ad.add (k * 3)) = some (.int .i64 ds[k].s) ∧ W.cell? ⟨(ad.add (k * 3)).block, (ad.add (k * 3)).off + 1, none⟩ = some (.slice Ab ds[k].l.length cb)) (first | exact hS0 | exact hk2 _ _ hS0 hbA | exact hk2 _ _ (hk2 _ _ hS0 hbA) hbB) (first
            | (go_at_call 16; refine (HCKh.out _ hbd).mono ?_; rintro e wA ⟨rfl, hbA⟩)
            | (go_at_call 17; refine (HRKh.out _ (hbd.trans hbA)).mono ?_; rintro e wB ⟨rfl, hbB⟩))
          have hb2B : Below w2.heap.size w2 wB := (hbd.trans hbA).trans (hbB.mono hbA.size)
          have hPIB := hPI2.step hb2B
          have hS9 := hk2 _ _ (hk2 _ _ hS0 hbA) hbB
          clear hk2 hS0
          have hbody20 := (HB2.out.below hb2B (Nat.le_refl _))
          have hsm : ∀ n, Calls Try.prog 21 #[.slice A2 ds[k].l.length c2, .slice Ab ds[k].l.length cb] (wB.drewN n) fun e w' => e = .returned (.bool true) ∧ w' = wB.drewN n :=
            fun n => (Same_any _ _ ds[k].l ds[k].l (wB.drewN n) (Rd.drewN (HB2.out.below hb2B (Nat.le_refl _)) n) (Rd.drewN (HBX2.out.below hb2B (Nat.le_refl _)) n)).mono fun e w' h => ⟨by rw [h.1]; exact ret_bool (by simp), h.2.symm⟩
          have hsg : ∀ n, Calls Try.prog 12 #[.pointer (some ⟨g, 0, none⟩)] (wB.drewN n) (Says (.int .i64 (E.length : Int)) (wB.drewN n)) :=
            fun n => by
              have := Signed_any g bm f c (pairsT E) (wB.drewN n) hPIB.au
              rwa [pairsT_length] at this
          obtain ⟨-, -, -, q3⟩ := hPIB.dt.head.open
          obtain ⟨Av, cv, rfl, -, -, -⟩ := hPIB.dt.open
          have zz1 := hS9.2
          have HPIX := Lib.hid hPIB
          have HSM := Lib.hid hsm
          have HSG := Lib.hid hsg
          clear hsm hsg hbody20
          go_wp2
          go_quiet (first | (go_at_call 21; exact Calls.quiet_of_same (HSM.out _)) | (go_at_call 12; exact Calls.quiet_of_same (HSG.out _)))
          go_wp2
          go_roundw
          case rel => exact ⟨k + 1, by omega, by go_num, _, E, HPIX.out.step (drewN_below rfl), (by omega)⟩
          case measure => simp [intOf]; omega
      · obtain rfl : k = ds.length := by omega
        have hB := hPI.below
        clear hPI
        go_wp2_with (first
          | (go_at_call 14; refine (awake3_any _).mono ?_; rintro e w8 ⟨rfl, hb8⟩))
        go_ret
        exact ⟨rfl, hB.trans (hb8.mono hB.size)⟩
end Go.Proofs.Ytlbbehhjehpefaa
