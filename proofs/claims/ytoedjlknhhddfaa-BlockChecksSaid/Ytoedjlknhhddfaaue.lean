/- ue: BLaw3 BLaw2 MLaws2 MApart MLaws3 MSound BLaw4 BLaw1 (made by shake.py). -/
import Derived.Test.Ytoedjlknhhddfaaud
namespace Go.Proofs.Ytoedjlknhhddfaa
open Go.RowKit
set_option linter.unusedVariables false
set_option linter.unusedSimpArgs false
set_option maxRecDepth 20000

set_option maxHeartbeats 8000000 in
theorem BlockChecks_any (b : Blk) (A : Option Addr) (c : Nat) (D : Option Addr) (d : Nat) (w : World) (hb : BlkK w b A c D d) : Calls Try.prog 3 #[agB b A c D d] w (Yes w) := by
  have x1 := heap_alloc_new w (.cells #[.int .i64 b.h, .string (strB b.prev), .slice A b.reqs.length c, .slice D b.ress.length d] 26)
  have x3 := alloc1B w (.cells #[.int .i64 b.h, .string (strB b.prev), .slice A b.reqs.length c, .slice D b.ress.length d] 26)
  have HF := Lib.hid (fun W (h : Below w.heap.size w W) => few10_any b A c D d W (hb.below h))
  have HW := Lib.hid (fun W => awake10_any W)
  have HB0 := Lib.hid x3
  generalize hw0 : (w.alloc (.cells #[.int .i64 b.h, .string (strB b.prev), .slice A b.reqs.length c, .slice D b.ress.length d] 26)) = w0 at *
  have HW0 := Lib.hid hw0
  have HX1 := Lib.hid x1
  have HK := Lib.hid (show ∀ W, Below w0.heap.size w0 W → (fun W => W.cell? ⟨w.heap.size, 0, none⟩ = some (.int .i64 b.h) ∧ W.cell? ⟨w.heap.size, 1, none⟩ = some (.string (strB b.prev)) ∧ W.cell? ⟨w.heap.size, 2, none⟩ = some (.slice A b.reqs.length c) ∧ W.cell? ⟨w.heap.size, 3, none⟩ = some (.slice D b.ress.length d)) W from fun W h => ⟨cellB (rowCell x1 0 _ rfl) h, cellB (rowCell x1 1 _ rfl) h, cellB (rowCell x1 2 _ rfl) h, cellB (rowCell x1 3 _ rfl) h⟩)
  clear x1 x3 hw0
  obtain ⟨p0, p1, p2, p3⟩ := HK.out w0 (Below.refl _ _)
  rcases hf : fewBB b with _ | _
  · rw [hf] at HF
    clear hf hb
    go_enter Try.func3, Try.ntmps3
    go_upto_region 1 with fail
    rw [HW0.out]
    go_wp2_with (first
      | (go_at_call 8; refine (HF.out _ HB0.out).mono ?_; rintro e w1 ⟨rfl, hb1⟩; have HB1 := Lib.hid hb1; clear hb1; obtain ⟨p0, p1, p2, p3⟩ := HK.out _ HB1.out))
    go_ret
    exact ⟨rfl, bel2M HB0.out HB1.out⟩
  rw [hf] at HF
  have fb := fewBB_iff.1 hf
  have hm := fb.q
  have hm2 := fb.r
  have HCK := Lib.hid (fun W => bCheck_any b A c D d W (by unfold maxLen; omega) (by unfold maxLen; omega))
  have HRK := Lib.hid (fun W => rbCheck_any b A c D d W (by unfold maxLen; omega) (by unfold maxLen; omega))
  have HHD := Lib.hid (fun W (h : Below w.heap.size w W) => bHeader_any b A c D d W (hb.below h) fb)
  have HRH := Lib.hid (fun W (h : Below w.heap.size w W) => rbHeader_any b A c D d W (hb.below h) fb)
  have hp := fb.p
  have hrt := fb.root
  have HDG := Lib.hid (fun W => bDigest_any b.h b.prev ((leavesB b).length : Nat) (rootB b) W (by omega) (by omega))
  have HRD := Lib.hid (fun W => rbDigest_any b.h b.prev ((leavesB b).length : Nat) (rootB b) W (by omega) (by omega))
  have HQ := Lib.hid hb.q.2.2.2
  have HR := Lib.hid hb.r.2.2.2
  have HD := Lib.hid fb.d
  unfold HdP at HHD HRH
  clear hf hb fb hp hrt
  generalize digB b.h b.prev ((leavesB b).length : Nat) (rootB b) = dg at *
  generalize checkB b = ck at *
  generalize rootB b = rt at *
  generalize (leavesB b).length = n at *
  go_enter Try.func3, Try.ntmps3
  go_upto_region 1 with fail
  rw [HW0.out]
  go_wp2_with (first
    | (go_at_call 8; refine (HF.out _ HB0.out).mono ?_; rintro e w1 ⟨rfl, hb1⟩; have HB1 := Lib.hid hb1; clear hb1; obtain ⟨p0, p1, p2, p3⟩ := HK.out _ HB1.out))
  go_loopw [3] (fun i wr => ∃ k : Nat, k ≤ b.reqs.length ∧ i = .int .i64 k ∧ Below w0.heap.size w0 wr) (fun i _ => b.reqs.length - (intOf i).toNat)
  case atStart => exact ⟨0, Nat.zero_le _, rfl, HB1.out⟩
  case round =>
    obtain ⟨k, hk, rfl, hbel⟩ := hrel
    have HBE := Lib.hid hbel
    clear hbel
    obtain ⟨p0, p1, p2, p3⟩ := HK.out wr HBE.out
    by_cases hlt : k < b.reqs.length ∧ k < b.ress.length
    · obtain ⟨hk1, hk2⟩ := hlt
      have hk1I : (k : Int) < (b.reqs.length : Int) := by omega
      have hk2I : (k : Int) < (b.ress.length : Int) := by omega
      obtain ⟨ad, rfl, hbl, hq⟩ := HQ.out k hk1
      obtain ⟨ae, rfl, hbe, hr⟩ := HR.out k hk2
      obtain ⟨c1, bv, c2, hbv⟩ := hq.below (bel2M HB0.out HBE.out) (by rw [block_add]; exact hbl)
      have c3 := cellM (bel2M HB0.out HBE.out) (by rw [block_add]; exact hbe) hr.1
      have c4 := cellM (p := ⟨(ae.add (k * 2)).block, (ae.add (k * 2)).off + 1, none⟩) (bel2M HB0.out HBE.out) (by rw [block_add]; exact hbe) hr.2
      have hlen := HD.out _ (List.getElem_mem hk1)
      generalize hreq : b.reqs[k] = rq at *
      generalize hres : b.ress[k] = rs at *
      obtain ⟨rq1, rq2⟩ := rq
      obtain ⟨rs1, rs2⟩ := rs
      have HL1 := Lib.hid (fun W (h : Below wr.heap.size wr W) => bLeaf_any (rq1, rq2) (rs1, rs2) bv W (hbv.below h (Nat.le_refl _)) (by have := hlen; simp only at this ⊢; omega))
      have HL2 := Lib.hid (fun W (h : Below wr.heap.size wr W) => rbLeaf_any (rq1, rq2) (rs1, rs2) bv W (hbv.below h (Nat.le_refl _)) (by have := hlen; simp only at this ⊢; omega))
      have HS := Lib.hid (show (fun W => W.cell? ⟨w.heap.size, 2, none⟩ = some (.slice (some ad) b.reqs.length c) ∧ W.cell? ⟨w.heap.size, 3, none⟩ = some (.slice (some ae) b.ress.length d) ∧ W.cell? (ad.add (k * 2)) = some (.int .i64 rq1) ∧ W.cell? ⟨(ad.add (k * 2)).block, (ad.add (k * 2)).off + 1, none⟩ = some bv ∧ W.cell? (ae.add (k * 2)) = some (.int .i64 rs1) ∧ W.cell? ⟨(ae.add (k * 2)).block, (ae.add (k * 2)).off + 1, none⟩ = some (.int .i64 rs2)) wr from ⟨p2, p3, c1, c2, c3, c4⟩)
      have HDR := Lib.hid (show Below wr.heap.size wr wr.drew from (Below.refl _ _).drew)
      clear hq hr c1 c2 c3 c4 hbv hlen hreq hres
      simp only at HL1 HL2
      generalize leafB (rq1, rq2) (rs1, rs2) = lf at *
      have HSM := Lib.hid (fun u v W (hu : Bs W u lf) (hv : Bs W v lf) => show Calls Try.prog 9 #[u, v] W fun e w' => e = .returned (.bool true) ∧ W = w' from by
        have := Same_any u v lf lf W hu hv
        simpa using this)
      go_upto_region 6 with fail
      go_region_held3 (fun W => W.cell? ⟨w.heap.size, 2, none⟩ = some (.slice (some ad) b.reqs.length c) ∧ W.cell? ⟨w.heap.size, 3, none⟩ = some (.slice (some ae) b.ress.length d) ∧ W.cell? (ad.add (k * 2)) = some (.int .i64 rq1) ∧ W.cell? ⟨(ad.add (k * 2)).block, (ad.add (k * 2)).off + 1, none⟩ = some bv ∧ W.cell? (ae.add (k * 2)) = some (.int .i64 rs1) ∧ W.cell? ⟨(ae.add (k * 2)).block, (ae.add (k * 2)).off + 1, none⟩ = some (.int .i64 rs2)) (first | exact SRw.below HS.out HDR.out | exact SRw.below HS.out HB2.out | exact SRw.below HS.out HB3.out) (first
        | (go_at_call 10; refine (HL1.out _ HDR.out).mono ?_; rintro e w2 ⟨v2, rfl, ho2, hb2⟩; have HV2 := Lib.hid (own_bs ho2); have HB2 := Lib.hid (bel2M HDR.out hb2); clear ho2 hb2)
        | (go_at_call 11; refine (HL2.out _ HB2.out).mono ?_; rintro e w3 ⟨v3, rfl, ho3, hb3⟩; have HV3 := Lib.hid (own_bs ho3); have HV4 := Lib.hid (Bs.below HV2.out hb3 (Nat.le_refl _)); have HB3 := Lib.hid (bel2M HB2.out hb3); clear ho3 hb3)
        | (go_at_call 9; refine (HSM.out _ _ _ HV4.out HV3.out).mono ?_; rintro e w4 ⟨rfl, rfl⟩))
      go_wp2
      go_roundw
      case rel => exact ⟨k + 1, by omega, by go_num, bel2M HBE.out HB3.out⟩
      case measure => simp [intOf]; omega
    · by_cases hk1 : k < b.reqs.length
      · have hk1I : (k : Int) < (b.reqs.length : Int) := by omega
        have hk2I : ¬ (k : Int) < (b.ress.length : Int) := by omega
        clear hlt
        go_upto_region 8 with fail
        have HBC := Lib.hid (show Below wr.heap.size wr wr.drew from (Below.refl _ _).drew)
        refine wp_region_held_drew (S := (fun W => W.cell? ⟨w.heap.size, 0, none⟩ = some (.int .i64 b.h) ∧ W.cell? ⟨w.heap.size, 1, none⟩ = some (.string (strB b.prev)) ∧ W.cell? ⟨w.heap.size, 2, none⟩ = some (.slice A b.reqs.length c) ∧ W.cell? ⟨w.heap.size, 3, none⟩ = some (.slice D b.ress.length d))) (by kernel_rfl) (HK.out _ (bel2M HBE.out HBC.out)) (fun hHeld => ?_)
        refine tk 0 ?_
        (try simp only [Act.put, sA, sB, sC])
        refine tk 2 ?_
        (try simp only [Act.put, sA, sB, sC])
        refine wpAnyH_norm (fuel' := 6) (listed' := #[true, false, true, false, false, false, false, false]) (by kernel_rfl) (by kernel_rfl) ?_
        refine wpAnyH_name (fun G hG => ?_)
        clear hHeld
        have st_1_3_4_5 : ∀ (g4 : Nat) (g5 : Nat) (W : World) (HBC : Hid (Below wr.heap.size wr W)) (G4 : Hid (W.heap[g4]? = some (.cells #[.int .i64 0, .string ⟨#[]⟩, .int .i64 0, .string ⟨#[]⟩] 37 (0, 0)))) (L4 : Hid (wr.heap.size ≤ g4 ∧ g4 < W.heap.size)) (G5 : Hid (W.heap[g5]? = some (.cells #[.int .i64 0, .string ⟨#[]⟩, .int .i64 0, .string ⟨#[]⟩] 37 (0, 0)))) (L5 : Hid (wr.heap.size ≤ g5 ∧ g5 < W.heap.size)) (NE : Hid (g4 ≠ g5)), G 2 #[true, true, true, true, true, true, false, false] ⟨#[agB b A c D d, .pointer (some ⟨w.heap.size, 0, none⟩), u2, .int .i64 (k : Nat), .pointer (some ⟨g4, 0, none⟩), .pointer (some ⟨g5, 0, none⟩), .agg #[.int .i64 b.h, .string (strB b.prev), .slice A b.reqs.length c, .slice D b.ress.length d], .bool true, .bool false, .int .i64 (k : Nat), .pointer (some ⟨w.heap.size, 2, none⟩), .slice A b.reqs.length c, .int .i64 (b.reqs.length : Nat), .bool true, .bool true, .int .i64 (k : Nat), .pointer (some ⟨w.heap.size, 3, none⟩), .slice D b.ress.length d, .int .i64 (b.ress.length : Nat), .bool false, .bool false, u21, u22, u23, u24, u25, u26, u27, u28, u29, u30, u31, u32, u33, u34, u35, u36, u37, u38, u39, u40, u41, u42, u43, u44, u45, u46, .agg #[.int .i64 b.h, .string (strB b.prev), .slice A b.reqs.length c, .slice D b.ress.length d], agH b.h b.prev (n : Nat) rt, .agg #[.int .i64 b.h, .string (strB b.prev), .slice A b.reqs.length c, .slice D b.ress.length d], agH b.h b.prev (n : Nat) rt, undef, undef, undef, undef, undef, undef, undef, undef, undef, undef, undef, undef, undef, undef, undef, undef, undef, undef, undef, undef], []⟩ W := by
          intro g4 g5 W HBC G4 L4 G5 L5 NE
          rw [hG]
          have hHeld : ((fun W => W.cell? ⟨w.heap.size, 0, none⟩ = some (.int .i64 b.h) ∧ W.cell? ⟨w.heap.size, 1, none⟩ = some (.string (strB b.prev)) ∧ W.cell? ⟨w.heap.size, 2, none⟩ = some (.slice A b.reqs.length c) ∧ W.cell? ⟨w.heap.size, 3, none⟩ = some (.slice D b.ress.length d))) W := HK.out _ (bel2M HBE.out HBC.out)
          have HWB := Lib.hid (show w.heap.size < g4 ∧ w.heap.size < g5 from by have h1 := L4.out.1; have h2 := L5.out.1; have h3 := (Array.getElem?_eq_some_iff.1 HX1.out).1; have h4 := HBE.out.size; omega)
          have HNE := Lib.hid (show g4 ≠ g5 from NE.out)
          refine wpAnyH_ready (rs := [6]) (by kernel_rfl) (by simp) ?_
          refine AllReadyH.cons (o := ?o27) ?g27 (fun K hK => ?j27) AllReadyH.nil
          case g27 => (simp only [gA, gB, gC]; rfl)
          refine step_store rfl 37 (.tmp 4) (.tmp 48) rfl g4 #[.int .i64 b.h, .string (strB b.prev), .int .i64 (n : Nat), .string (strB rt)] #[.int .i64 0, .string ⟨#[]⟩, .int .i64 0, .string ⟨#[]⟩] rfl rfl G4.out rfl (by kernel_rfl) (by intro u hu; simp at hu; rcases hu with rfl | rfl | rfl | rfl <;> rfl) ?_
          intro w6 hz4 ho4
          have HZ4 := Lib.hid hz4
          have HO4 := Lib.hid ho4
          have G5b := Lib.hid (onlyHeap ho4 G5.out (fun e => HNE.out e.symm))
          clear hz4 ho4
          refine hK.out _ _ ?_ (fun hHeld => ?_)
          · (try dsimp only); exact ⟨onlyCell HO4.out hHeld.1 (by have := HWB.out; simp only; omega), onlyCell HO4.out hHeld.2.1 (by have := HWB.out; simp only; omega), onlyCell HO4.out hHeld.2.2.1 (by have := HWB.out; simp only; omega), onlyCell HO4.out hHeld.2.2.2 (by have := HWB.out; simp only; omega)⟩
          clear hK K
          (try simp only [Act.put, sA, sB, sC])
          refine wpAnyH_ready (rs := [7]) (by kernel_rfl) (by simp) ?_
          refine AllReadyH.cons (o := ?o28) ?g28 (fun K hK => ?j28) AllReadyH.nil
          case g28 => (simp only [gA, gB, gC]; rfl)
          refine step_store rfl 37 (.tmp 5) (.tmp 50) rfl g5 #[.int .i64 b.h, .string (strB b.prev), .int .i64 (n : Nat), .string (strB rt)] #[.int .i64 0, .string ⟨#[]⟩, .int .i64 0, .string ⟨#[]⟩] rfl rfl G5b.out rfl (by kernel_rfl) (by intro u hu; simp at hu; rcases hu with rfl | rfl | rfl | rfl <;> rfl) ?_
          intro w7 hz5 ho5
          have HZ5 := Lib.hid hz5
          have HZ6 := Lib.hid (onlyHeap ho5 HZ4.out HNE.out)
          have HO5 := Lib.hid ho5
          clear hz5 ho5
          refine hK.out _ _ ?_ (fun hHeld => ?_)
          · (try dsimp only); exact ⟨onlyCell HO5.out hHeld.1 (by have := HWB.out; simp only; omega), onlyCell HO5.out hHeld.2.1 (by have := HWB.out; simp only; omega), onlyCell HO5.out hHeld.2.2.1 (by have := HWB.out; simp only; omega), onlyCell HO5.out hHeld.2.2.2 (by have := HWB.out; simp only; omega)⟩
          clear hK K
          (try simp only [Act.put, sA, sB, sC])
          refine wpAnyH_done (by kernel_rfl) ?_ _
          have HB7 := Lib.hid (show Below w0.heap.size w0 w7 from onlyBelow (onlyBelow (bel2M HBE.out HBC.out) HO4.out (by have := HBE.out.size; have := L4.out.1; omega) (Nat.le_refl _)) HO5.out (by have := HBE.out.size; have := L5.out.1; omega) (Nat.le_refl _))
          have HKK := Lib.hid (show ∀ W, Below w7.heap.size w7 W → (fun W => W.cell? ⟨w.heap.size, 0, none⟩ = some (.int .i64 b.h) ∧ W.cell? ⟨w.heap.size, 1, none⟩ = some (.string (strB b.prev)) ∧ W.cell? ⟨w.heap.size, 2, none⟩ = some (.slice A b.reqs.length c) ∧ W.cell? ⟨w.heap.size, 3, none⟩ = some (.slice D b.ress.length d) ∧ W.cell? ⟨g4, 0, none⟩ = some (.int .i64 b.h) ∧ W.cell? ⟨g4, 1, none⟩ = some (.string (strB b.prev)) ∧ W.cell? ⟨g4, 2, none⟩ = some (.int .i64 (n : Nat)) ∧ W.cell? ⟨g4, 3, none⟩ = some (.string (strB rt)) ∧ W.cell? ⟨g5, 0, none⟩ = some (.int .i64 b.h) ∧ W.cell? ⟨g5, 1, none⟩ = some (.string (strB b.prev)) ∧ W.cell? ⟨g5, 2, none⟩ = some (.int .i64 (n : Nat)) ∧ W.cell? ⟨g5, 3, none⟩ = some (.string (strB rt))) W from fun W h => ⟨(HK.out _ (bel2M HB7.out h)).1, (HK.out _ (bel2M HB7.out h)).2.1, (HK.out _ (bel2M HB7.out h)).2.2.1, (HK.out _ (bel2M HB7.out h)).2.2.2, cellB (rowCell HZ6.out 0 _ rfl) h, cellB (rowCell HZ6.out 1 _ rfl) h, cellB (rowCell HZ6.out 2 _ rfl) h, cellB (rowCell HZ6.out 3 _ rfl) h, cellB (rowCell HZ5.out 0 _ rfl) h, cellB (rowCell HZ5.out 1 _ rfl) h, cellB (rowCell HZ5.out 2 _ rfl) h, cellB (rowCell HZ5.out 3 _ rfl) h⟩)
          go_wp2
          have HBD := Lib.hid (show Below w7.heap.size w7 w7.drew from (Below.refl _ _).drew)
          go_region_held3 (fun W => W.cell? ⟨w.heap.size, 0, none⟩ = some (.int .i64 b.h) ∧ W.cell? ⟨w.heap.size, 1, none⟩ = some (.string (strB b.prev)) ∧ W.cell? ⟨w.heap.size, 2, none⟩ = some (.slice A b.reqs.length c) ∧ W.cell? ⟨w.heap.size, 3, none⟩ = some (.slice D b.ress.length d) ∧ W.cell? ⟨g4, 0, none⟩ = some (.int .i64 b.h) ∧ W.cell? ⟨g4, 1, none⟩ = some (.string (strB b.prev)) ∧ W.cell? ⟨g4, 2, none⟩ = some (.int .i64 (n : Nat)) ∧ W.cell? ⟨g4, 3, none⟩ = some (.string (strB rt)) ∧ W.cell? ⟨g5, 0, none⟩ = some (.int .i64 b.h) ∧ W.cell? ⟨g5, 1, none⟩ = some (.string (strB b.prev)) ∧ W.cell? ⟨g5, 2, none⟩ = some (.int .i64 (n : Nat)) ∧ W.cell? ⟨g5, 3, none⟩ = some (.string (strB rt))) (first | exact HKK.out _ HBD.out) (first
            | (go_at_call 14; refine (HCK.out _).mono ?_; rintro e wx ⟨rfl, hbm⟩; replace HBD := Lib.hid (bel2M HBD.out hbm); clear hbm)
            | (go_at_call 15; refine (HRK.out _).mono ?_; rintro e wx ⟨rfl, hbm⟩; replace HBD := Lib.hid (bel2M HBD.out hbm); clear hbm)
            | (go_at_call 16; refine (HDG.out _).mono ?_; rintro e wx ⟨rfl, hbm⟩; replace HBD := Lib.hid (bel2M HBD.out hbm); clear hbm)
            | (go_at_call 17; refine (HRD.out _).mono ?_; rintro e wx ⟨rfl, hbm⟩; replace HBD := Lib.hid (bel2M HBD.out hbm); clear hbm)
            | (go_at_call 18; refine (HW.out _).mono ?_; rintro e wx ⟨rfl, hbm⟩; replace HBD := Lib.hid (bel2M HBD.out hbm); clear hbm))
          go_wp2
          go_ret
          exact ⟨rfl, bel2M HB0.out (bel2M HB7.out HBD.out)⟩
        have st_1_4_5 : ∀ (g4 : Nat) (g5 : Nat) (W : World) (HBC : Hid (Below wr.heap.size wr W)) (G4 : Hid (W.heap[g4]? = some (.cells #[.int .i64 0, .string ⟨#[]⟩, .int .i64 0, .string ⟨#[]⟩] 37 (0, 0)))) (L4 : Hid (wr.heap.size ≤ g4 ∧ g4 < W.heap.size)) (G5 : Hid (W.heap[g5]? = some (.cells #[.int .i64 0, .string ⟨#[]⟩, .int .i64 0, .string ⟨#[]⟩] 37 (0, 0)))) (L5 : Hid (wr.heap.size ≤ g5 ∧ g5 < W.heap.size)) (NE : Hid (g4 ≠ g5)), G 3 #[true, true, true, false, true, true, false, false] ⟨#[agB b A c D d, .pointer (some ⟨w.heap.size, 0, none⟩), u2, .int .i64 (k : Nat), .pointer (some ⟨g4, 0, none⟩), .pointer (some ⟨g5, 0, none⟩), .agg #[.int .i64 b.h, .string (strB b.prev), .slice A b.reqs.length c, .slice D b.ress.length d], .bool true, .bool false, .int .i64 (k : Nat), .pointer (some ⟨w.heap.size, 2, none⟩), .slice A b.reqs.length c, .int .i64 (b.reqs.length : Nat), .bool true, .bool true, .int .i64 (k : Nat), .pointer (some ⟨w.heap.size, 3, none⟩), .slice D b.ress.length d, .int .i64 (b.ress.length : Nat), .bool false, .bool false, u21, u22, u23, u24, u25, u26, u27, u28, u29, u30, u31, u32, u33, u34, u35, u36, u37, u38, u39, u40, u41, u42, u43, u44, u45, u46, .agg #[.int .i64 b.h, .string (strB b.prev), .slice A b.reqs.length c, .slice D b.ress.length d], agH b.h b.prev (n : Nat) rt, .agg #[.int .i64 b.h, .string (strB b.prev), .slice A b.reqs.length c, .slice D b.ress.length d], undef, undef, undef, undef, undef, undef, undef, undef, undef, undef, undef, undef, undef, undef, undef, undef, undef, undef, undef, undef, undef], []⟩ W := by
          intro g4 g5 W HBC G4 L4 G5 L5 NE
          rw [hG]
          have hHeld : ((fun W => W.cell? ⟨w.heap.size, 0, none⟩ = some (.int .i64 b.h) ∧ W.cell? ⟨w.heap.size, 1, none⟩ = some (.string (strB b.prev)) ∧ W.cell? ⟨w.heap.size, 2, none⟩ = some (.slice A b.reqs.length c) ∧ W.cell? ⟨w.heap.size, 3, none⟩ = some (.slice D b.ress.length d))) W := HK.out _ (bel2M HBE.out HBC.out)
          refine wpAnyH_ready (rs := [3]) (by kernel_rfl) (by simp) ?_
          refine AllReadyH.cons (o := ?o29) ?g29 (fun K hK => ?j29) AllReadyH.nil
          case g29 => (simp only [gA, gB, gC]; rfl)
          case j29 =>
            go_simp
            (go_at_call 13; refine (HRH.out _ (bel2M HB0.out (bel2M HBE.out HBC.out))).mono ?_)
            rintro e wx ⟨rfl, hbm⟩
            refine hK.out _ _ (by (try dsimp only); exact HK.out _ (bel2M HBE.out (bel2M HBC.out hbm))) (fun _ => ?_)
            (try simp only [Act.put, sA, sB, sC])
            refine wpAnyH_norm (fuel' := 2) (listed' := #[true, true, true, true, true, true, false, false]) (by kernel_rfl) (by kernel_rfl) ?_
            have hst := st_1_3_4_5 g4 g5 _ (Lib.hid (bel2M HBC.out hbm)) (Lib.hid (heapB G4.out hbm)) (Lib.hid (⟨L4.out.1, Nat.lt_of_lt_of_le L4.out.2 hbm.size⟩)) (Lib.hid (heapB G5.out hbm)) (Lib.hid (⟨L5.out.1, Nat.lt_of_lt_of_le L5.out.2 hbm.size⟩)) (Lib.hid (NE.out))
            rw [hG] at hst
            exact hst
        have st_1_3_5 : ∀ (g5 : Nat) (W : World) (HBC : Hid (Below wr.heap.size wr W)) (G5 : Hid (W.heap[g5]? = some (.cells #[.int .i64 0, .string ⟨#[]⟩, .int .i64 0, .string ⟨#[]⟩] 37 (0, 0)))) (L5 : Hid (wr.heap.size ≤ g5 ∧ g5 < W.heap.size)), G 3 #[true, true, true, true, false, true, false, false] ⟨#[agB b A c D d, .pointer (some ⟨w.heap.size, 0, none⟩), u2, .int .i64 (k : Nat), undef, .pointer (some ⟨g5, 0, none⟩), .agg #[.int .i64 b.h, .string (strB b.prev), .slice A b.reqs.length c, .slice D b.ress.length d], .bool true, .bool false, .int .i64 (k : Nat), .pointer (some ⟨w.heap.size, 2, none⟩), .slice A b.reqs.length c, .int .i64 (b.reqs.length : Nat), .bool true, .bool true, .int .i64 (k : Nat), .pointer (some ⟨w.heap.size, 3, none⟩), .slice D b.ress.length d, .int .i64 (b.ress.length : Nat), .bool false, .bool false, u21, u22, u23, u24, u25, u26, u27, u28, u29, u30, u31, u32, u33, u34, u35, u36, u37, u38, u39, u40, u41, u42, u43, u44, u45, u46, .agg #[.int .i64 b.h, .string (strB b.prev), .slice A b.reqs.length c, .slice D b.ress.length d], agH b.h b.prev (n : Nat) rt, .agg #[.int .i64 b.h, .string (strB b.prev), .slice A b.reqs.length c, .slice D b.ress.length d], agH b.h b.prev (n : Nat) rt, undef, undef, undef, undef, undef, undef, undef, undef, undef, undef, undef, undef, undef, undef, undef, undef, undef, undef, undef, undef], []⟩ W := by
          intro g5 W HBC G5 L5
          rw [hG]
          have hHeld : ((fun W => W.cell? ⟨w.heap.size, 0, none⟩ = some (.int .i64 b.h) ∧ W.cell? ⟨w.heap.size, 1, none⟩ = some (.string (strB b.prev)) ∧ W.cell? ⟨w.heap.size, 2, none⟩ = some (.slice A b.reqs.length c) ∧ W.cell? ⟨w.heap.size, 3, none⟩ = some (.slice D b.ress.length d))) W := HK.out _ (bel2M HBE.out HBC.out)
          refine wpAnyH_ready (rs := [4]) (by kernel_rfl) (by simp) ?_
          refine AllReadyH.cons (o := ?o30) ?g30 (fun K hK => ?j30) AllReadyH.nil
          case g30 => (simp only [gA, gB, gC]; rfl)
          case j30 =>
            refine step_alloc rfl 37 rfl #[.int .i64 0, .string ⟨#[]⟩, .int .i64 0, .string ⟨#[]⟩] 37 (fun W => by go_simp) ?_
            intro g4 w' hg hbm hge
            have G4 := Lib.hid hg
            have L4 := Lib.hid (And.intro (Nat.le_trans HBC.out.size hge) (Array.getElem?_eq_some_iff.1 hg).1)
            refine hK.out _ _ (by (try dsimp only); exact HK.out _ (bel2M HBE.out (bel2M HBC.out hbm))) (fun _ => ?_)
            (try simp only [Act.put, sA, sB, sC])
            refine wpAnyH_norm (fuel' := 2) (listed' := #[true, true, true, true, true, true, false, false]) (by kernel_rfl) (by kernel_rfl) ?_
            have hst := st_1_3_4_5 g4 g5 _ (Lib.hid (bel2M HBC.out hbm)) G4 L4 (Lib.hid (heapB G5.out hbm)) (Lib.hid (⟨L5.out.1, Nat.lt_of_lt_of_le L5.out.2 hbm.size⟩)) (Lib.hid ((show g4 ≠ g5 from by have h1 := L5.out.2; omega)))
            rw [hG] at hst
            exact hst
        have st_1_3_4 : ∀ (g4 : Nat) (W : World) (HBC : Hid (Below wr.heap.size wr W)) (G4 : Hid (W.heap[g4]? = some (.cells #[.int .i64 0, .string ⟨#[]⟩, .int .i64 0, .string ⟨#[]⟩] 37 (0, 0)))) (L4 : Hid (wr.heap.size ≤ g4 ∧ g4 < W.heap.size)), G 3 #[true, true, true, true, true, false, false, false] ⟨#[agB b A c D d, .pointer (some ⟨w.heap.size, 0, none⟩), u2, .int .i64 (k : Nat), .pointer (some ⟨g4, 0, none⟩), undef, .agg #[.int .i64 b.h, .string (strB b.prev), .slice A b.reqs.length c, .slice D b.ress.length d], .bool true, .bool false, .int .i64 (k : Nat), .pointer (some ⟨w.heap.size, 2, none⟩), .slice A b.reqs.length c, .int .i64 (b.reqs.length : Nat), .bool true, .bool true, .int .i64 (k : Nat), .pointer (some ⟨w.heap.size, 3, none⟩), .slice D b.ress.length d, .int .i64 (b.ress.length : Nat), .bool false, .bool false, u21, u22, u23, u24, u25, u26, u27, u28, u29, u30, u31, u32, u33, u34, u35, u36, u37, u38, u39, u40, u41, u42, u43, u44, u45, u46, .agg #[.int .i64 b.h, .string (strB b.prev), .slice A b.reqs.length c, .slice D b.ress.length d], agH b.h b.prev (n : Nat) rt, .agg #[.int .i64 b.h, .string (strB b.prev), .slice A b.reqs.length c, .slice D b.ress.length d], agH b.h b.prev (n : Nat) rt, undef, undef, undef, undef, undef, undef, undef, undef, undef, undef, undef, undef, undef, undef, undef, undef, undef, undef, undef, undef], []⟩ W := by
          intro g4 W HBC G4 L4
          rw [hG]
          have hHeld : ((fun W => W.cell? ⟨w.heap.size, 0, none⟩ = some (.int .i64 b.h) ∧ W.cell? ⟨w.heap.size, 1, none⟩ = some (.string (strB b.prev)) ∧ W.cell? ⟨w.heap.size, 2, none⟩ = some (.slice A b.reqs.length c) ∧ W.cell? ⟨w.heap.size, 3, none⟩ = some (.slice D b.ress.length d))) W := HK.out _ (bel2M HBE.out HBC.out)
          refine wpAnyH_ready (rs := [5]) (by kernel_rfl) (by simp) ?_
          refine AllReadyH.cons (o := ?o31) ?g31 (fun K hK => ?j31) AllReadyH.nil
          case g31 => (simp only [gA, gB, gC]; rfl)
          case j31 =>
            refine step_alloc rfl 37 rfl #[.int .i64 0, .string ⟨#[]⟩, .int .i64 0, .string ⟨#[]⟩] 37 (fun W => by go_simp) ?_
            intro g5 w' hg hbm hge
            have G5 := Lib.hid hg
            have L5 := Lib.hid (And.intro (Nat.le_trans HBC.out.size hge) (Array.getElem?_eq_some_iff.1 hg).1)
            refine hK.out _ _ (by (try dsimp only); exact HK.out _ (bel2M HBE.out (bel2M HBC.out hbm))) (fun _ => ?_)
            (try simp only [Act.put, sA, sB, sC])
            refine wpAnyH_norm (fuel' := 2) (listed' := #[true, true, true, true, true, true, false, false]) (by kernel_rfl) (by kernel_rfl) ?_
            have hst := st_1_3_4_5 g4 g5 _ (Lib.hid (bel2M HBC.out hbm)) (Lib.hid (heapB G4.out hbm)) (Lib.hid (⟨L4.out.1, Nat.lt_of_lt_of_le L4.out.2 hbm.size⟩)) G5 L5 (Lib.hid ((show g4 ≠ g5 from by have h1 := L4.out.2; omega)))
            rw [hG] at hst
            exact hst
        have st_4_5 : ∀ (g4 : Nat) (g5 : Nat) (W : World) (HBC : Hid (Below wr.heap.size wr W)) (G4 : Hid (W.heap[g4]? = some (.cells #[.int .i64 0, .string ⟨#[]⟩, .int .i64 0, .string ⟨#[]⟩] 37 (0, 0)))) (L4 : Hid (wr.heap.size ≤ g4 ∧ g4 < W.heap.size)) (G5 : Hid (W.heap[g5]? = some (.cells #[.int .i64 0, .string ⟨#[]⟩, .int .i64 0, .string ⟨#[]⟩] 37 (0, 0)))) (L5 : Hid (wr.heap.size ≤ g5 ∧ g5 < W.heap.size)) (NE : Hid (g4 ≠ g5)), G 4 #[true, false, true, false, true, true, false, false] ⟨#[agB b A c D d, .pointer (some ⟨w.heap.size, 0, none⟩), u2, .int .i64 (k : Nat), .pointer (some ⟨g4, 0, none⟩), .pointer (some ⟨g5, 0, none⟩), .agg #[.int .i64 b.h, .string (strB b.prev), .slice A b.reqs.length c, .slice D b.ress.length d], .bool true, .bool false, .int .i64 (k : Nat), .pointer (some ⟨w.heap.size, 2, none⟩), .slice A b.reqs.length c, .int .i64 (b.reqs.length : Nat), .bool true, .bool true, .int .i64 (k : Nat), .pointer (some ⟨w.heap.size, 3, none⟩), .slice D b.ress.length d, .int .i64 (b.ress.length : Nat), .bool false, .bool false, u21, u22, u23, u24, u25, u26, u27, u28, u29, u30, u31, u32, u33, u34, u35, u36, u37, u38, u39, u40, u41, u42, u43, u44, u45, u46, .agg #[.int .i64 b.h, .string (strB b.prev), .slice A b.reqs.length c, .slice D b.ress.length d], undef, .agg #[.int .i64 b.h, .string (strB b.prev), .slice A b.reqs.length c, .slice D b.ress.length d], undef, undef, undef, undef, undef, undef, undef, undef, undef, undef, undef, undef, undef, undef, undef, undef, undef, undef, undef, undef, undef], []⟩ W := by
          intro g4 g5 W HBC G4 L4 G5 L5 NE
          rw [hG]
          have hHeld : ((fun W => W.cell? ⟨w.heap.size, 0, none⟩ = some (.int .i64 b.h) ∧ W.cell? ⟨w.heap.size, 1, none⟩ = some (.string (strB b.prev)) ∧ W.cell? ⟨w.heap.size, 2, none⟩ = some (.slice A b.reqs.length c) ∧ W.cell? ⟨w.heap.size, 3, none⟩ = some (.slice D b.ress.length d))) W := HK.out _ (bel2M HBE.out HBC.out)
          refine wpAnyH_ready (rs := [1]) (by kernel_rfl) (by simp) ?_
          refine AllReadyH.cons (o := ?o32) ?g32 (fun K hK => ?j32) AllReadyH.nil
          case g32 => (simp only [gA, gB, gC]; rfl)
          case j32 =>
            go_simp
            (go_at_call 12; refine (HHD.out _ (bel2M HB0.out (bel2M HBE.out HBC.out))).mono ?_)
            rintro e wx ⟨rfl, hbm⟩
            refine hK.out _ _ (by (try dsimp only); exact HK.out _ (bel2M HBE.out (bel2M HBC.out hbm))) (fun _ => ?_)
            (try simp only [Act.put, sA, sB, sC])
            refine wpAnyH_norm (fuel' := 3) (listed' := #[true, true, true, false, true, true, false, false]) (by kernel_rfl) (by kernel_rfl) ?_
            have hst := st_1_4_5 g4 g5 _ (Lib.hid (bel2M HBC.out hbm)) (Lib.hid (heapB G4.out hbm)) (Lib.hid (⟨L4.out.1, Nat.lt_of_lt_of_le L4.out.2 hbm.size⟩)) (Lib.hid (heapB G5.out hbm)) (Lib.hid (⟨L5.out.1, Nat.lt_of_lt_of_le L5.out.2 hbm.size⟩)) (Lib.hid (NE.out))
            rw [hG] at hst
            exact hst
        have st_1_5 : ∀ (g5 : Nat) (W : World) (HBC : Hid (Below wr.heap.size wr W)) (G5 : Hid (W.heap[g5]? = some (.cells #[.int .i64 0, .string ⟨#[]⟩, .int .i64 0, .string ⟨#[]⟩] 37 (0, 0)))) (L5 : Hid (wr.heap.size ≤ g5 ∧ g5 < W.heap.size)), G 4 #[true, true, true, false, false, true, false, false] ⟨#[agB b A c D d, .pointer (some ⟨w.heap.size, 0, none⟩), u2, .int .i64 (k : Nat), undef, .pointer (some ⟨g5, 0, none⟩), .agg #[.int .i64 b.h, .string (strB b.prev), .slice A b.reqs.length c, .slice D b.ress.length d], .bool true, .bool false, .int .i64 (k : Nat), .pointer (some ⟨w.heap.size, 2, none⟩), .slice A b.reqs.length c, .int .i64 (b.reqs.length : Nat), .bool true, .bool true, .int .i64 (k : Nat), .pointer (some ⟨w.heap.size, 3, none⟩), .slice D b.ress.length d, .int .i64 (b.ress.length : Nat), .bool false, .bool false, u21, u22, u23, u24, u25, u26, u27, u28, u29, u30, u31, u32, u33, u34, u35, u36, u37, u38, u39, u40, u41, u42, u43, u44, u45, u46, .agg #[.int .i64 b.h, .string (strB b.prev), .slice A b.reqs.length c, .slice D b.ress.length d], agH b.h b.prev (n : Nat) rt, .agg #[.int .i64 b.h, .string (strB b.prev), .slice A b.reqs.length c, .slice D b.ress.length d], undef, undef, undef, undef, undef, undef, undef, undef, undef, undef, undef, undef, undef, undef, undef, undef, undef, undef, undef, undef, undef], []⟩ W := by
          intro g5 W HBC G5 L5
          rw [hG]
          have hHeld : ((fun W => W.cell? ⟨w.heap.size, 0, none⟩ = some (.int .i64 b.h) ∧ W.cell? ⟨w.heap.size, 1, none⟩ = some (.string (strB b.prev)) ∧ W.cell? ⟨w.heap.size, 2, none⟩ = some (.slice A b.reqs.length c) ∧ W.cell? ⟨w.heap.size, 3, none⟩ = some (.slice D b.ress.length d))) W := HK.out _ (bel2M HBE.out HBC.out)
          refine wpAnyH_ready (rs := [3, 4]) (by kernel_rfl) (by simp) ?_
          refine AllReadyH.cons (o := ?o33) ?g33 (fun K hK => ?j33) (AllReadyH.cons (o := ?o34) ?g34 (fun K hK => ?j34) AllReadyH.nil)
          case g33 => (simp only [gA, gB, gC]; rfl)
          case g34 => (simp only [gA, gB, gC]; rfl)
          case j33 =>
            go_simp
            (go_at_call 13; refine (HRH.out _ (bel2M HB0.out (bel2M HBE.out HBC.out))).mono ?_)
            rintro e wx ⟨rfl, hbm⟩
            refine hK.out _ _ (by (try dsimp only); exact HK.out _ (bel2M HBE.out (bel2M HBC.out hbm))) (fun _ => ?_)
            (try simp only [Act.put, sA, sB, sC])
            refine wpAnyH_norm (fuel' := 3) (listed' := #[true, true, true, true, false, true, false, false]) (by kernel_rfl) (by kernel_rfl) ?_
            have hst := st_1_3_5 g5 _ (Lib.hid (bel2M HBC.out hbm)) (Lib.hid (heapB G5.out hbm)) (Lib.hid (⟨L5.out.1, Nat.lt_of_lt_of_le L5.out.2 hbm.size⟩))
            rw [hG] at hst
            exact hst
          case j34 =>
            refine step_alloc rfl 37 rfl #[.int .i64 0, .string ⟨#[]⟩, .int .i64 0, .string ⟨#[]⟩] 37 (fun W => by go_simp) ?_
            intro g4 w' hg hbm hge
            have G4 := Lib.hid hg
            have L4 := Lib.hid (And.intro (Nat.le_trans HBC.out.size hge) (Array.getElem?_eq_some_iff.1 hg).1)
            refine hK.out _ _ (by (try dsimp only); exact HK.out _ (bel2M HBE.out (bel2M HBC.out hbm))) (fun _ => ?_)
            (try simp only [Act.put, sA, sB, sC])
            refine wpAnyH_norm (fuel' := 3) (listed' := #[true, true, true, false, true, true, false, false]) (by kernel_rfl) (by kernel_rfl) ?_
            have hst := st_1_4_5 g4 g5 _ (Lib.hid (bel2M HBC.out hbm)) G4 L4 (Lib.hid (heapB G5.out hbm)) (Lib.hid (⟨L5.out.1, Nat.lt_of_lt_of_le L5.out.2 hbm.size⟩)) (Lib.hid ((show g4 ≠ g5 from by have h1 := L5.out.2; omega)))
            rw [hG] at hst
            exact hst
        have st_1_4 : ∀ (g4 : Nat) (W : World) (HBC : Hid (Below wr.heap.size wr W)) (G4 : Hid (W.heap[g4]? = some (.cells #[.int .i64 0, .string ⟨#[]⟩, .int .i64 0, .string ⟨#[]⟩] 37 (0, 0)))) (L4 : Hid (wr.heap.size ≤ g4 ∧ g4 < W.heap.size)), G 4 #[true, true, true, false, true, false, false, false] ⟨#[agB b A c D d, .pointer (some ⟨w.heap.size, 0, none⟩), u2, .int .i64 (k : Nat), .pointer (some ⟨g4, 0, none⟩), undef, .agg #[.int .i64 b.h, .string (strB b.prev), .slice A b.reqs.length c, .slice D b.ress.length d], .bool true, .bool false, .int .i64 (k : Nat), .pointer (some ⟨w.heap.size, 2, none⟩), .slice A b.reqs.length c, .int .i64 (b.reqs.length : Nat), .bool true, .bool true, .int .i64 (k : Nat), .pointer (some ⟨w.heap.size, 3, none⟩), .slice D b.ress.length d, .int .i64 (b.ress.length : Nat), .bool false, .bool false, u21, u22, u23, u24, u25, u26, u27, u28, u29, u30, u31, u32, u33, u34, u35, u36, u37, u38, u39, u40, u41, u42, u43, u44, u45, u46, .agg #[.int .i64 b.h, .string (strB b.prev), .slice A b.reqs.length c, .slice D b.ress.length d], agH b.h b.prev (n : Nat) rt, .agg #[.int .i64 b.h, .string (strB b.prev), .slice A b.reqs.length c, .slice D b.ress.length d], undef, undef, undef, undef, undef, undef, undef, undef, undef, undef, undef, undef, undef, undef, undef, undef, undef, undef, undef, undef, undef], []⟩ W := by
          intro g4 W HBC G4 L4
          rw [hG]
          have hHeld : ((fun W => W.cell? ⟨w.heap.size, 0, none⟩ = some (.int .i64 b.h) ∧ W.cell? ⟨w.heap.size, 1, none⟩ = some (.string (strB b.prev)) ∧ W.cell? ⟨w.heap.size, 2, none⟩ = some (.slice A b.reqs.length c) ∧ W.cell? ⟨w.heap.size, 3, none⟩ = some (.slice D b.ress.length d))) W := HK.out _ (bel2M HBE.out HBC.out)
          refine wpAnyH_ready (rs := [3, 5]) (by kernel_rfl) (by simp) ?_
          refine AllReadyH.cons (o := ?o35) ?g35 (fun K hK => ?j35) (AllReadyH.cons (o := ?o36) ?g36 (fun K hK => ?j36) AllReadyH.nil)
          case g35 => (simp only [gA, gB, gC]; rfl)
          case g36 => (simp only [gA, gB, gC]; rfl)
          case j35 =>
            go_simp
            (go_at_call 13; refine (HRH.out _ (bel2M HB0.out (bel2M HBE.out HBC.out))).mono ?_)
            rintro e wx ⟨rfl, hbm⟩
            refine hK.out _ _ (by (try dsimp only); exact HK.out _ (bel2M HBE.out (bel2M HBC.out hbm))) (fun _ => ?_)
            (try simp only [Act.put, sA, sB, sC])
            refine wpAnyH_norm (fuel' := 3) (listed' := #[true, true, true, true, true, false, false, false]) (by kernel_rfl) (by kernel_rfl) ?_
            have hst := st_1_3_4 g4 _ (Lib.hid (bel2M HBC.out hbm)) (Lib.hid (heapB G4.out hbm)) (Lib.hid (⟨L4.out.1, Nat.lt_of_lt_of_le L4.out.2 hbm.size⟩))
            rw [hG] at hst
            exact hst
          case j36 =>
            refine step_alloc rfl 37 rfl #[.int .i64 0, .string ⟨#[]⟩, .int .i64 0, .string ⟨#[]⟩] 37 (fun W => by go_simp) ?_
            intro g5 w' hg hbm hge
            have G5 := Lib.hid hg
            have L5 := Lib.hid (And.intro (Nat.le_trans HBC.out.size hge) (Array.getElem?_eq_some_iff.1 hg).1)
            refine hK.out _ _ (by (try dsimp only); exact HK.out _ (bel2M HBE.out (bel2M HBC.out hbm))) (fun _ => ?_)
            (try simp only [Act.put, sA, sB, sC])
            refine wpAnyH_norm (fuel' := 3) (listed' := #[true, true, true, false, true, true, false, false]) (by kernel_rfl) (by kernel_rfl) ?_
            have hst := st_1_4_5 g4 g5 _ (Lib.hid (bel2M HBC.out hbm)) (Lib.hid (heapB G4.out hbm)) (Lib.hid (⟨L4.out.1, Nat.lt_of_lt_of_le L4.out.2 hbm.size⟩)) G5 L5 (Lib.hid ((show g4 ≠ g5 from by have h1 := L4.out.2; omega)))
            rw [hG] at hst
            exact hst
        have st_1_3 : ∀  (W : World) (HBC : Hid (Below wr.heap.size wr W)) , G 4 #[true, true, true, true, false, false, false, false] ⟨#[agB b A c D d, .pointer (some ⟨w.heap.size, 0, none⟩), u2, .int .i64 (k : Nat), undef, undef, .agg #[.int .i64 b.h, .string (strB b.prev), .slice A b.reqs.length c, .slice D b.ress.length d], .bool true, .bool false, .int .i64 (k : Nat), .pointer (some ⟨w.heap.size, 2, none⟩), .slice A b.reqs.length c, .int .i64 (b.reqs.length : Nat), .bool true, .bool true, .int .i64 (k : Nat), .pointer (some ⟨w.heap.size, 3, none⟩), .slice D b.ress.length d, .int .i64 (b.ress.length : Nat), .bool false, .bool false, u21, u22, u23, u24, u25, u26, u27, u28, u29, u30, u31, u32, u33, u34, u35, u36, u37, u38, u39, u40, u41, u42, u43, u44, u45, u46, .agg #[.int .i64 b.h, .string (strB b.prev), .slice A b.reqs.length c, .slice D b.ress.length d], agH b.h b.prev (n : Nat) rt, .agg #[.int .i64 b.h, .string (strB b.prev), .slice A b.reqs.length c, .slice D b.ress.length d], agH b.h b.prev (n : Nat) rt, undef, undef, undef, undef, undef, undef, undef, undef, undef, undef, undef, undef, undef, undef, undef, undef, undef, undef, undef, undef], []⟩ W := by
          intro  W HBC 
          rw [hG]
          have hHeld : ((fun W => W.cell? ⟨w.heap.size, 0, none⟩ = some (.int .i64 b.h) ∧ W.cell? ⟨w.heap.size, 1, none⟩ = some (.string (strB b.prev)) ∧ W.cell? ⟨w.heap.size, 2, none⟩ = some (.slice A b.reqs.length c) ∧ W.cell? ⟨w.heap.size, 3, none⟩ = some (.slice D b.ress.length d))) W := HK.out _ (bel2M HBE.out HBC.out)
          refine wpAnyH_ready (rs := [4, 5]) (by kernel_rfl) (by simp) ?_
          refine AllReadyH.cons (o := ?o37) ?g37 (fun K hK => ?j37) (AllReadyH.cons (o := ?o38) ?g38 (fun K hK => ?j38) AllReadyH.nil)
          case g37 => (simp only [gA, gB, gC]; rfl)
          case g38 => (simp only [gA, gB, gC]; rfl)
          case j37 =>
            refine step_alloc rfl 37 rfl #[.int .i64 0, .string ⟨#[]⟩, .int .i64 0, .string ⟨#[]⟩] 37 (fun W => by go_simp) ?_
            intro g4 w' hg hbm hge
            have G4 := Lib.hid hg
            have L4 := Lib.hid (And.intro (Nat.le_trans HBC.out.size hge) (Array.getElem?_eq_some_iff.1 hg).1)
            refine hK.out _ _ (by (try dsimp only); exact HK.out _ (bel2M HBE.out (bel2M HBC.out hbm))) (fun _ => ?_)
            (try simp only [Act.put, sA, sB, sC])
            refine wpAnyH_norm (fuel' := 3) (listed' := #[true, true, true, true, true, false, false, false]) (by kernel_rfl) (by kernel_rfl) ?_
            have hst := st_1_3_4 g4 _ (Lib.hid (bel2M HBC.out hbm)) G4 L4
            rw [hG] at hst
            exact hst
          case j38 =>
            refine step_alloc rfl 37 rfl #[.int .i64 0, .string ⟨#[]⟩, .int .i64 0, .string ⟨#[]⟩] 37 (fun W => by go_simp) ?_
            intro g5 w' hg hbm hge
            have G5 := Lib.hid hg
            have L5 := Lib.hid (And.intro (Nat.le_trans HBC.out.size hge) (Array.getElem?_eq_some_iff.1 hg).1)
            refine hK.out _ _ (by (try dsimp only); exact HK.out _ (bel2M HBE.out (bel2M HBC.out hbm))) (fun _ => ?_)
            (try simp only [Act.put, sA, sB, sC])
            refine wpAnyH_norm (fuel' := 3) (listed' := #[true, true, true, true, false, true, false, false]) (by kernel_rfl) (by kernel_rfl) ?_
            have hst := st_1_3_5 g5 _ (Lib.hid (bel2M HBC.out hbm)) G5 L5
            rw [hG] at hst
            exact hst
        have st_5 : ∀ (g5 : Nat) (W : World) (HBC : Hid (Below wr.heap.size wr W)) (G5 : Hid (W.heap[g5]? = some (.cells #[.int .i64 0, .string ⟨#[]⟩, .int .i64 0, .string ⟨#[]⟩] 37 (0, 0)))) (L5 : Hid (wr.heap.size ≤ g5 ∧ g5 < W.heap.size)), G 5 #[true, false, true, false, false, true, false, false] ⟨#[agB b A c D d, .pointer (some ⟨w.heap.size, 0, none⟩), u2, .int .i64 (k : Nat), undef, .pointer (some ⟨g5, 0, none⟩), .agg #[.int .i64 b.h, .string (strB b.prev), .slice A b.reqs.length c, .slice D b.ress.length d], .bool true, .bool false, .int .i64 (k : Nat), .pointer (some ⟨w.heap.size, 2, none⟩), .slice A b.reqs.length c, .int .i64 (b.reqs.length : Nat), .bool true, .bool true, .int .i64 (k : Nat), .pointer (some ⟨w.heap.size, 3, none⟩), .slice D b.ress.length d, .int .i64 (b.ress.length : Nat), .bool false, .bool false, u21, u22, u23, u24, u25, u26, u27, u28, u29, u30, u31, u32, u33, u34, u35, u36, u37, u38, u39, u40, u41, u42, u43, u44, u45, u46, .agg #[.int .i64 b.h, .string (strB b.prev), .slice A b.reqs.length c, .slice D b.ress.length d], undef, .agg #[.int .i64 b.h, .string (strB b.prev), .slice A b.reqs.length c, .slice D b.ress.length d], undef, undef, undef, undef, undef, undef, undef, undef, undef, undef, undef, undef, undef, undef, undef, undef, undef, undef, undef, undef, undef], []⟩ W := by
          intro g5 W HBC G5 L5
          rw [hG]
          have hHeld : ((fun W => W.cell? ⟨w.heap.size, 0, none⟩ = some (.int .i64 b.h) ∧ W.cell? ⟨w.heap.size, 1, none⟩ = some (.string (strB b.prev)) ∧ W.cell? ⟨w.heap.size, 2, none⟩ = some (.slice A b.reqs.length c) ∧ W.cell? ⟨w.heap.size, 3, none⟩ = some (.slice D b.ress.length d))) W := HK.out _ (bel2M HBE.out HBC.out)
          refine wpAnyH_ready (rs := [1, 4]) (by kernel_rfl) (by simp) ?_
          refine AllReadyH.cons (o := ?o39) ?g39 (fun K hK => ?j39) (AllReadyH.cons (o := ?o40) ?g40 (fun K hK => ?j40) AllReadyH.nil)
          case g39 => (simp only [gA, gB, gC]; rfl)
          case g40 => (simp only [gA, gB, gC]; rfl)
          case j39 =>
            go_simp
            (go_at_call 12; refine (HHD.out _ (bel2M HB0.out (bel2M HBE.out HBC.out))).mono ?_)
            rintro e wx ⟨rfl, hbm⟩
            refine hK.out _ _ (by (try dsimp only); exact HK.out _ (bel2M HBE.out (bel2M HBC.out hbm))) (fun _ => ?_)
            (try simp only [Act.put, sA, sB, sC])
            refine wpAnyH_norm (fuel' := 4) (listed' := #[true, true, true, false, false, true, false, false]) (by kernel_rfl) (by kernel_rfl) ?_
            have hst := st_1_5 g5 _ (Lib.hid (bel2M HBC.out hbm)) (Lib.hid (heapB G5.out hbm)) (Lib.hid (⟨L5.out.1, Nat.lt_of_lt_of_le L5.out.2 hbm.size⟩))
            rw [hG] at hst
            exact hst
          case j40 =>
            refine step_alloc rfl 37 rfl #[.int .i64 0, .string ⟨#[]⟩, .int .i64 0, .string ⟨#[]⟩] 37 (fun W => by go_simp) ?_
            intro g4 w' hg hbm hge
            have G4 := Lib.hid hg
            have L4 := Lib.hid (And.intro (Nat.le_trans HBC.out.size hge) (Array.getElem?_eq_some_iff.1 hg).1)
            refine hK.out _ _ (by (try dsimp only); exact HK.out _ (bel2M HBE.out (bel2M HBC.out hbm))) (fun _ => ?_)
            (try simp only [Act.put, sA, sB, sC])
            refine wpAnyH_norm (fuel' := 4) (listed' := #[true, false, true, false, true, true, false, false]) (by kernel_rfl) (by kernel_rfl) ?_
            have hst := st_4_5 g4 g5 _ (Lib.hid (bel2M HBC.out hbm)) G4 L4 (Lib.hid (heapB G5.out hbm)) (Lib.hid (⟨L5.out.1, Nat.lt_of_lt_of_le L5.out.2 hbm.size⟩)) (Lib.hid ((show g4 ≠ g5 from by have h1 := L5.out.2; omega)))
            rw [hG] at hst
            exact hst
        have st_4 : ∀ (g4 : Nat) (W : World) (HBC : Hid (Below wr.heap.size wr W)) (G4 : Hid (W.heap[g4]? = some (.cells #[.int .i64 0, .string ⟨#[]⟩, .int .i64 0, .string ⟨#[]⟩] 37 (0, 0)))) (L4 : Hid (wr.heap.size ≤ g4 ∧ g4 < W.heap.size)), G 5 #[true, false, true, false, true, false, false, false] ⟨#[agB b A c D d, .pointer (some ⟨w.heap.size, 0, none⟩), u2, .int .i64 (k : Nat), .pointer (some ⟨g4, 0, none⟩), undef, .agg #[.int .i64 b.h, .string (strB b.prev), .slice A b.reqs.length c, .slice D b.ress.length d], .bool true, .bool false, .int .i64 (k : Nat), .pointer (some ⟨w.heap.size, 2, none⟩), .slice A b.reqs.length c, .int .i64 (b.reqs.length : Nat), .bool true, .bool true, .int .i64 (k : Nat), .pointer (some ⟨w.heap.size, 3, none⟩), .slice D b.ress.length d, .int .i64 (b.ress.length : Nat), .bool false, .bool false, u21, u22, u23, u24, u25, u26, u27, u28, u29, u30, u31, u32, u33, u34, u35, u36, u37, u38, u39, u40, u41, u42, u43, u44, u45, u46, .agg #[.int .i64 b.h, .string (strB b.prev), .slice A b.reqs.length c, .slice D b.ress.length d], undef, .agg #[.int .i64 b.h, .string (strB b.prev), .slice A b.reqs.length c, .slice D b.ress.length d], undef, undef, undef, undef, undef, undef, undef, undef, undef, undef, undef, undef, undef, undef, undef, undef, undef, undef, undef, undef, undef], []⟩ W := by
          intro g4 W HBC G4 L4
          rw [hG]
          have hHeld : ((fun W => W.cell? ⟨w.heap.size, 0, none⟩ = some (.int .i64 b.h) ∧ W.cell? ⟨w.heap.size, 1, none⟩ = some (.string (strB b.prev)) ∧ W.cell? ⟨w.heap.size, 2, none⟩ = some (.slice A b.reqs.length c) ∧ W.cell? ⟨w.heap.size, 3, none⟩ = some (.slice D b.ress.length d))) W := HK.out _ (bel2M HBE.out HBC.out)
          refine wpAnyH_ready (rs := [1, 5]) (by kernel_rfl) (by simp) ?_
          refine AllReadyH.cons (o := ?o41) ?g41 (fun K hK => ?j41) (AllReadyH.cons (o := ?o42) ?g42 (fun K hK => ?j42) AllReadyH.nil)
          case g41 => (simp only [gA, gB, gC]; rfl)
          case g42 => (simp only [gA, gB, gC]; rfl)
          case j41 =>
            go_simp
            (go_at_call 12; refine (HHD.out _ (bel2M HB0.out (bel2M HBE.out HBC.out))).mono ?_)
            rintro e wx ⟨rfl, hbm⟩
            refine hK.out _ _ (by (try dsimp only); exact HK.out _ (bel2M HBE.out (bel2M HBC.out hbm))) (fun _ => ?_)
            (try simp only [Act.put, sA, sB, sC])
            refine wpAnyH_norm (fuel' := 4) (listed' := #[true, true, true, false, true, false, false, false]) (by kernel_rfl) (by kernel_rfl) ?_
            have hst := st_1_4 g4 _ (Lib.hid (bel2M HBC.out hbm)) (Lib.hid (heapB G4.out hbm)) (Lib.hid (⟨L4.out.1, Nat.lt_of_lt_of_le L4.out.2 hbm.size⟩))
            rw [hG] at hst
            exact hst
          case j42 =>
            refine step_alloc rfl 37 rfl #[.int .i64 0, .string ⟨#[]⟩, .int .i64 0, .string ⟨#[]⟩] 37 (fun W => by go_simp) ?_
            intro g5 w' hg hbm hge
            have G5 := Lib.hid hg
            have L5 := Lib.hid (And.intro (Nat.le_trans HBC.out.size hge) (Array.getElem?_eq_some_iff.1 hg).1)
            refine hK.out _ _ (by (try dsimp only); exact HK.out _ (bel2M HBE.out (bel2M HBC.out hbm))) (fun _ => ?_)
            (try simp only [Act.put, sA, sB, sC])
            refine wpAnyH_norm (fuel' := 4) (listed' := #[true, false, true, false, true, true, false, false]) (by kernel_rfl) (by kernel_rfl) ?_
            have hst := st_4_5 g4 g5 _ (Lib.hid (bel2M HBC.out hbm)) (Lib.hid (heapB G4.out hbm)) (Lib.hid (⟨L4.out.1, Nat.lt_of_lt_of_le L4.out.2 hbm.size⟩)) G5 L5 (Lib.hid ((show g4 ≠ g5 from by have h1 := L4.out.2; omega)))
            rw [hG] at hst
            exact hst
        have st_1 : ∀  (W : World) (HBC : Hid (Below wr.heap.size wr W)) , G 5 #[true, true, true, false, false, false, false, false] ⟨#[agB b A c D d, .pointer (some ⟨w.heap.size, 0, none⟩), u2, .int .i64 (k : Nat), undef, undef, .agg #[.int .i64 b.h, .string (strB b.prev), .slice A b.reqs.length c, .slice D b.ress.length d], .bool true, .bool false, .int .i64 (k : Nat), .pointer (some ⟨w.heap.size, 2, none⟩), .slice A b.reqs.length c, .int .i64 (b.reqs.length : Nat), .bool true, .bool true, .int .i64 (k : Nat), .pointer (some ⟨w.heap.size, 3, none⟩), .slice D b.ress.length d, .int .i64 (b.ress.length : Nat), .bool false, .bool false, u21, u22, u23, u24, u25, u26, u27, u28, u29, u30, u31, u32, u33, u34, u35, u36, u37, u38, u39, u40, u41, u42, u43, u44, u45, u46, .agg #[.int .i64 b.h, .string (strB b.prev), .slice A b.reqs.length c, .slice D b.ress.length d], agH b.h b.prev (n : Nat) rt, .agg #[.int .i64 b.h, .string (strB b.prev), .slice A b.reqs.length c, .slice D b.ress.length d], undef, undef, undef, undef, undef, undef, undef, undef, undef, undef, undef, undef, undef, undef, undef, undef, undef, undef, undef, undef, undef], []⟩ W := by
          intro  W HBC 
          rw [hG]
          have hHeld : ((fun W => W.cell? ⟨w.heap.size, 0, none⟩ = some (.int .i64 b.h) ∧ W.cell? ⟨w.heap.size, 1, none⟩ = some (.string (strB b.prev)) ∧ W.cell? ⟨w.heap.size, 2, none⟩ = some (.slice A b.reqs.length c) ∧ W.cell? ⟨w.heap.size, 3, none⟩ = some (.slice D b.ress.length d))) W := HK.out _ (bel2M HBE.out HBC.out)
          refine wpAnyH_ready (rs := [3, 4, 5]) (by kernel_rfl) (by simp) ?_
          refine AllReadyH.cons (o := ?o43) ?g43 (fun K hK => ?j43) (AllReadyH.cons (o := ?o44) ?g44 (fun K hK => ?j44) (AllReadyH.cons (o := ?o45) ?g45 (fun K hK => ?j45) AllReadyH.nil))
          case g43 => (simp only [gA, gB, gC]; rfl)
          case g44 => (simp only [gA, gB, gC]; rfl)
          case g45 => (simp only [gA, gB, gC]; rfl)
          case j43 =>
            go_simp
            (go_at_call 13; refine (HRH.out _ (bel2M HB0.out (bel2M HBE.out HBC.out))).mono ?_)
            rintro e wx ⟨rfl, hbm⟩
            refine hK.out _ _ (by (try dsimp only); exact HK.out _ (bel2M HBE.out (bel2M HBC.out hbm))) (fun _ => ?_)
            (try simp only [Act.put, sA, sB, sC])
            refine wpAnyH_norm (fuel' := 4) (listed' := #[true, true, true, true, false, false, false, false]) (by kernel_rfl) (by kernel_rfl) ?_
            have hst := st_1_3  _ (Lib.hid (bel2M HBC.out hbm)) 
            rw [hG] at hst
            exact hst
          case j44 =>
            refine step_alloc rfl 37 rfl #[.int .i64 0, .string ⟨#[]⟩, .int .i64 0, .string ⟨#[]⟩] 37 (fun W => by go_simp) ?_
            intro g4 w' hg hbm hge
            have G4 := Lib.hid hg
            have L4 := Lib.hid (And.intro (Nat.le_trans HBC.out.size hge) (Array.getElem?_eq_some_iff.1 hg).1)
            refine hK.out _ _ (by (try dsimp only); exact HK.out _ (bel2M HBE.out (bel2M HBC.out hbm))) (fun _ => ?_)
            (try simp only [Act.put, sA, sB, sC])
            refine wpAnyH_norm (fuel' := 4) (listed' := #[true, true, true, false, true, false, false, false]) (by kernel_rfl) (by kernel_rfl) ?_
            have hst := st_1_4 g4 _ (Lib.hid (bel2M HBC.out hbm)) G4 L4
            rw [hG] at hst
            exact hst
          case j45 =>
            refine step_alloc rfl 37 rfl #[.int .i64 0, .string ⟨#[]⟩, .int .i64 0, .string ⟨#[]⟩] 37 (fun W => by go_simp) ?_
            intro g5 w' hg hbm hge
            have G5 := Lib.hid hg
            have L5 := Lib.hid (And.intro (Nat.le_trans HBC.out.size hge) (Array.getElem?_eq_some_iff.1 hg).1)
            refine hK.out _ _ (by (try dsimp only); exact HK.out _ (bel2M HBE.out (bel2M HBC.out hbm))) (fun _ => ?_)
            (try simp only [Act.put, sA, sB, sC])
            refine wpAnyH_norm (fuel' := 4) (listed' := #[true, true, true, false, false, true, false, false]) (by kernel_rfl) (by kernel_rfl) ?_
            have hst := st_1_5 g5 _ (Lib.hid (bel2M HBC.out hbm)) G5 L5
            rw [hG] at hst
            exact hst
        have st : ∀  (W : World) (HBC : Hid (Below wr.heap.size wr W)) , G 6 #[true, false, true, false, false, false, false, false] ⟨#[agB b A c D d, .pointer (some ⟨w.heap.size, 0, none⟩), u2, .int .i64 (k : Nat), undef, undef, .agg #[.int .i64 b.h, .string (strB b.prev), .slice A b.reqs.length c, .slice D b.ress.length d], .bool true, .bool false, .int .i64 (k : Nat), .pointer (some ⟨w.heap.size, 2, none⟩), .slice A b.reqs.length c, .int .i64 (b.reqs.length : Nat), .bool true, .bool true, .int .i64 (k : Nat), .pointer (some ⟨w.heap.size, 3, none⟩), .slice D b.ress.length d, .int .i64 (b.ress.length : Nat), .bool false, .bool false, u21, u22, u23, u24, u25, u26, u27, u28, u29, u30, u31, u32, u33, u34, u35, u36, u37, u38, u39, u40, u41, u42, u43, u44, u45, u46, .agg #[.int .i64 b.h, .string (strB b.prev), .slice A b.reqs.length c, .slice D b.ress.length d], undef, .agg #[.int .i64 b.h, .string (strB b.prev), .slice A b.reqs.length c, .slice D b.ress.length d], undef, undef, undef, undef, undef, undef, undef, undef, undef, undef, undef, undef, undef, undef, undef, undef, undef, undef, undef, undef, undef], []⟩ W := by
          intro  W HBC 
          rw [hG]
          have hHeld : ((fun W => W.cell? ⟨w.heap.size, 0, none⟩ = some (.int .i64 b.h) ∧ W.cell? ⟨w.heap.size, 1, none⟩ = some (.string (strB b.prev)) ∧ W.cell? ⟨w.heap.size, 2, none⟩ = some (.slice A b.reqs.length c) ∧ W.cell? ⟨w.heap.size, 3, none⟩ = some (.slice D b.ress.length d))) W := HK.out _ (bel2M HBE.out HBC.out)
          refine wpAnyH_ready (rs := [1, 4, 5]) (by kernel_rfl) (by simp) ?_
          refine AllReadyH.cons (o := ?o46) ?g46 (fun K hK => ?j46) (AllReadyH.cons (o := ?o47) ?g47 (fun K hK => ?j47) (AllReadyH.cons (o := ?o48) ?g48 (fun K hK => ?j48) AllReadyH.nil))
          case g46 => (simp only [gA, gB, gC]; rfl)
          case g47 => (simp only [gA, gB, gC]; rfl)
          case g48 => (simp only [gA, gB, gC]; rfl)
          case j46 =>
            go_simp
            (go_at_call 12; refine (HHD.out _ (bel2M HB0.out (bel2M HBE.out HBC.out))).mono ?_)
            rintro e wx ⟨rfl, hbm⟩
            refine hK.out _ _ (by (try dsimp only); exact HK.out _ (bel2M HBE.out (bel2M HBC.out hbm))) (fun _ => ?_)
            (try simp only [Act.put, sA, sB, sC])
            refine wpAnyH_norm (fuel' := 5) (listed' := #[true, true, true, false, false, false, false, false]) (by kernel_rfl) (by kernel_rfl) ?_
            have hst := st_1  _ (Lib.hid (bel2M HBC.out hbm)) 
            rw [hG] at hst
            exact hst
          case j47 =>
            refine step_alloc rfl 37 rfl #[.int .i64 0, .string ⟨#[]⟩, .int .i64 0, .string ⟨#[]⟩] 37 (fun W => by go_simp) ?_
            intro g4 w' hg hbm hge
            have G4 := Lib.hid hg
            have L4 := Lib.hid (And.intro (Nat.le_trans HBC.out.size hge) (Array.getElem?_eq_some_iff.1 hg).1)
            refine hK.out _ _ (by (try dsimp only); exact HK.out _ (bel2M HBE.out (bel2M HBC.out hbm))) (fun _ => ?_)
            (try simp only [Act.put, sA, sB, sC])
            refine wpAnyH_norm (fuel' := 5) (listed' := #[true, false, true, false, true, false, false, false]) (by kernel_rfl) (by kernel_rfl) ?_
            have hst := st_4 g4 _ (Lib.hid (bel2M HBC.out hbm)) G4 L4
            rw [hG] at hst
            exact hst
          case j48 =>
            refine step_alloc rfl 37 rfl #[.int .i64 0, .string ⟨#[]⟩, .int .i64 0, .string ⟨#[]⟩] 37 (fun W => by go_simp) ?_
            intro g5 w' hg hbm hge
            have G5 := Lib.hid hg
            have L5 := Lib.hid (And.intro (Nat.le_trans HBC.out.size hge) (Array.getElem?_eq_some_iff.1 hg).1)
            refine hK.out _ _ (by (try dsimp only); exact HK.out _ (bel2M HBE.out (bel2M HBC.out hbm))) (fun _ => ?_)
            (try simp only [Act.put, sA, sB, sC])
            refine wpAnyH_norm (fuel' := 5) (listed' := #[true, false, true, false, false, true, false, false]) (by kernel_rfl) (by kernel_rfl) ?_
            have hst := st_5 g5 _ (Lib.hid (bel2M HBC.out hbm)) G5 L5
            rw [hG] at hst
            exact hst
        exact st _ (Lib.hid (HBC.out))
      · have hk1I : ¬ (k : Int) < (b.reqs.length : Int) := by omega
        clear hlt
        go_upto_region 8 with fail
        have HBC := Lib.hid (show Below wr.heap.size wr wr.drew from (Below.refl _ _).drew)
        refine wp_region_held_drew (S := (fun W => W.cell? ⟨w.heap.size, 0, none⟩ = some (.int .i64 b.h) ∧ W.cell? ⟨w.heap.size, 1, none⟩ = some (.string (strB b.prev)) ∧ W.cell? ⟨w.heap.size, 2, none⟩ = some (.slice A b.reqs.length c) ∧ W.cell? ⟨w.heap.size, 3, none⟩ = some (.slice D b.ress.length d))) (by kernel_rfl) (HK.out _ (bel2M HBE.out HBC.out)) (fun hHeld => ?_)
        refine tk 0 ?_
        (try simp only [Act.put, sA, sB, sC])
        refine tk 2 ?_
        (try simp only [Act.put, sA, sB, sC])
        refine wpAnyH_norm (fuel' := 6) (listed' := #[true, false, true, false, false, false, false, false]) (by kernel_rfl) (by kernel_rfl) ?_
        refine wpAnyH_name (fun G hG => ?_)
        clear hHeld
        have st_1_3_4_5 : ∀ (g4 : Nat) (g5 : Nat) (W : World) (HBC : Hid (Below wr.heap.size wr W)) (G4 : Hid (W.heap[g4]? = some (.cells #[.int .i64 0, .string ⟨#[]⟩, .int .i64 0, .string ⟨#[]⟩] 37 (0, 0)))) (L4 : Hid (wr.heap.size ≤ g4 ∧ g4 < W.heap.size)) (G5 : Hid (W.heap[g5]? = some (.cells #[.int .i64 0, .string ⟨#[]⟩, .int .i64 0, .string ⟨#[]⟩] 37 (0, 0)))) (L5 : Hid (wr.heap.size ≤ g5 ∧ g5 < W.heap.size)) (NE : Hid (g4 ≠ g5)), G 2 #[true, true, true, true, true, true, false, false] ⟨#[agB b A c D d, .pointer (some ⟨w.heap.size, 0, none⟩), u2, .int .i64 (k : Nat), .pointer (some ⟨g4, 0, none⟩), .pointer (some ⟨g5, 0, none⟩), .agg #[.int .i64 b.h, .string (strB b.prev), .slice A b.reqs.length c, .slice D b.ress.length d], .bool true, .bool false, .int .i64 (k : Nat), .pointer (some ⟨w.heap.size, 2, none⟩), .slice A b.reqs.length c, .int .i64 (b.reqs.length : Nat), .bool false, .bool false, undef, undef, undef, undef, undef, .bool false, u21, u22, u23, u24, u25, u26, u27, u28, u29, u30, u31, u32, u33, u34, u35, u36, u37, u38, u39, u40, u41, u42, u43, u44, u45, u46, .agg #[.int .i64 b.h, .string (strB b.prev), .slice A b.reqs.length c, .slice D b.ress.length d], agH b.h b.prev (n : Nat) rt, .agg #[.int .i64 b.h, .string (strB b.prev), .slice A b.reqs.length c, .slice D b.ress.length d], agH b.h b.prev (n : Nat) rt, undef, undef, undef, undef, undef, undef, undef, undef, undef, undef, undef, undef, undef, undef, undef, undef, undef, undef, undef, undef], []⟩ W := by
          intro g4 g5 W HBC G4 L4 G5 L5 NE
          rw [hG]
          have hHeld : ((fun W => W.cell? ⟨w.heap.size, 0, none⟩ = some (.int .i64 b.h) ∧ W.cell? ⟨w.heap.size, 1, none⟩ = some (.string (strB b.prev)) ∧ W.cell? ⟨w.heap.size, 2, none⟩ = some (.slice A b.reqs.length c) ∧ W.cell? ⟨w.heap.size, 3, none⟩ = some (.slice D b.ress.length d))) W := HK.out _ (bel2M HBE.out HBC.out)
          have HWB := Lib.hid (show w.heap.size < g4 ∧ w.heap.size < g5 from by have h1 := L4.out.1; have h2 := L5.out.1; have h3 := (Array.getElem?_eq_some_iff.1 HX1.out).1; have h4 := HBE.out.size; omega)
          have HNE := Lib.hid (show g4 ≠ g5 from NE.out)
          refine wpAnyH_ready (rs := [6]) (by kernel_rfl) (by simp) ?_
          refine AllReadyH.cons (o := ?o51) ?g51 (fun K hK => ?j51) AllReadyH.nil
          case g51 => (simp only [gA, gB, gC]; rfl)
          refine step_store rfl 37 (.tmp 4) (.tmp 48) rfl g4 #[.int .i64 b.h, .string (strB b.prev), .int .i64 (n : Nat), .string (strB rt)] #[.int .i64 0, .string ⟨#[]⟩, .int .i64 0, .string ⟨#[]⟩] rfl rfl G4.out rfl (by kernel_rfl) (by intro u hu; simp at hu; rcases hu with rfl | rfl | rfl | rfl <;> rfl) ?_
          intro w6 hz4 ho4
          have HZ4 := Lib.hid hz4
          have HO4 := Lib.hid ho4
          have G5b := Lib.hid (onlyHeap ho4 G5.out (fun e => HNE.out e.symm))
          clear hz4 ho4
          refine hK.out _ _ ?_ (fun hHeld => ?_)
          · (try dsimp only); exact ⟨onlyCell HO4.out hHeld.1 (by have := HWB.out; simp only; omega), onlyCell HO4.out hHeld.2.1 (by have := HWB.out; simp only; omega), onlyCell HO4.out hHeld.2.2.1 (by have := HWB.out; simp only; omega), onlyCell HO4.out hHeld.2.2.2 (by have := HWB.out; simp only; omega)⟩
          clear hK K
          (try simp only [Act.put, sA, sB, sC])
          refine wpAnyH_ready (rs := [7]) (by kernel_rfl) (by simp) ?_
          refine AllReadyH.cons (o := ?o52) ?g52 (fun K hK => ?j52) AllReadyH.nil
          case g52 => (simp only [gA, gB, gC]; rfl)
          refine step_store rfl 37 (.tmp 5) (.tmp 50) rfl g5 #[.int .i64 b.h, .string (strB b.prev), .int .i64 (n : Nat), .string (strB rt)] #[.int .i64 0, .string ⟨#[]⟩, .int .i64 0, .string ⟨#[]⟩] rfl rfl G5b.out rfl (by kernel_rfl) (by intro u hu; simp at hu; rcases hu with rfl | rfl | rfl | rfl <;> rfl) ?_
          intro w7 hz5 ho5
          have HZ5 := Lib.hid hz5
          have HZ6 := Lib.hid (onlyHeap ho5 HZ4.out HNE.out)
          have HO5 := Lib.hid ho5
          clear hz5 ho5
          refine hK.out _ _ ?_ (fun hHeld => ?_)
          · (try dsimp only); exact ⟨onlyCell HO5.out hHeld.1 (by have := HWB.out; simp only; omega), onlyCell HO5.out hHeld.2.1 (by have := HWB.out; simp only; omega), onlyCell HO5.out hHeld.2.2.1 (by have := HWB.out; simp only; omega), onlyCell HO5.out hHeld.2.2.2 (by have := HWB.out; simp only; omega)⟩
          clear hK K
          (try simp only [Act.put, sA, sB, sC])
          refine wpAnyH_done (by kernel_rfl) ?_ _
          have HB7 := Lib.hid (show Below w0.heap.size w0 w7 from onlyBelow (onlyBelow (bel2M HBE.out HBC.out) HO4.out (by have := HBE.out.size; have := L4.out.1; omega) (Nat.le_refl _)) HO5.out (by have := HBE.out.size; have := L5.out.1; omega) (Nat.le_refl _))
          have HKK := Lib.hid (show ∀ W, Below w7.heap.size w7 W → (fun W => W.cell? ⟨w.heap.size, 0, none⟩ = some (.int .i64 b.h) ∧ W.cell? ⟨w.heap.size, 1, none⟩ = some (.string (strB b.prev)) ∧ W.cell? ⟨w.heap.size, 2, none⟩ = some (.slice A b.reqs.length c) ∧ W.cell? ⟨w.heap.size, 3, none⟩ = some (.slice D b.ress.length d) ∧ W.cell? ⟨g4, 0, none⟩ = some (.int .i64 b.h) ∧ W.cell? ⟨g4, 1, none⟩ = some (.string (strB b.prev)) ∧ W.cell? ⟨g4, 2, none⟩ = some (.int .i64 (n : Nat)) ∧ W.cell? ⟨g4, 3, none⟩ = some (.string (strB rt)) ∧ W.cell? ⟨g5, 0, none⟩ = some (.int .i64 b.h) ∧ W.cell? ⟨g5, 1, none⟩ = some (.string (strB b.prev)) ∧ W.cell? ⟨g5, 2, none⟩ = some (.int .i64 (n : Nat)) ∧ W.cell? ⟨g5, 3, none⟩ = some (.string (strB rt))) W from fun W h => ⟨(HK.out _ (bel2M HB7.out h)).1, (HK.out _ (bel2M HB7.out h)).2.1, (HK.out _ (bel2M HB7.out h)).2.2.1, (HK.out _ (bel2M HB7.out h)).2.2.2, cellB (rowCell HZ6.out 0 _ rfl) h, cellB (rowCell HZ6.out 1 _ rfl) h, cellB (rowCell HZ6.out 2 _ rfl) h, cellB (rowCell HZ6.out 3 _ rfl) h, cellB (rowCell HZ5.out 0 _ rfl) h, cellB (rowCell HZ5.out 1 _ rfl) h, cellB (rowCell HZ5.out 2 _ rfl) h, cellB (rowCell HZ5.out 3 _ rfl) h⟩)
          go_wp2
          have HBD := Lib.hid (show Below w7.heap.size w7 w7.drew from (Below.refl _ _).drew)
          go_region_held3 (fun W => W.cell? ⟨w.heap.size, 0, none⟩ = some (.int .i64 b.h) ∧ W.cell? ⟨w.heap.size, 1, none⟩ = some (.string (strB b.prev)) ∧ W.cell? ⟨w.heap.size, 2, none⟩ = some (.slice A b.reqs.length c) ∧ W.cell? ⟨w.heap.size, 3, none⟩ = some (.slice D b.ress.length d) ∧ W.cell? ⟨g4, 0, none⟩ = some (.int .i64 b.h) ∧ W.cell? ⟨g4, 1, none⟩ = some (.string (strB b.prev)) ∧ W.cell? ⟨g4, 2, none⟩ = some (.int .i64 (n : Nat)) ∧ W.cell? ⟨g4, 3, none⟩ = some (.string (strB rt)) ∧ W.cell? ⟨g5, 0, none⟩ = some (.int .i64 b.h) ∧ W.cell? ⟨g5, 1, none⟩ = some (.string (strB b.prev)) ∧ W.cell? ⟨g5, 2, none⟩ = some (.int .i64 (n : Nat)) ∧ W.cell? ⟨g5, 3, none⟩ = some (.string (strB rt))) (first | exact HKK.out _ HBD.out) (first
            | (go_at_call 14; refine (HCK.out _).mono ?_; rintro e wx ⟨rfl, hbm⟩; replace HBD := Lib.hid (bel2M HBD.out hbm); clear hbm)
            | (go_at_call 15; refine (HRK.out _).mono ?_; rintro e wx ⟨rfl, hbm⟩; replace HBD := Lib.hid (bel2M HBD.out hbm); clear hbm)
            | (go_at_call 16; refine (HDG.out _).mono ?_; rintro e wx ⟨rfl, hbm⟩; replace HBD := Lib.hid (bel2M HBD.out hbm); clear hbm)
            | (go_at_call 17; refine (HRD.out _).mono ?_; rintro e wx ⟨rfl, hbm⟩; replace HBD := Lib.hid (bel2M HBD.out hbm); clear hbm)
            | (go_at_call 18; refine (HW.out _).mono ?_; rintro e wx ⟨rfl, hbm⟩; replace HBD := Lib.hid (bel2M HBD.out hbm); clear hbm))
          go_wp2
          go_ret
          exact ⟨rfl, bel2M HB0.out (bel2M HB7.out HBD.out)⟩
        have st_1_4_5 : ∀ (g4 : Nat) (g5 : Nat) (W : World) (HBC : Hid (Below wr.heap.size wr W)) (G4 : Hid (W.heap[g4]? = some (.cells #[.int .i64 0, .string ⟨#[]⟩, .int .i64 0, .string ⟨#[]⟩] 37 (0, 0)))) (L4 : Hid (wr.heap.size ≤ g4 ∧ g4 < W.heap.size)) (G5 : Hid (W.heap[g5]? = some (.cells #[.int .i64 0, .string ⟨#[]⟩, .int .i64 0, .string ⟨#[]⟩] 37 (0, 0)))) (L5 : Hid (wr.heap.size ≤ g5 ∧ g5 < W.heap.size)) (NE : Hid (g4 ≠ g5)), G 3 #[true, true, true, false, true, true, false, false] ⟨#[agB b A c D d, .pointer (some ⟨w.heap.size, 0, none⟩), u2, .int .i64 (k : Nat), .pointer (some ⟨g4, 0, none⟩), .pointer (some ⟨g5, 0, none⟩), .agg #[.int .i64 b.h, .string (strB b.prev), .slice A b.reqs.length c, .slice D b.ress.length d], .bool true, .bool false, .int .i64 (k : Nat), .pointer (some ⟨w.heap.size, 2, none⟩), .slice A b.reqs.length c, .int .i64 (b.reqs.length : Nat), .bool false, .bool false, undef, undef, undef, undef, undef, .bool false, u21, u22, u23, u24, u25, u26, u27, u28, u29, u30, u31, u32, u33, u34, u35, u36, u37, u38, u39, u40, u41, u42, u43, u44, u45, u46, .agg #[.int .i64 b.h, .string (strB b.prev), .slice A b.reqs.length c, .slice D b.ress.length d], agH b.h b.prev (n : Nat) rt, .agg #[.int .i64 b.h, .string (strB b.prev), .slice A b.reqs.length c, .slice D b.ress.length d], undef, undef, undef, undef, undef, undef, undef, undef, undef, undef, undef, undef, undef, undef, undef, undef, undef, undef, undef, undef, undef], []⟩ W := by
          intro g4 g5 W HBC G4 L4 G5 L5 NE
          rw [hG]
          have hHeld : ((fun W => W.cell? ⟨w.heap.size, 0, none⟩ = some (.int .i64 b.h) ∧ W.cell? ⟨w.heap.size, 1, none⟩ = some (.string (strB b.prev)) ∧ W.cell? ⟨w.heap.size, 2, none⟩ = some (.slice A b.reqs.length c) ∧ W.cell? ⟨w.heap.size, 3, none⟩ = some (.slice D b.ress.length d))) W := HK.out _ (bel2M HBE.out HBC.out)
          refine wpAnyH_ready (rs := [3]) (by kernel_rfl) (by simp) ?_
          refine AllReadyH.cons (o := ?o53) ?g53 (fun K hK => ?j53) AllReadyH.nil
          case g53 => (simp only [gA, gB, gC]; rfl)
          case j53 =>
            go_simp
            (go_at_call 13; refine (HRH.out _ (bel2M HB0.out (bel2M HBE.out HBC.out))).mono ?_)
            rintro e wx ⟨rfl, hbm⟩
            refine hK.out _ _ (by (try dsimp only); exact HK.out _ (bel2M HBE.out (bel2M HBC.out hbm))) (fun _ => ?_)
            (try simp only [Act.put, sA, sB, sC])
            refine wpAnyH_norm (fuel' := 2) (listed' := #[true, true, true, true, true, true, false, false]) (by kernel_rfl) (by kernel_rfl) ?_
            have hst := st_1_3_4_5 g4 g5 _ (Lib.hid (bel2M HBC.out hbm)) (Lib.hid (heapB G4.out hbm)) (Lib.hid (⟨L4.out.1, Nat.lt_of_lt_of_le L4.out.2 hbm.size⟩)) (Lib.hid (heapB G5.out hbm)) (Lib.hid (⟨L5.out.1, Nat.lt_of_lt_of_le L5.out.2 hbm.size⟩)) (Lib.hid (NE.out))
            rw [hG] at hst
            exact hst
        have st_1_3_5 : ∀ (g5 : Nat) (W : World) (HBC : Hid (Below wr.heap.size wr W)) (G5 : Hid (W.heap[g5]? = some (.cells #[.int .i64 0, .string ⟨#[]⟩, .int .i64 0, .string ⟨#[]⟩] 37 (0, 0)))) (L5 : Hid (wr.heap.size ≤ g5 ∧ g5 < W.heap.size)), G 3 #[true, true, true, true, false, true, false, false] ⟨#[agB b A c D d, .pointer (some ⟨w.heap.size, 0, none⟩), u2, .int .i64 (k : Nat), undef, .pointer (some ⟨g5, 0, none⟩), .agg #[.int .i64 b.h, .string (strB b.prev), .slice A b.reqs.length c, .slice D b.ress.length d], .bool true, .bool false, .int .i64 (k : Nat), .pointer (some ⟨w.heap.size, 2, none⟩), .slice A b.reqs.length c, .int .i64 (b.reqs.length : Nat), .bool false, .bool false, undef, undef, undef, undef, undef, .bool false, u21, u22, u23, u24, u25, u26, u27, u28, u29, u30, u31, u32, u33, u34, u35, u36, u37, u38, u39, u40, u41, u42, u43, u44, u45, u46, .agg #[.int .i64 b.h, .string (strB b.prev), .slice A b.reqs.length c, .slice D b.ress.length d], agH b.h b.prev (n : Nat) rt, .agg #[.int .i64 b.h, .string (strB b.prev), .slice A b.reqs.length c, .slice D b.ress.length d], agH b.h b.prev (n : Nat) rt, undef, undef, undef, undef, undef, undef, undef, undef, undef, undef, undef, undef, undef, undef, undef, undef, undef, undef, undef, undef], []⟩ W := by
          intro g5 W HBC G5 L5
          rw [hG]
          have hHeld : ((fun W => W.cell? ⟨w.heap.size, 0, none⟩ = some (.int .i64 b.h) ∧ W.cell? ⟨w.heap.size, 1, none⟩ = some (.string (strB b.prev)) ∧ W.cell? ⟨w.heap.size, 2, none⟩ = some (.slice A b.reqs.length c) ∧ W.cell? ⟨w.heap.size, 3, none⟩ = some (.slice D b.ress.length d))) W := HK.out _ (bel2M HBE.out HBC.out)
          refine wpAnyH_ready (rs := [4]) (by kernel_rfl) (by simp) ?_
          refine AllReadyH.cons (o := ?o54) ?g54 (fun K hK => ?j54) AllReadyH.nil
          case g54 => (simp only [gA, gB, gC]; rfl)
          case j54 =>
            refine step_alloc rfl 37 rfl #[.int .i64 0, .string ⟨#[]⟩, .int .i64 0, .string ⟨#[]⟩] 37 (fun W => by go_simp) ?_
            intro g4 w' hg hbm hge
            have G4 := Lib.hid hg
            have L4 := Lib.hid (And.intro (Nat.le_trans HBC.out.size hge) (Array.getElem?_eq_some_iff.1 hg).1)
            refine hK.out _ _ (by (try dsimp only); exact HK.out _ (bel2M HBE.out (bel2M HBC.out hbm))) (fun _ => ?_)
            (try simp only [Act.put, sA, sB, sC])
            refine wpAnyH_norm (fuel' := 2) (listed' := #[true, true, true, true, true, true, false, false]) (by kernel_rfl) (by kernel_rfl) ?_
            have hst := st_1_3_4_5 g4 g5 _ (Lib.hid (bel2M HBC.out hbm)) G4 L4 (Lib.hid (heapB G5.out hbm)) (Lib.hid (⟨L5.out.1, Nat.lt_of_lt_of_le L5.out.2 hbm.size⟩)) (Lib.hid ((show g4 ≠ g5 from by have h1 := L5.out.2; omega)))
            rw [hG] at hst
            exact hst
        have st_1_3_4 : ∀ (g4 : Nat) (W : World) (HBC : Hid (Below wr.heap.size wr W)) (G4 : Hid (W.heap[g4]? = some (.cells #[.int .i64 0, .string ⟨#[]⟩, .int .i64 0, .string ⟨#[]⟩] 37 (0, 0)))) (L4 : Hid (wr.heap.size ≤ g4 ∧ g4 < W.heap.size)), G 3 #[true, true, true, true, true, false, false, false] ⟨#[agB b A c D d, .pointer (some ⟨w.heap.size, 0, none⟩), u2, .int .i64 (k : Nat), .pointer (some ⟨g4, 0, none⟩), undef, .agg #[.int .i64 b.h, .string (strB b.prev), .slice A b.reqs.length c, .slice D b.ress.length d], .bool true, .bool false, .int .i64 (k : Nat), .pointer (some ⟨w.heap.size, 2, none⟩), .slice A b.reqs.length c, .int .i64 (b.reqs.length : Nat), .bool false, .bool false, undef, undef, undef, undef, undef, .bool false, u21, u22, u23, u24, u25, u26, u27, u28, u29, u30, u31, u32, u33, u34, u35, u36, u37, u38, u39, u40, u41, u42, u43, u44, u45, u46, .agg #[.int .i64 b.h, .string (strB b.prev), .slice A b.reqs.length c, .slice D b.ress.length d], agH b.h b.prev (n : Nat) rt, .agg #[.int .i64 b.h, .string (strB b.prev), .slice A b.reqs.length c, .slice D b.ress.length d], agH b.h b.prev (n : Nat) rt, undef, undef, undef, undef, undef, undef, undef, undef, undef, undef, undef, undef, undef, undef, undef, undef, undef, undef, undef, undef], []⟩ W := by
          intro g4 W HBC G4 L4
          rw [hG]
          have hHeld : ((fun W => W.cell? ⟨w.heap.size, 0, none⟩ = some (.int .i64 b.h) ∧ W.cell? ⟨w.heap.size, 1, none⟩ = some (.string (strB b.prev)) ∧ W.cell? ⟨w.heap.size, 2, none⟩ = some (.slice A b.reqs.length c) ∧ W.cell? ⟨w.heap.size, 3, none⟩ = some (.slice D b.ress.length d))) W := HK.out _ (bel2M HBE.out HBC.out)
          refine wpAnyH_ready (rs := [5]) (by kernel_rfl) (by simp) ?_
          refine AllReadyH.cons (o := ?o55) ?g55 (fun K hK => ?j55) AllReadyH.nil
          case g55 => (simp only [gA, gB, gC]; rfl)
          case j55 =>
            refine step_alloc rfl 37 rfl #[.int .i64 0, .string ⟨#[]⟩, .int .i64 0, .string ⟨#[]⟩] 37 (fun W => by go_simp) ?_
            intro g5 w' hg hbm hge
            have G5 := Lib.hid hg
            have L5 := Lib.hid (And.intro (Nat.le_trans HBC.out.size hge) (Array.getElem?_eq_some_iff.1 hg).1)
            refine hK.out _ _ (by (try dsimp only); exact HK.out _ (bel2M HBE.out (bel2M HBC.out hbm))) (fun _ => ?_)
            (try simp only [Act.put, sA, sB, sC])
            refine wpAnyH_norm (fuel' := 2) (listed' := #[true, true, true, true, true, true, false, false]) (by kernel_rfl) (by kernel_rfl) ?_
            have hst := st_1_3_4_5 g4 g5 _ (Lib.hid (bel2M HBC.out hbm)) (Lib.hid (heapB G4.out hbm)) (Lib.hid (⟨L4.out.1, Nat.lt_of_lt_of_le L4.out.2 hbm.size⟩)) G5 L5 (Lib.hid ((show g4 ≠ g5 from by have h1 := L4.out.2; omega)))
            rw [hG] at hst
            exact hst
        have st_4_5 : ∀ (g4 : Nat) (g5 : Nat) (W : World) (HBC : Hid (Below wr.heap.size wr W)) (G4 : Hid (W.heap[g4]? = some (.cells #[.int .i64 0, .string ⟨#[]⟩, .int .i64 0, .string ⟨#[]⟩] 37 (0, 0)))) (L4 : Hid (wr.heap.size ≤ g4 ∧ g4 < W.heap.size)) (G5 : Hid (W.heap[g5]? = some (.cells #[.int .i64 0, .string ⟨#[]⟩, .int .i64 0, .string ⟨#[]⟩] 37 (0, 0)))) (L5 : Hid (wr.heap.size ≤ g5 ∧ g5 < W.heap.size)) (NE : Hid (g4 ≠ g5)), G 4 #[true, false, true, false, true, true, false, false] ⟨#[agB b A c D d, .pointer (some ⟨w.heap.size, 0, none⟩), u2, .int .i64 (k : Nat), .pointer (some ⟨g4, 0, none⟩), .pointer (some ⟨g5, 0, none⟩), .agg #[.int .i64 b.h, .string (strB b.prev), .slice A b.reqs.length c, .slice D b.ress.length d], .bool true, .bool false, .int .i64 (k : Nat), .pointer (some ⟨w.heap.size, 2, none⟩), .slice A b.reqs.length c, .int .i64 (b.reqs.length : Nat), .bool false, .bool false, undef, undef, undef, undef, undef, .bool false, u21, u22, u23, u24, u25, u26, u27, u28, u29, u30, u31, u32, u33, u34, u35, u36, u37, u38, u39, u40, u41, u42, u43, u44, u45, u46, .agg #[.int .i64 b.h, .string (strB b.prev), .slice A b.reqs.length c, .slice D b.ress.length d], undef, .agg #[.int .i64 b.h, .string (strB b.prev), .slice A b.reqs.length c, .slice D b.ress.length d], undef, undef, undef, undef, undef, undef, undef, undef, undef, undef, undef, undef, undef, undef, undef, undef, undef, undef, undef, undef, undef], []⟩ W := by
          intro g4 g5 W HBC G4 L4 G5 L5 NE
          rw [hG]
          have hHeld : ((fun W => W.cell? ⟨w.heap.size, 0, none⟩ = some (.int .i64 b.h) ∧ W.cell? ⟨w.heap.size, 1, none⟩ = some (.string (strB b.prev)) ∧ W.cell? ⟨w.heap.size, 2, none⟩ = some (.slice A b.reqs.length c) ∧ W.cell? ⟨w.heap.size, 3, none⟩ = some (.slice D b.ress.length d))) W := HK.out _ (bel2M HBE.out HBC.out)
          refine wpAnyH_ready (rs := [1]) (by kernel_rfl) (by simp) ?_
          refine AllReadyH.cons (o := ?o56) ?g56 (fun K hK => ?j56) AllReadyH.nil
          case g56 => (simp only [gA, gB, gC]; rfl)
          case j56 =>
            go_simp
            (go_at_call 12; refine (HHD.out _ (bel2M HB0.out (bel2M HBE.out HBC.out))).mono ?_)
            rintro e wx ⟨rfl, hbm⟩
            refine hK.out _ _ (by (try dsimp only); exact HK.out _ (bel2M HBE.out (bel2M HBC.out hbm))) (fun _ => ?_)
            (try simp only [Act.put, sA, sB, sC])
            refine wpAnyH_norm (fuel' := 3) (listed' := #[true, true, true, false, true, true, false, false]) (by kernel_rfl) (by kernel_rfl) ?_
            have hst := st_1_4_5 g4 g5 _ (Lib.hid (bel2M HBC.out hbm)) (Lib.hid (heapB G4.out hbm)) (Lib.hid (⟨L4.out.1, Nat.lt_of_lt_of_le L4.out.2 hbm.size⟩)) (Lib.hid (heapB G5.out hbm)) (Lib.hid (⟨L5.out.1, Nat.lt_of_lt_of_le L5.out.2 hbm.size⟩)) (Lib.hid (NE.out))
            rw [hG] at hst
            exact hst
        have st_1_5 : ∀ (g5 : Nat) (W : World) (HBC : Hid (Below wr.heap.size wr W)) (G5 : Hid (W.heap[g5]? = some (.cells #[.int .i64 0, .string ⟨#[]⟩, .int .i64 0, .string ⟨#[]⟩] 37 (0, 0)))) (L5 : Hid (wr.heap.size ≤ g5 ∧ g5 < W.heap.size)), G 4 #[true, true, true, false, false, true, false, false] ⟨#[agB b A c D d, .pointer (some ⟨w.heap.size, 0, none⟩), u2, .int .i64 (k : Nat), undef, .pointer (some ⟨g5, 0, none⟩), .agg #[.int .i64 b.h, .string (strB b.prev), .slice A b.reqs.length c, .slice D b.ress.length d], .bool true, .bool false, .int .i64 (k : Nat), .pointer (some ⟨w.heap.size, 2, none⟩), .slice A b.reqs.length c, .int .i64 (b.reqs.length : Nat), .bool false, .bool false, undef, undef, undef, undef, undef, .bool false, u21, u22, u23, u24, u25, u26, u27, u28, u29, u30, u31, u32, u33, u34, u35, u36, u37, u38, u39, u40, u41, u42, u43, u44, u45, u46, .agg #[.int .i64 b.h, .string (strB b.prev), .slice A b.reqs.length c, .slice D b.ress.length d], agH b.h b.prev (n : Nat) rt, .agg #[.int .i64 b.h, .string (strB b.prev), .slice A b.reqs.length c, .slice D b.ress.length d], undef, undef, undef, undef, undef, undef, undef, undef, undef, undef, undef, undef, undef, undef, undef, undef, undef, undef, undef, undef, undef], []⟩ W := by
          intro g5 W HBC G5 L5
          rw [hG]
          have hHeld : ((fun W => W.cell? ⟨w.heap.size, 0, none⟩ = some (.int .i64 b.h) ∧ W.cell? ⟨w.heap.size, 1, none⟩ = some (.string (strB b.prev)) ∧ W.cell? ⟨w.heap.size, 2, none⟩ = some (.slice A b.reqs.length c) ∧ W.cell? ⟨w.heap.size, 3, none⟩ = some (.slice D b.ress.length d))) W := HK.out _ (bel2M HBE.out HBC.out)
          refine wpAnyH_ready (rs := [3, 4]) (by kernel_rfl) (by simp) ?_
          refine AllReadyH.cons (o := ?o57) ?g57 (fun K hK => ?j57) (AllReadyH.cons (o := ?o58) ?g58 (fun K hK => ?j58) AllReadyH.nil)
          case g57 => (simp only [gA, gB, gC]; rfl)
          case g58 => (simp only [gA, gB, gC]; rfl)
          case j57 =>
            go_simp
            (go_at_call 13; refine (HRH.out _ (bel2M HB0.out (bel2M HBE.out HBC.out))).mono ?_)
            rintro e wx ⟨rfl, hbm⟩
            refine hK.out _ _ (by (try dsimp only); exact HK.out _ (bel2M HBE.out (bel2M HBC.out hbm))) (fun _ => ?_)
            (try simp only [Act.put, sA, sB, sC])
            refine wpAnyH_norm (fuel' := 3) (listed' := #[true, true, true, true, false, true, false, false]) (by kernel_rfl) (by kernel_rfl) ?_
            have hst := st_1_3_5 g5 _ (Lib.hid (bel2M HBC.out hbm)) (Lib.hid (heapB G5.out hbm)) (Lib.hid (⟨L5.out.1, Nat.lt_of_lt_of_le L5.out.2 hbm.size⟩))
            rw [hG] at hst
            exact hst
          case j58 =>
            refine step_alloc rfl 37 rfl #[.int .i64 0, .string ⟨#[]⟩, .int .i64 0, .string ⟨#[]⟩] 37 (fun W => by go_simp) ?_
            intro g4 w' hg hbm hge
            have G4 := Lib.hid hg
            have L4 := Lib.hid (And.intro (Nat.le_trans HBC.out.size hge) (Array.getElem?_eq_some_iff.1 hg).1)
            refine hK.out _ _ (by (try dsimp only); exact HK.out _ (bel2M HBE.out (bel2M HBC.out hbm))) (fun _ => ?_)
            (try simp only [Act.put, sA, sB, sC])
            refine wpAnyH_norm (fuel' := 3) (listed' := #[true, true, true, false, true, true, false, false]) (by kernel_rfl) (by kernel_rfl) ?_
            have hst := st_1_4_5 g4 g5 _ (Lib.hid (bel2M HBC.out hbm)) G4 L4 (Lib.hid (heapB G5.out hbm)) (Lib.hid (⟨L5.out.1, Nat.lt_of_lt_of_le L5.out.2 hbm.size⟩)) (Lib.hid ((show g4 ≠ g5 from by have h1 := L5.out.2; omega)))
            rw [hG] at hst
            exact hst
        have st_1_4 : ∀ (g4 : Nat) (W : World) (HBC : Hid (Below wr.heap.size wr W)) (G4 : Hid (W.heap[g4]? = some (.cells #[.int .i64 0, .string ⟨#[]⟩, .int .i64 0, .string ⟨#[]⟩] 37 (0, 0)))) (L4 : Hid (wr.heap.size ≤ g4 ∧ g4 < W.heap.size)), G 4 #[true, true, true, false, true, false, false, false] ⟨#[agB b A c D d, .pointer (some ⟨w.heap.size, 0, none⟩), u2, .int .i64 (k : Nat), .pointer (some ⟨g4, 0, none⟩), undef, .agg #[.int .i64 b.h, .string (strB b.prev), .slice A b.reqs.length c, .slice D b.ress.length d], .bool true, .bool false, .int .i64 (k : Nat), .pointer (some ⟨w.heap.size, 2, none⟩), .slice A b.reqs.length c, .int .i64 (b.reqs.length : Nat), .bool false, .bool false, undef, undef, undef, undef, undef, .bool false, u21, u22, u23, u24, u25, u26, u27, u28, u29, u30, u31, u32, u33, u34, u35, u36, u37, u38, u39, u40, u41, u42, u43, u44, u45, u46, .agg #[.int .i64 b.h, .string (strB b.prev), .slice A b.reqs.length c, .slice D b.ress.length d], agH b.h b.prev (n : Nat) rt, .agg #[.int .i64 b.h, .string (strB b.prev), .slice A b.reqs.length c, .slice D b.ress.length d], undef, undef, undef, undef, undef, undef, undef, undef, undef, undef, undef, undef, undef, undef, undef, undef, undef, undef, undef, undef, undef], []⟩ W := by
          intro g4 W HBC G4 L4
          rw [hG]
          have hHeld : ((fun W => W.cell? ⟨w.heap.size, 0, none⟩ = some (.int .i64 b.h) ∧ W.cell? ⟨w.heap.size, 1, none⟩ = some (.string (strB b.prev)) ∧ W.cell? ⟨w.heap.size, 2, none⟩ = some (.slice A b.reqs.length c) ∧ W.cell? ⟨w.heap.size, 3, none⟩ = some (.slice D b.ress.length d))) W := HK.out _ (bel2M HBE.out HBC.out)
          refine wpAnyH_ready (rs := [3, 5]) (by kernel_rfl) (by simp) ?_
          refine AllReadyH.cons (o := ?o59) ?g59 (fun K hK => ?j59) (AllReadyH.cons (o := ?o60) ?g60 (fun K hK => ?j60) AllReadyH.nil)
          case g59 => (simp only [gA, gB, gC]; rfl)
          case g60 => (simp only [gA, gB, gC]; rfl)
          case j59 =>
            go_simp
            (go_at_call 13; refine (HRH.out _ (bel2M HB0.out (bel2M HBE.out HBC.out))).mono ?_)
            rintro e wx ⟨rfl, hbm⟩
            refine hK.out _ _ (by (try dsimp only); exact HK.out _ (bel2M HBE.out (bel2M HBC.out hbm))) (fun _ => ?_)
            (try simp only [Act.put, sA, sB, sC])
            refine wpAnyH_norm (fuel' := 3) (listed' := #[true, true, true, true, true, false, false, false]) (by kernel_rfl) (by kernel_rfl) ?_
            have hst := st_1_3_4 g4 _ (Lib.hid (bel2M HBC.out hbm)) (Lib.hid (heapB G4.out hbm)) (Lib.hid (⟨L4.out.1, Nat.lt_of_lt_of_le L4.out.2 hbm.size⟩))
            rw [hG] at hst
            exact hst
          case j60 =>
            refine step_alloc rfl 37 rfl #[.int .i64 0, .string ⟨#[]⟩, .int .i64 0, .string ⟨#[]⟩] 37 (fun W => by go_simp) ?_
            intro g5 w' hg hbm hge
            have G5 := Lib.hid hg
            have L5 := Lib.hid (And.intro (Nat.le_trans HBC.out.size hge) (Array.getElem?_eq_some_iff.1 hg).1)
            refine hK.out _ _ (by (try dsimp only); exact HK.out _ (bel2M HBE.out (bel2M HBC.out hbm))) (fun _ => ?_)
            (try simp only [Act.put, sA, sB, sC])
            refine wpAnyH_norm (fuel' := 3) (listed' := #[true, true, true, false, true, true, false, false]) (by kernel_rfl) (by kernel_rfl) ?_
            have hst := st_1_4_5 g4 g5 _ (Lib.hid (bel2M HBC.out hbm)) (Lib.hid (heapB G4.out hbm)) (Lib.hid (⟨L4.out.1, Nat.lt_of_lt_of_le L4.out.2 hbm.size⟩)) G5 L5 (Lib.hid ((show g4 ≠ g5 from by have h1 := L4.out.2; omega)))
            rw [hG] at hst
            exact hst
        have st_1_3 : ∀  (W : World) (HBC : Hid (Below wr.heap.size wr W)) , G 4 #[true, true, true, true, false, false, false, false] ⟨#[agB b A c D d, .pointer (some ⟨w.heap.size, 0, none⟩), u2, .int .i64 (k : Nat), undef, undef, .agg #[.int .i64 b.h, .string (strB b.prev), .slice A b.reqs.length c, .slice D b.ress.length d], .bool true, .bool false, .int .i64 (k : Nat), .pointer (some ⟨w.heap.size, 2, none⟩), .slice A b.reqs.length c, .int .i64 (b.reqs.length : Nat), .bool false, .bool false, undef, undef, undef, undef, undef, .bool false, u21, u22, u23, u24, u25, u26, u27, u28, u29, u30, u31, u32, u33, u34, u35, u36, u37, u38, u39, u40, u41, u42, u43, u44, u45, u46, .agg #[.int .i64 b.h, .string (strB b.prev), .slice A b.reqs.length c, .slice D b.ress.length d], agH b.h b.prev (n : Nat) rt, .agg #[.int .i64 b.h, .string (strB b.prev), .slice A b.reqs.length c, .slice D b.ress.length d], agH b.h b.prev (n : Nat) rt, undef, undef, undef, undef, undef, undef, undef, undef, undef, undef, undef, undef, undef, undef, undef, undef, undef, undef, undef, undef], []⟩ W := by
          intro  W HBC 
          rw [hG]
          have hHeld : ((fun W => W.cell? ⟨w.heap.size, 0, none⟩ = some (.int .i64 b.h) ∧ W.cell? ⟨w.heap.size, 1, none⟩ = some (.string (strB b.prev)) ∧ W.cell? ⟨w.heap.size, 2, none⟩ = some (.slice A b.reqs.length c) ∧ W.cell? ⟨w.heap.size, 3, none⟩ = some (.slice D b.ress.length d))) W := HK.out _ (bel2M HBE.out HBC.out)
          refine wpAnyH_ready (rs := [4, 5]) (by kernel_rfl) (by simp) ?_
          refine AllReadyH.cons (o := ?o61) ?g61 (fun K hK => ?j61) (AllReadyH.cons (o := ?o62) ?g62 (fun K hK => ?j62) AllReadyH.nil)
          case g61 => (simp only [gA, gB, gC]; rfl)
          case g62 => (simp only [gA, gB, gC]; rfl)
          case j61 =>
            refine step_alloc rfl 37 rfl #[.int .i64 0, .string ⟨#[]⟩, .int .i64 0, .string ⟨#[]⟩] 37 (fun W => by go_simp) ?_
            intro g4 w' hg hbm hge
            have G4 := Lib.hid hg
            have L4 := Lib.hid (And.intro (Nat.le_trans HBC.out.size hge) (Array.getElem?_eq_some_iff.1 hg).1)
            refine hK.out _ _ (by (try dsimp only); exact HK.out _ (bel2M HBE.out (bel2M HBC.out hbm))) (fun _ => ?_)
            (try simp only [Act.put, sA, sB, sC])
            refine wpAnyH_norm (fuel' := 3) (listed' := #[true, true, true, true, true, false, false, false]) (by kernel_rfl) (by kernel_rfl) ?_
            have hst := st_1_3_4 g4 _ (Lib.hid (bel2M HBC.out hbm)) G4 L4
            rw [hG] at hst
            exact hst
          case j62 =>
            refine step_alloc rfl 37 rfl #[.int .i64 0, .string ⟨#[]⟩, .int .i64 0, .string ⟨#[]⟩] 37 (fun W => by go_simp) ?_
            intro g5 w' hg hbm hge
            have G5 := Lib.hid hg
            have L5 := Lib.hid (And.intro (Nat.le_trans HBC.out.size hge) (Array.getElem?_eq_some_iff.1 hg).1)
            refine hK.out _ _ (by (try dsimp only); exact HK.out _ (bel2M HBE.out (bel2M HBC.out hbm))) (fun _ => ?_)
            (try simp only [Act.put, sA, sB, sC])
            refine wpAnyH_norm (fuel' := 3) (listed' := #[true, true, true, true, false, true, false, false]) (by kernel_rfl) (by kernel_rfl) ?_
            have hst := st_1_3_5 g5 _ (Lib.hid (bel2M HBC.out hbm)) G5 L5
            rw [hG] at hst
            exact hst
        have st_5 : ∀ (g5 : Nat) (W : World) (HBC : Hid (Below wr.heap.size wr W)) (G5 : Hid (W.heap[g5]? = some (.cells #[.int .i64 0, .string ⟨#[]⟩, .int .i64 0, .string ⟨#[]⟩] 37 (0, 0)))) (L5 : Hid (wr.heap.size ≤ g5 ∧ g5 < W.heap.size)), G 5 #[true, false, true, false, false, true, false, false] ⟨#[agB b A c D d, .pointer (some ⟨w.heap.size, 0, none⟩), u2, .int .i64 (k : Nat), undef, .pointer (some ⟨g5, 0, none⟩), .agg #[.int .i64 b.h, .string (strB b.prev), .slice A b.reqs.length c, .slice D b.ress.length d], .bool true, .bool false, .int .i64 (k : Nat), .pointer (some ⟨w.heap.size, 2, none⟩), .slice A b.reqs.length c, .int .i64 (b.reqs.length : Nat), .bool false, .bool false, undef, undef, undef, undef, undef, .bool false, u21, u22, u23, u24, u25, u26, u27, u28, u29, u30, u31, u32, u33, u34, u35, u36, u37, u38, u39, u40, u41, u42, u43, u44, u45, u46, .agg #[.int .i64 b.h, .string (strB b.prev), .slice A b.reqs.length c, .slice D b.ress.length d], undef, .agg #[.int .i64 b.h, .string (strB b.prev), .slice A b.reqs.length c, .slice D b.ress.length d], undef, undef, undef, undef, undef, undef, undef, undef, undef, undef, undef, undef, undef, undef, undef, undef, undef, undef, undef, undef, undef], []⟩ W := by
          intro g5 W HBC G5 L5
          rw [hG]
          have hHeld : ((fun W => W.cell? ⟨w.heap.size, 0, none⟩ = some (.int .i64 b.h) ∧ W.cell? ⟨w.heap.size, 1, none⟩ = some (.string (strB b.prev)) ∧ W.cell? ⟨w.heap.size, 2, none⟩ = some (.slice A b.reqs.length c) ∧ W.cell? ⟨w.heap.size, 3, none⟩ = some (.slice D b.ress.length d))) W := HK.out _ (bel2M HBE.out HBC.out)
          refine wpAnyH_ready (rs := [1, 4]) (by kernel_rfl) (by simp) ?_
          refine AllReadyH.cons (o := ?o63) ?g63 (fun K hK => ?j63) (AllReadyH.cons (o := ?o64) ?g64 (fun K hK => ?j64) AllReadyH.nil)
          case g63 => (simp only [gA, gB, gC]; rfl)
          case g64 => (simp only [gA, gB, gC]; rfl)
          case j63 =>
            go_simp
            (go_at_call 12; refine (HHD.out _ (bel2M HB0.out (bel2M HBE.out HBC.out))).mono ?_)
            rintro e wx ⟨rfl, hbm⟩
            refine hK.out _ _ (by (try dsimp only); exact HK.out _ (bel2M HBE.out (bel2M HBC.out hbm))) (fun _ => ?_)
            (try simp only [Act.put, sA, sB, sC])
            refine wpAnyH_norm (fuel' := 4) (listed' := #[true, true, true, false, false, true, false, false]) (by kernel_rfl) (by kernel_rfl) ?_
            have hst := st_1_5 g5 _ (Lib.hid (bel2M HBC.out hbm)) (Lib.hid (heapB G5.out hbm)) (Lib.hid (⟨L5.out.1, Nat.lt_of_lt_of_le L5.out.2 hbm.size⟩))
            rw [hG] at hst
            exact hst
          case j64 =>
            refine step_alloc rfl 37 rfl #[.int .i64 0, .string ⟨#[]⟩, .int .i64 0, .string ⟨#[]⟩] 37 (fun W => by go_simp) ?_
            intro g4 w' hg hbm hge
            have G4 := Lib.hid hg
            have L4 := Lib.hid (And.intro (Nat.le_trans HBC.out.size hge) (Array.getElem?_eq_some_iff.1 hg).1)
            refine hK.out _ _ (by (try dsimp only); exact HK.out _ (bel2M HBE.out (bel2M HBC.out hbm))) (fun _ => ?_)
            (try simp only [Act.put, sA, sB, sC])
            refine wpAnyH_norm (fuel' := 4) (listed' := #[true, false, true, false, true, true, false, false]) (by kernel_rfl) (by kernel_rfl) ?_
            have hst := st_4_5 g4 g5 _ (Lib.hid (bel2M HBC.out hbm)) G4 L4 (Lib.hid (heapB G5.out hbm)) (Lib.hid (⟨L5.out.1, Nat.lt_of_lt_of_le L5.out.2 hbm.size⟩)) (Lib.hid ((show g4 ≠ g5 from by have h1 := L5.out.2; omega)))
            rw [hG] at hst
            exact hst
        have st_4 : ∀ (g4 : Nat) (W : World) (HBC : Hid (Below wr.heap.size wr W)) (G4 : Hid (W.heap[g4]? = some (.cells #[.int .i64 0, .string ⟨#[]⟩, .int .i64 0, .string ⟨#[]⟩] 37 (0, 0)))) (L4 : Hid (wr.heap.size ≤ g4 ∧ g4 < W.heap.size)), G 5 #[true, false, true, false, true, false, false, false] ⟨#[agB b A c D d, .pointer (some ⟨w.heap.size, 0, none⟩), u2, .int .i64 (k : Nat), .pointer (some ⟨g4, 0, none⟩), undef, .agg #[.int .i64 b.h, .string (strB b.prev), .slice A b.reqs.length c, .slice D b.ress.length d], .bool true, .bool false, .int .i64 (k : Nat), .pointer (some ⟨w.heap.size, 2, none⟩), .slice A b.reqs.length c, .int .i64 (b.reqs.length : Nat), .bool false, .bool false, undef, undef, undef, undef, undef, .bool false, u21, u22, u23, u24, u25, u26, u27, u28, u29, u30, u31, u32, u33, u34, u35, u36, u37, u38, u39, u40, u41, u42, u43, u44, u45, u46, .agg #[.int .i64 b.h, .string (strB b.prev), .slice A b.reqs.length c, .slice D b.ress.length d], undef, .agg #[.int .i64 b.h, .string (strB b.prev), .slice A b.reqs.length c, .slice D b.ress.length d], undef, undef, undef, undef, undef, undef, undef, undef, undef, undef, undef, undef, undef, undef, undef, undef, undef, undef, undef, undef, undef], []⟩ W := by
          intro g4 W HBC G4 L4
          rw [hG]
          have hHeld : ((fun W => W.cell? ⟨w.heap.size, 0, none⟩ = some (.int .i64 b.h) ∧ W.cell? ⟨w.heap.size, 1, none⟩ = some (.string (strB b.prev)) ∧ W.cell? ⟨w.heap.size, 2, none⟩ = some (.slice A b.reqs.length c) ∧ W.cell? ⟨w.heap.size, 3, none⟩ = some (.slice D b.ress.length d))) W := HK.out _ (bel2M HBE.out HBC.out)
          refine wpAnyH_ready (rs := [1, 5]) (by kernel_rfl) (by simp) ?_
          refine AllReadyH.cons (o := ?o65) ?g65 (fun K hK => ?j65) (AllReadyH.cons (o := ?o66) ?g66 (fun K hK => ?j66) AllReadyH.nil)
          case g65 => (simp only [gA, gB, gC]; rfl)
          case g66 => (simp only [gA, gB, gC]; rfl)
          case j65 =>
            go_simp
            (go_at_call 12; refine (HHD.out _ (bel2M HB0.out (bel2M HBE.out HBC.out))).mono ?_)
            rintro e wx ⟨rfl, hbm⟩
            refine hK.out _ _ (by (try dsimp only); exact HK.out _ (bel2M HBE.out (bel2M HBC.out hbm))) (fun _ => ?_)
            (try simp only [Act.put, sA, sB, sC])
            refine wpAnyH_norm (fuel' := 4) (listed' := #[true, true, true, false, true, false, false, false]) (by kernel_rfl) (by kernel_rfl) ?_
            have hst := st_1_4 g4 _ (Lib.hid (bel2M HBC.out hbm)) (Lib.hid (heapB G4.out hbm)) (Lib.hid (⟨L4.out.1, Nat.lt_of_lt_of_le L4.out.2 hbm.size⟩))
            rw [hG] at hst
            exact hst
          case j66 =>
            refine step_alloc rfl 37 rfl #[.int .i64 0, .string ⟨#[]⟩, .int .i64 0, .string ⟨#[]⟩] 37 (fun W => by go_simp) ?_
            intro g5 w' hg hbm hge
            have G5 := Lib.hid hg
            have L5 := Lib.hid (And.intro (Nat.le_trans HBC.out.size hge) (Array.getElem?_eq_some_iff.1 hg).1)
            refine hK.out _ _ (by (try dsimp only); exact HK.out _ (bel2M HBE.out (bel2M HBC.out hbm))) (fun _ => ?_)
            (try simp only [Act.put, sA, sB, sC])
            refine wpAnyH_norm (fuel' := 4) (listed' := #[true, false, true, false, true, true, false, false]) (by kernel_rfl) (by kernel_rfl) ?_
            have hst := st_4_5 g4 g5 _ (Lib.hid (bel2M HBC.out hbm)) (Lib.hid (heapB G4.out hbm)) (Lib.hid (⟨L4.out.1, Nat.lt_of_lt_of_le L4.out.2 hbm.size⟩)) G5 L5 (Lib.hid ((show g4 ≠ g5 from by have h1 := L4.out.2; omega)))
            rw [hG] at hst
            exact hst
        have st_1 : ∀  (W : World) (HBC : Hid (Below wr.heap.size wr W)) , G 5 #[true, true, true, false, false, false, false, false] ⟨#[agB b A c D d, .pointer (some ⟨w.heap.size, 0, none⟩), u2, .int .i64 (k : Nat), undef, undef, .agg #[.int .i64 b.h, .string (strB b.prev), .slice A b.reqs.length c, .slice D b.ress.length d], .bool true, .bool false, .int .i64 (k : Nat), .pointer (some ⟨w.heap.size, 2, none⟩), .slice A b.reqs.length c, .int .i64 (b.reqs.length : Nat), .bool false, .bool false, undef, undef, undef, undef, undef, .bool false, u21, u22, u23, u24, u25, u26, u27, u28, u29, u30, u31, u32, u33, u34, u35, u36, u37, u38, u39, u40, u41, u42, u43, u44, u45, u46, .agg #[.int .i64 b.h, .string (strB b.prev), .slice A b.reqs.length c, .slice D b.ress.length d], agH b.h b.prev (n : Nat) rt, .agg #[.int .i64 b.h, .string (strB b.prev), .slice A b.reqs.length c, .slice D b.ress.length d], undef, undef, undef, undef, undef, undef, undef, undef, undef, undef, undef, undef, undef, undef, undef, undef, undef, undef, undef, undef, undef], []⟩ W := by
          intro  W HBC 
          rw [hG]
          have hHeld : ((fun W => W.cell? ⟨w.heap.size, 0, none⟩ = some (.int .i64 b.h) ∧ W.cell? ⟨w.heap.size, 1, none⟩ = some (.string (strB b.prev)) ∧ W.cell? ⟨w.heap.size, 2, none⟩ = some (.slice A b.reqs.length c) ∧ W.cell? ⟨w.heap.size, 3, none⟩ = some (.slice D b.ress.length d))) W := HK.out _ (bel2M HBE.out HBC.out)
          refine wpAnyH_ready (rs := [3, 4, 5]) (by kernel_rfl) (by simp) ?_
          refine AllReadyH.cons (o := ?o67) ?g67 (fun K hK => ?j67) (AllReadyH.cons (o := ?o68) ?g68 (fun K hK => ?j68) (AllReadyH.cons (o := ?o69) ?g69 (fun K hK => ?j69) AllReadyH.nil))
          case g67 => (simp only [gA, gB, gC]; rfl)
          case g68 => (simp only [gA, gB, gC]; rfl)
          case g69 => (simp only [gA, gB, gC]; rfl)
          case j67 =>
            go_simp
            (go_at_call 13; refine (HRH.out _ (bel2M HB0.out (bel2M HBE.out HBC.out))).mono ?_)
            rintro e wx ⟨rfl, hbm⟩
            refine hK.out _ _ (by (try dsimp only); exact HK.out _ (bel2M HBE.out (bel2M HBC.out hbm))) (fun _ => ?_)
            (try simp only [Act.put, sA, sB, sC])
            refine wpAnyH_norm (fuel' := 4) (listed' := #[true, true, true, true, false, false, false, false]) (by kernel_rfl) (by kernel_rfl) ?_
            have hst := st_1_3  _ (Lib.hid (bel2M HBC.out hbm)) 
            rw [hG] at hst
            exact hst
          case j68 =>
            refine step_alloc rfl 37 rfl #[.int .i64 0, .string ⟨#[]⟩, .int .i64 0, .string ⟨#[]⟩] 37 (fun W => by go_simp) ?_
            intro g4 w' hg hbm hge
            have G4 := Lib.hid hg
            have L4 := Lib.hid (And.intro (Nat.le_trans HBC.out.size hge) (Array.getElem?_eq_some_iff.1 hg).1)
            refine hK.out _ _ (by (try dsimp only); exact HK.out _ (bel2M HBE.out (bel2M HBC.out hbm))) (fun _ => ?_)
            (try simp only [Act.put, sA, sB, sC])
            refine wpAnyH_norm (fuel' := 4) (listed' := #[true, true, true, false, true, false, false, false]) (by kernel_rfl) (by kernel_rfl) ?_
            have hst := st_1_4 g4 _ (Lib.hid (bel2M HBC.out hbm)) G4 L4
            rw [hG] at hst
            exact hst
          case j69 =>
            refine step_alloc rfl 37 rfl #[.int .i64 0, .string ⟨#[]⟩, .int .i64 0, .string ⟨#[]⟩] 37 (fun W => by go_simp) ?_
            intro g5 w' hg hbm hge
            have G5 := Lib.hid hg
            have L5 := Lib.hid (And.intro (Nat.le_trans HBC.out.size hge) (Array.getElem?_eq_some_iff.1 hg).1)
            refine hK.out _ _ (by (try dsimp only); exact HK.out _ (bel2M HBE.out (bel2M HBC.out hbm))) (fun _ => ?_)
            (try simp only [Act.put, sA, sB, sC])
            refine wpAnyH_norm (fuel' := 4) (listed' := #[true, true, true, false, false, true, false, false]) (by kernel_rfl) (by kernel_rfl) ?_
            have hst := st_1_5 g5 _ (Lib.hid (bel2M HBC.out hbm)) G5 L5
            rw [hG] at hst
            exact hst
        have st : ∀  (W : World) (HBC : Hid (Below wr.heap.size wr W)) , G 6 #[true, false, true, false, false, false, false, false] ⟨#[agB b A c D d, .pointer (some ⟨w.heap.size, 0, none⟩), u2, .int .i64 (k : Nat), undef, undef, .agg #[.int .i64 b.h, .string (strB b.prev), .slice A b.reqs.length c, .slice D b.ress.length d], .bool true, .bool false, .int .i64 (k : Nat), .pointer (some ⟨w.heap.size, 2, none⟩), .slice A b.reqs.length c, .int .i64 (b.reqs.length : Nat), .bool false, .bool false, undef, undef, undef, undef, undef, .bool false, u21, u22, u23, u24, u25, u26, u27, u28, u29, u30, u31, u32, u33, u34, u35, u36, u37, u38, u39, u40, u41, u42, u43, u44, u45, u46, .agg #[.int .i64 b.h, .string (strB b.prev), .slice A b.reqs.length c, .slice D b.ress.length d], undef, .agg #[.int .i64 b.h, .string (strB b.prev), .slice A b.reqs.length c, .slice D b.ress.length d], undef, undef, undef, undef, undef, undef, undef, undef, undef, undef, undef, undef, undef, undef, undef, undef, undef, undef, undef, undef, undef], []⟩ W := by
          intro  W HBC 
          rw [hG]
          have hHeld : ((fun W => W.cell? ⟨w.heap.size, 0, none⟩ = some (.int .i64 b.h) ∧ W.cell? ⟨w.heap.size, 1, none⟩ = some (.string (strB b.prev)) ∧ W.cell? ⟨w.heap.size, 2, none⟩ = some (.slice A b.reqs.length c) ∧ W.cell? ⟨w.heap.size, 3, none⟩ = some (.slice D b.ress.length d))) W := HK.out _ (bel2M HBE.out HBC.out)
          refine wpAnyH_ready (rs := [1, 4, 5]) (by kernel_rfl) (by simp) ?_
          refine AllReadyH.cons (o := ?o70) ?g70 (fun K hK => ?j70) (AllReadyH.cons (o := ?o71) ?g71 (fun K hK => ?j71) (AllReadyH.cons (o := ?o72) ?g72 (fun K hK => ?j72) AllReadyH.nil))
          case g70 => (simp only [gA, gB, gC]; rfl)
          case g71 => (simp only [gA, gB, gC]; rfl)
          case g72 => (simp only [gA, gB, gC]; rfl)
          case j70 =>
            go_simp
            (go_at_call 12; refine (HHD.out _ (bel2M HB0.out (bel2M HBE.out HBC.out))).mono ?_)
            rintro e wx ⟨rfl, hbm⟩
            refine hK.out _ _ (by (try dsimp only); exact HK.out _ (bel2M HBE.out (bel2M HBC.out hbm))) (fun _ => ?_)
            (try simp only [Act.put, sA, sB, sC])
            refine wpAnyH_norm (fuel' := 5) (listed' := #[true, true, true, false, false, false, false, false]) (by kernel_rfl) (by kernel_rfl) ?_
            have hst := st_1  _ (Lib.hid (bel2M HBC.out hbm)) 
            rw [hG] at hst
            exact hst
          case j71 =>
            refine step_alloc rfl 37 rfl #[.int .i64 0, .string ⟨#[]⟩, .int .i64 0, .string ⟨#[]⟩] 37 (fun W => by go_simp) ?_
            intro g4 w' hg hbm hge
            have G4 := Lib.hid hg
            have L4 := Lib.hid (And.intro (Nat.le_trans HBC.out.size hge) (Array.getElem?_eq_some_iff.1 hg).1)
            refine hK.out _ _ (by (try dsimp only); exact HK.out _ (bel2M HBE.out (bel2M HBC.out hbm))) (fun _ => ?_)
            (try simp only [Act.put, sA, sB, sC])
            refine wpAnyH_norm (fuel' := 5) (listed' := #[true, false, true, false, true, false, false, false]) (by kernel_rfl) (by kernel_rfl) ?_
            have hst := st_4 g4 _ (Lib.hid (bel2M HBC.out hbm)) G4 L4
            rw [hG] at hst
            exact hst
          case j72 =>
            refine step_alloc rfl 37 rfl #[.int .i64 0, .string ⟨#[]⟩, .int .i64 0, .string ⟨#[]⟩] 37 (fun W => by go_simp) ?_
            intro g5 w' hg hbm hge
            have G5 := Lib.hid hg
            have L5 := Lib.hid (And.intro (Nat.le_trans HBC.out.size hge) (Array.getElem?_eq_some_iff.1 hg).1)
            refine hK.out _ _ (by (try dsimp only); exact HK.out _ (bel2M HBE.out (bel2M HBC.out hbm))) (fun _ => ?_)
            (try simp only [Act.put, sA, sB, sC])
            refine wpAnyH_norm (fuel' := 5) (listed' := #[true, false, true, false, false, true, false, false]) (by kernel_rfl) (by kernel_rfl) ?_
            have hst := st_5 g5 _ (Lib.hid (bel2M HBC.out hbm)) G5 L5
            rw [hG] at hst
            exact hst
        exact st _ (Lib.hid (HBC.out))

theorem leaves_pb {b : Blk} (h : FewB b) (i : Nat) : PB (stepsT (leavesB b) i) := by
  obtain ⟨h1, h2⟩ := h.sum
  refine ⟨?_, fun s hs => Nat.le_trans (stepsT_in (leavesB b) i 11000 h2 s hs) (by omega)⟩
  rw [steps_len]
  exact Nat.le_trans (sides_le 6 _ _ (by omega)) (by omega)
theorem prove_zero {b : Blk} {i : Int} (h : (proveB b i).2 = 0) : ∃ k : Nat, i = k ∧ k < (leavesB b).length ∧ (proveB b i).1 = stepsT (leavesB b) k := by
  unfold proveB at h ⊢
  by_cases hc : checkB b = 0
  · rw [if_pos hc] at h ⊢
    unfold pathT at h ⊢
    by_cases hi : 0 ≤ i ∧ i < (leavesB b).length
    · rw [if_pos hi]
      exact ⟨i.toNat, by omega, by omega, rfl⟩
    · rw [if_neg hi] at h
      exact absurd h (by decide)
  · rw [if_neg hc] at h
    exact absurd h hc
set_option maxHeartbeats 4000000 in
theorem BlockProves_any (b : Blk) (A : Option Addr) (c : Nat) (D : Option Addr) (d : Nat) (i : Int) (w : World) (hb : BlkK w b A c D d) : Calls Try.prog 4 #[agB b A c D d, .int .i64 i] w (Yes w) := by
  have x1 := heap_alloc_new w (.cells #[.int .i64 b.h, .string (strB b.prev), .slice A b.reqs.length c, .slice D b.ress.length d] 26)
  have x3 := alloc1B w (.cells #[.int .i64 b.h, .string (strB b.prev), .slice A b.reqs.length c, .slice D b.ress.length d] 26)
  have HF := Lib.hid (fun W (h : Below w.heap.size w W) => few10_any b A c D d W (hb.below h))
  have HW := Lib.hid (fun W => awake10_any W)
  have HB0 := Lib.hid x3
  generalize hw0 : (w.alloc (.cells #[.int .i64 b.h, .string (strB b.prev), .slice A b.reqs.length c, .slice D b.ress.length d] 26)) = w0 at *
  have HW0 := Lib.hid hw0
  have HX1 := Lib.hid x1
  have HK := Lib.hid (show ∀ W, Below w0.heap.size w0 W → (fun W => W.cell? ⟨w.heap.size, 0, none⟩ = some (.int .i64 b.h) ∧ W.cell? ⟨w.heap.size, 1, none⟩ = some (.string (strB b.prev)) ∧ W.cell? ⟨w.heap.size, 2, none⟩ = some (.slice A b.reqs.length c) ∧ W.cell? ⟨w.heap.size, 3, none⟩ = some (.slice D b.ress.length d)) W from fun W h => ⟨cellB (rowCell x1 0 _ rfl) h, cellB (rowCell x1 1 _ rfl) h, cellB (rowCell x1 2 _ rfl) h, cellB (rowCell x1 3 _ rfl) h⟩)
  clear x1 x3 hw0
  obtain ⟨p0, p1, p2, p3⟩ := HK.out w0 (Below.refl _ _)
  rcases hf : fewBB b with _ | _
  · rw [hf] at HF
    clear hf hb
    go_enter Try.func4, Try.ntmps4
    go_upto_region 1 with fail
    rw [HW0.out]
    go_wp2_with (first
      | (go_at_call 8; refine (HF.out _ HB0.out).mono ?_; rintro e w1 ⟨rfl, hb1⟩; have HB1 := Lib.hid hb1; clear hb1; obtain ⟨p0, p1, p2, p3⟩ := HK.out _ HB1.out))
    go_ret
    exact ⟨rfl, bel2M HB0.out HB1.out⟩
  rw [hf] at HF
  have fb := fewBB_iff.1 hf
  have HPV := Lib.hid (fun W (h : Below w.heap.size w W) => bProve_any b A c D d i W (hb.below h) fb)
  have HRV := Lib.hid (fun W (h : Below w.heap.size w W) => rbProve_any b A c D d i W (hb.below h) fb)
  have hz := prove_zero (b := b) (i := i)
  clear hf
  generalize proveB b i = pv at *
  obtain ⟨pl, x⟩ := pv
  simp only at hz
  by_cases hx : x = 0
  case neg =>
    have hxn : (x != 0) = true := by simpa using hx
    clear hz hx hb fb
    go_enter Try.func4, Try.ntmps4
    go_upto_region 1 with fail
    rw [HW0.out]
    go_upto_region 7 with (first
      | (go_at_call 8; refine (HF.out _ HB0.out).mono ?_; rintro e w1 ⟨rfl, hb1⟩; have HB1 := Lib.hid hb1; clear hb1; obtain ⟨p0, p1, p2, p3⟩ := HK.out _ HB1.out)
      | (go_at_call 19; refine (HPV.out _ (bel2M HB0.out HB1.out)).mono ?_; rintro e w2 ⟨PA, pc, rfl, hk2, hb2⟩; have HK2 := Lib.hid hk2; have HB2 := Lib.hid (bel2M HB1.out hb2); clear hk2 hb2; obtain ⟨p0, p1, p2, p3⟩ := HK.out _ HB2.out)
      | (go_at_call 20; refine (HRV.out _ (bel2M HB0.out HB2.out)).mono ?_; rintro e w3 ⟨PB', pd, rfl, hk3, hb3⟩; have HK3 := Lib.hid hk3; have HK4 := Lib.hid (PthK.below HK2.out hb3); have HB3 := Lib.hid (bel2M HB2.out hb3); clear hk3 hb3; obtain ⟨p0, p1, p2, p3⟩ := HK.out _ HB3.out)
      | (go_at_call 21; refine (Same9_true pl _ _ _ _ _ HK4.out HK3.out).mono ?_; rintro e w4 ⟨rfl, hb4⟩; have HK5 := Lib.hid (PthK.below HK4.out hb4); have HB4 := Lib.hid (bel2M HB3.out hb4); clear hb4; obtain ⟨p0, p1, p2, p3⟩ := HK.out _ HB4.out))
    have HBC := Lib.hid (show Below w0.heap.size w0 w4.drew from HB4.out.drew)
    refine wp_region_held_drew (S := (fun _ => True)) (by kernel_rfl) (trivial) (fun hHeld => ?_)
    refine tk 0 ?_
    (try simp only [Act.put, sA, sB, sC])
    refine tk 1 ?_
    (try simp only [Act.put, sA, sB, sC])
    refine tk 2 ?_
    (try simp only [Act.put, sA, sB, sC])
    refine sk 3 ?_
    (try simp only [Act.put, sA, sB, sC])
    refine sk 5 ?_
    (try simp only [Act.put, sA, sB, sC])
    refine sk 6 ?_
    (try simp only [Act.put, sA, sB, sC])
    refine sk 8 ?_
    (try simp only [Act.put, sA, sB, sC])
    refine sk 11 ?_
    (try simp only [Act.put, sA, sB, sC])
    refine sk 13 ?_
    (try simp only [Act.put, sA, sB, sC])
    refine sk 16 ?_
    (try simp only [Act.put, sA, sB, sC])
    refine sk 4 ?_
    (try simp only [Act.put, sA, sB, sC])
    refine sk 7 ?_
    (try simp only [Act.put, sA, sB, sC])
    refine sk 9 ?_
    (try simp only [Act.put, sA, sB, sC])
    refine sk 10 ?_
    (try simp only [Act.put, sA, sB, sC])
    refine sk 12 ?_
    (try simp only [Act.put, sA, sB, sC])
    refine sk 14 ?_
    (try simp only [Act.put, sA, sB, sC])
    refine sk 15 ?_
    (try simp only [Act.put, sA, sB, sC])
    refine sk 17 ?_
    (try simp only [Act.put, sA, sB, sC])
    refine sk 18 ?_
    (try simp only [Act.put, sA, sB, sC])
    refine tk 19 ?_
    (try simp only [Act.put, sA, sB, sC])
    refine tk 20 ?_
    (try simp only [Act.put, sA, sB, sC])
    refine wpAnyH_ready (rs := [21]) (by kernel_rfl) (by simp) ?_
    refine AllReadyH.cons (o := ?o22) ?g22 (fun K hK => ?j22) AllReadyH.nil
    case g22 => (simp only [gA, gB, gC]; rfl)
    go_simp
    (go_at_call 18; refine (HW.out _).mono ?_; rintro e wz ⟨rfl, hbz⟩; have HBZ := Lib.hid (bel2M HBC.out hbz); clear hbz)
    refine hK.out _ _ ?_ (fun hHeld => ?_)
    · (try dsimp only); first | done | exact trivial
    clear hK K
    (try simp only [Act.put, sA, sB, sC])
    refine tk 22 ?_
    (try simp only [Act.put, sA, sB, sC])
    refine tk 23 ?_
    (try simp only [Act.put, sA, sB, sC])
    refine wpAnyH_done (by kernel_rfl) ?_ _
    go_wp2
    go_ret
    exact ⟨rfl, bel2M HB0.out HBZ.out⟩
  obtain ⟨k, rfl, hk, hpl⟩ := hz hx
  subst hx
  have hpb := leaves_pb fb k
  rw [← hpl] at hpb
  obtain ⟨hk1, hk2, hle⟩ := leavesB_at b k hk
  have hck := check_steps hk
  rw [hle, ← hpl] at hck
  obtain ⟨ad, hA, hbl, hq⟩ := hb.q.2.2.2 k hk1
  obtain ⟨ae, hD, hbe, hr⟩ := hb.r.2.2.2 k hk2
  subst hA hD
  obtain ⟨c1, bv, c2, hbv⟩ := hq
  have hlen := fb.d _ (List.getElem_mem hk1)
  have hs20 := fb.sum.1
  have HHD := Lib.hid (fun W (h : Below w.heap.size w W) => bHeader_any b (some ad) c (some ae) d W (hb.below h) fb)
  unfold HdP at HHD
  have HIN := Lib.hid (fun PA pc W (h : Below w.heap.size w W) (hp : PthK W PA pc pl) => show Calls Try.prog 22 #[agH b.h b.prev ((leavesB b).length : Nat) (rootB b), .int .i64 (k : Nat), agE (b.reqs[k]).1 bv, agRs b.ress[k], .slice PA pl.length pc] W (ChkP 0 W) from hck ▸ bIncl_any b.h b.prev ((leavesB b).length : Nat) (rootB b) k b.reqs[k] bv b.ress[k] pl PA pc W (by omega) (hbv.below h (Nat.le_refl _)) hlen (hp) hpb)
  have hk1I : (k : Int) < (b.reqs.length : Int) := by omega
  have hk2I : (k : Int) < (b.ress.length : Int) := by omega
  have hbb : (ad.add (k * 2)).block < w.heap.size := by rw [block_add]; exact hbl
  have hbb2 : (ae.add (k * 2)).block < w.heap.size := by rw [block_add]; exact hbe
  have HC1 := Lib.hid c1
  have HC2 := Lib.hid c2
  have HR1 := Lib.hid hr.1
  have HR2 := Lib.hid hr.2
  clear hz hpl hpb hck hle hr c1 c2 hbv hlen hs20 hb fb hk hbl hbe hbb hbb2
  generalize b.reqs[k] = rq at *
  generalize b.ress[k] = rs at *
  clear hk1 hk2
  obtain ⟨rq1, rq2⟩ := rq
  obtain ⟨rs1, rs2⟩ := rs
  simp only at HIN
  generalize rootB b = rt at *
  generalize (leavesB b).length = n at *
  go_enter Try.func4, Try.ntmps4
  go_upto_region 1 with fail
  rw [HW0.out]
  go_upto_region 7 with (first
    | (go_at_call 8; refine (HF.out _ HB0.out).mono ?_; rintro e w1 ⟨rfl, hb1⟩; have HB1 := Lib.hid hb1; clear hb1; obtain ⟨p0, p1, p2, p3⟩ := HK.out _ HB1.out)
    | (go_at_call 19; refine (HPV.out _ (bel2M HB0.out HB1.out)).mono ?_; rintro e w2 ⟨PA, pc, rfl, hk2, hb2⟩; have HK2 := Lib.hid hk2; have HB2 := Lib.hid (bel2M HB1.out hb2); clear hk2 hb2; obtain ⟨p0, p1, p2, p3⟩ := HK.out _ HB2.out)
    | (go_at_call 20; refine (HRV.out _ (bel2M HB0.out HB2.out)).mono ?_; rintro e w3 ⟨PB', pd, rfl, hk3, hb3⟩; have HK3 := Lib.hid hk3; have HK4 := Lib.hid (PthK.below HK2.out hb3); have HB3 := Lib.hid (bel2M HB2.out hb3); clear hk3 hb3; obtain ⟨p0, p1, p2, p3⟩ := HK.out _ HB3.out)
    | (go_at_call 21; refine (Same9_true pl _ _ _ _ _ HK4.out HK3.out).mono ?_; rintro e w4 ⟨rfl, hb4⟩; have HK5 := Lib.hid (PthK.below HK4.out hb4); have HB4 := Lib.hid (bel2M HB3.out hb4); clear hb4; obtain ⟨p0, p1, p2, p3⟩ := HK.out _ HB4.out))
  have HBC := Lib.hid (show Below w0.heap.size w0 w4.drew from HB4.out.drew)
  have HP0 := Lib.hid (show PthK w4.drew PA pc pl from HK5.out)
  have HKK := Lib.hid (show ∀ W, Below w0.heap.size w0 W → (fun W => W.cell? ⟨w.heap.size, 0, none⟩ = some (.int .i64 b.h) ∧ W.cell? ⟨w.heap.size, 1, none⟩ = some (.string (strB b.prev)) ∧ W.cell? ⟨w.heap.size, 2, none⟩ = some (.slice (some ad) b.reqs.length c) ∧ W.cell? ⟨w.heap.size, 3, none⟩ = some (.slice (some ae) b.ress.length d) ∧ W.cell? (ad.add (k * 2)) = some (.int .i64 rq1) ∧ W.cell? ⟨(ad.add (k * 2)).block, (ad.add (k * 2)).off + 1, none⟩ = some bv ∧ W.cell? (ae.add (k * 2)) = some (.int .i64 rs1) ∧ W.cell? ⟨(ae.add (k * 2)).block, (ae.add (k * 2)).off + 1, none⟩ = some (.int .i64 rs2)) W from fun W h => ⟨(HK.out _ h).1, (HK.out _ h).2.1, (HK.out _ h).2.2.1, (HK.out _ h).2.2.2, cellB HC1.out (bel2M HB0.out h), cellB HC2.out (bel2M HB0.out h), cellB HR1.out (bel2M HB0.out h), cellB HR2.out (bel2M HB0.out h)⟩)
  go_region_held3 (fun W => W.cell? ⟨w.heap.size, 0, none⟩ = some (.int .i64 b.h) ∧ W.cell? ⟨w.heap.size, 1, none⟩ = some (.string (strB b.prev)) ∧ W.cell? ⟨w.heap.size, 2, none⟩ = some (.slice (some ad) b.reqs.length c) ∧ W.cell? ⟨w.heap.size, 3, none⟩ = some (.slice (some ae) b.ress.length d) ∧ W.cell? (ad.add (k * 2)) = some (.int .i64 rq1) ∧ W.cell? ⟨(ad.add (k * 2)).block, (ad.add (k * 2)).off + 1, none⟩ = some bv ∧ W.cell? (ae.add (k * 2)) = some (.int .i64 rs1) ∧ W.cell? ⟨(ae.add (k * 2)).block, (ae.add (k * 2)).off + 1, none⟩ = some (.int .i64 rs2)) (first | exact HKK.out _ HBC.out) (first
    | (go_at_call 12; refine (HHD.out _ (bel2M HB0.out HBC.out)).mono ?_; rintro e wx ⟨rfl, hbm⟩; (try replace HP0 := Lib.hid (PthK.below HP0.out hbm)); replace HBC := Lib.hid (bel2M HBC.out hbm); clear hbm)
    | (go_at_call 22; refine (HIN.out _ _ _ (bel2M HB0.out HBC.out) HP0.out).mono ?_; rintro e wx ⟨rfl, hbm⟩; replace HBC := Lib.hid (bel2M HBC.out hbm); clear hbm)
    | (go_at_call 18; refine (HW.out _).mono ?_; rintro e wx ⟨rfl, hbm⟩; replace HBC := Lib.hid (bel2M HBC.out hbm); clear hbm))
  go_wp2
  go_ret
  exact ⟨rfl, bel2M HB0.out HBC.out⟩









theorem sound10 {b : Blk} (hb : OkB b) (fb : FewB b) {e : Int × List UInt8} {r : Int × Int} (he : in64B e.1) (hr : in64B r.1 ∧ in64B r.2) (hl : e.2.length ≤ 500) {i : Int} {p : List (Bool × List UInt8)} (hp : ∀ s ∈ p, s.2.length ≤ 5000) (hn : p.length ≤ 70)
    (h : checkT (rootB b) (leafB e r) i ((leavesB b).length : Nat) p = 0) : ∃ k : Nat, i = k ∧ ∃ (h1 : k < b.reqs.length) (h2 : k < b.ress.length), b.reqs[k] = e ∧ b.ress[k] = r := by
  by_cases hi : 0 ≤ i ∧ i < ((leavesB b).length : Nat)
  · obtain ⟨a, c, rfl, hc, hab⟩ := nats_of hi
    have hc2 : c = (leavesB b).length := by omega
    subst hc2
    rw [checkT_at hab] at h
    by_cases hh : p.map (·.1) = sidesN (leavesB b).length a ∧ climbT (encT 2 [leafB e r]) p = rootB b
    · obtain ⟨h1, h2, h3, h4⟩ := included_sound hb fb he hr hl hab hp hn hh.1 hh.2
      exact ⟨a, rfl, h1, h2, h3, h4⟩
    · rw [if_neg hh] at h
      exact absurd h (by decide)
  · rw [checkT_bad hi] at h
    exact absurd h (by decide)
set_option maxHeartbeats 8000000 in
theorem BlockSound_any (b : Blk) (A : Option Addr) (c : Nat) (D : Option Addr) (d : Nat) (cl : Clm) (bv : Value) (PA : Option Addr) (pc : Nat) (w : World) (hb : BlkK w b A c D d) (ob : OkB b) (hbv : Bs w bv cl.e.2) (hpk : PthK w PA pc cl.p) (hce : in64B cl.e.1) (hcr : in64B cl.r.1 ∧ in64B cl.r.2) : Calls Try.prog 5 #[agB b A c D d, .agg (csClm cl bv PA pc)] w (Yes w) := by
  obtain ⟨BA, bc0, hbs, -⟩ := hbv.open
  subst hbs
  obtain ⟨x1, x2, x3⟩ := box2B w #[.int .i64 b.h, .string (strB b.prev), .slice A b.reqs.length c, .slice D b.ress.length d] #[.int .i64 cl.i, .int .i64 cl.e.1, .slice BA cl.e.2.length bc0, .int .i64 cl.r.1, .int .i64 cl.r.2, .slice PA cl.p.length pc] 26 49
  have HF := Lib.hid (fun W (h : Below w.heap.size w W) => few10_any b A c D d W (hb.below h))
  have HSL := Lib.hid (fun W (h : Below w.heap.size w W) => small10_any cl _ PA pc W (hbv.below h (Nat.le_refl _)) (hpk.below h))
  have HW := Lib.hid (fun W => awake10_any W)
  have HB0 := Lib.hid x3
  generalize hw0 : ((w.alloc (.cells #[.int .i64 b.h, .string (strB b.prev), .slice A b.reqs.length c, .slice D b.ress.length d] 26)).alloc (.cells #[.int .i64 cl.i, .int .i64 cl.e.1, .slice BA cl.e.2.length bc0, .int .i64 cl.r.1, .int .i64 cl.r.2, .slice PA cl.p.length pc] 49)) = w0 at *
  have HW0 := Lib.hid hw0
  have HK := Lib.hid (show ∀ W, Below w0.heap.size w0 W → (fun W => W.cell? ⟨w.heap.size, 0, none⟩ = some (.int .i64 b.h) ∧ W.cell? ⟨w.heap.size, 1, none⟩ = some (.string (strB b.prev)) ∧ W.cell? ⟨w.heap.size, 2, none⟩ = some (.slice A b.reqs.length c) ∧ W.cell? ⟨w.heap.size, 3, none⟩ = some (.slice D b.ress.length d) ∧ W.cell? ⟨w.heap.size + 1, 0, none⟩ = some (.int .i64 cl.i) ∧ W.cell? ⟨w.heap.size + 1, 1, none⟩ = some (.int .i64 cl.e.1) ∧ W.cell? ⟨w.heap.size + 1, 2, none⟩ = some (.slice BA cl.e.2.length bc0) ∧ W.cell? ⟨w.heap.size + 1, 3, none⟩ = some (.int .i64 cl.r.1) ∧ W.cell? ⟨w.heap.size + 1, 4, none⟩ = some (.int .i64 cl.r.2) ∧ W.cell? ⟨w.heap.size + 1, 5, none⟩ = some (.slice PA cl.p.length pc)) W from fun W h => ⟨cellB (rowCell x1 0 _ rfl) h, cellB (rowCell x1 1 _ rfl) h, cellB (rowCell x1 2 _ rfl) h, cellB (rowCell x1 3 _ rfl) h, cellB (rowCell x2 0 _ rfl) h, cellB (rowCell x2 1 _ rfl) h, cellB (rowCell x2 2 _ rfl) h, cellB (rowCell x2 3 _ rfl) h, cellB (rowCell x2 4 _ rfl) h, cellB (rowCell x2 5 _ rfl) h⟩)
  clear x1 x2 x3 hw0
  obtain ⟨p0, p1, p2, p3, p4, p5, p6, p7, p8, p9⟩ := HK.out w0 (Below.refl _ _)
  rcases hf : fewBB b with _ | _
  · rw [hf] at HF
    clear hf hb hbv hpk ob hce hcr
    go_enter Try.func5, Try.ntmps5
    go_upto_region 1 with fail
    rw [HW0.out]
    go_wp2_with (first
      | (go_at_call 8; refine (HF.out _ HB0.out).mono ?_; rintro e w1 ⟨rfl, hb1⟩; have HB1 := Lib.hid hb1; clear hb1; obtain ⟨p0, p1, p2, p3, p4, p5, p6, p7, p8, p9⟩ := HK.out _ HB1.out))
    go_ret
    exact ⟨rfl, bel2M HB0.out HB1.out⟩
  rw [hf] at HF
  rcases hs : smallC cl with _ | _
  · rw [hs] at HSL
    clear hf hs hb hbv hpk ob hce hcr
    go_enter Try.func5, Try.ntmps5
    go_upto_region 1 with fail
    rw [HW0.out]
    go_wp2_with (first
      | (go_at_call 8; refine (HF.out _ HB0.out).mono ?_; rintro e w1 ⟨rfl, hb1⟩; have HB1 := Lib.hid hb1; clear hb1; obtain ⟨p0, p1, p2, p3, p4, p5, p6, p7, p8, p9⟩ := HK.out _ HB1.out)
      | (go_at_call 23; refine (HSL.out _ (bel2M HB0.out HB1.out)).mono ?_; rintro e w2 ⟨rfl, hb2⟩; have HB2 := Lib.hid (bel2M HB1.out hb2); clear hb2; obtain ⟨p0, p1, p2, p3, p4, p5, p6, p7, p8, p9⟩ := HK.out _ HB2.out))
    go_ret
    exact ⟨rfl, bel2M HB0.out HB2.out⟩
  rw [hs] at HSL
  have fb := fewBB_iff.1 hf
  obtain ⟨s1, s2, s3⟩ := smallC_iff.1 hs
  have hpb := smallC_pb hs
  have hs20 := fb.sum.1
  have HHD := Lib.hid (fun W (h : Below w.heap.size w W) => bHeader_any b A c D d W (hb.below h) fb)
  have HIN := Lib.hid (fun W (h : Below w.heap.size w W) => bIncl_any b.h b.prev ((leavesB b).length : Nat) (rootB b) cl.i cl.e _ cl.r cl.p PA pc W (by omega) (hbv.below h (Nat.le_refl _)) s1 (hpk.below h) hpb)
  have HRI := Lib.hid (fun W (h : Below w.heap.size w W) => rbIncl_any b.h b.prev ((leavesB b).length : Nat) (rootB b) cl.i cl.e _ cl.r cl.p PA pc W (by omega) (hbv.below h (Nat.le_refl _)) s1 (hpk.below h) hpb)
  have HSND := Lib.hid (fun h => sound10 ob fb hce hcr s1 s3 s2 (i := cl.i) h)
  have hmm : b.reqs.length ≤ 9223372036854775807 ∧ b.ress.length ≤ 9223372036854775807 := by have := fb.q; have := fb.r; omega
  unfold HdP at HHD
  have HQ := Lib.hid hb.q.2.2.2
  have HR := Lib.hid hb.r.2.2.2
  have HBV := Lib.hid hbv
  clear hf hs hb hbv hpk ob hce hcr fb s1 s2 s3 hpb hs20
  generalize checkT (rootB b) (leafB cl.e cl.r) cl.i ((leavesB b).length : Nat) cl.p = x at *
  generalize rootB b = rt at *
  generalize (leavesB b).length = n at *
  go_enter Try.func5, Try.ntmps5
  go_upto_region 1 with fail
  rw [HW0.out]
  go_upto_region 4 with (first
    | (go_at_call 8; refine (HF.out _ HB0.out).mono ?_; rintro e w1 ⟨rfl, hb1⟩; have HB1 := Lib.hid hb1; clear hb1; obtain ⟨p0, p1, p2, p3, p4, p5, p6, p7, p8, p9⟩ := HK.out _ HB1.out)
    | (go_at_call 23; refine (HSL.out _ (bel2M HB0.out HB1.out)).mono ?_; rintro e w2 ⟨rfl, hb2⟩; have HB2 := Lib.hid (bel2M HB1.out hb2); clear hb2; obtain ⟨p0, p1, p2, p3, p4, p5, p6, p7, p8, p9⟩ := HK.out _ HB2.out)
    | (go_at_call 12; refine (HHD.out _ (bel2M HB0.out HB2.out)).mono ?_; rintro e w3 ⟨rfl, hb3⟩; have HB3 := Lib.hid (bel2M HB2.out hb3); clear hb3))
  have HXH := Lib.hid (heap_alloc_new w3 (.cells #[.int .i64 b.h, .string (strB b.prev), .int .i64 (n : Nat), .string (strB rt)] 37))
  have HB4 := Lib.hid (bel2M HB3.out (alloc1B w3 (.cells #[.int .i64 b.h, .string (strB b.prev), .int .i64 (n : Nat), .string (strB rt)] 37)))
  generalize hw4 : w3.alloc (.cells #[.int .i64 b.h, .string (strB b.prev), .int .i64 (n : Nat), .string (strB rt)] 37) = w4 at *
  clear hw4
  have HKH := Lib.hid (show ∀ W : World, W.heap[w3.heap.size]? = some (.cells #[.int .i64 b.h, .string (strB b.prev), .int .i64 (n : Nat), .string (strB rt)] 37 (0, 0)) → W.cell? ⟨w3.heap.size, 0, none⟩ = some (.int .i64 b.h) ∧ W.cell? ⟨w3.heap.size, 1, none⟩ = some (.string (strB b.prev)) ∧ W.cell? ⟨w3.heap.size, 2, none⟩ = some (.int .i64 (n : Nat)) ∧ W.cell? ⟨w3.heap.size, 3, none⟩ = some (.string (strB rt)) from fun W h => ⟨rowCell h 0 _ rfl, rowCell h 1 _ rfl, rowCell h 2 _ rfl, rowCell h 3 _ rfl⟩)
  obtain ⟨p0, p1, p2, p3, p4, p5, p6, p7, p8, p9⟩ := HK.out _ HB4.out
  obtain ⟨q0, q1, q2, q3⟩ := HKH.out _ HXH.out
  by_cases hx : x = 0
  case neg =>
    have hxn : (x != 0) = true := by simpa using hx
    have hxe : (x == x) = true := by simp
    clear hx HSND
    go_wp2_with (first
      | (go_at_call 22; refine (HIN.out _ (bel2M HB0.out HB4.out)).mono ?_; rintro e w5 ⟨rfl, hb5⟩; have HB5 := Lib.hid (bel2M HB4.out hb5); have HXH5 := Lib.hid (heapB HXH.out hb5); clear hb5; obtain ⟨p0, p1, p2, p3, p4, p5, p6, p7, p8, p9⟩ := HK.out _ HB5.out; obtain ⟨q0, q1, q2, q3⟩ := HKH.out _ HXH5.out)
      | (go_at_call 24; refine (HRI.out _ (bel2M HB0.out HB5.out)).mono ?_; rintro e w6 ⟨rfl, hb6⟩; have HB6 := Lib.hid (bel2M HB5.out hb6); clear hb6; obtain ⟨p0, p1, p2, p3, p4, p5, p6, p7, p8, p9⟩ := HK.out _ HB6.out)
      | (go_at_call 18; refine (HW.out _).mono ?_; rintro e wz ⟨rfl, hbz⟩; have HBZ := Lib.hid (bel2M HB6.out hbz); clear hbz))
    go_ret
    exact ⟨rfl, bel2M HB0.out HBZ.out⟩
  obtain ⟨k, hik, h1, h2, h3, h4⟩ := HSND.out hx
  subst hx
  obtain ⟨ad, hA, hbl, hq⟩ := HQ.out k h1
  obtain ⟨ae, hD, hbe, hr⟩ := HR.out k h2
  subst hA hD
  rw [h3] at hq
  rw [h4] at hr
  obtain ⟨c1, bw, c2, hbw⟩ := hq
  obtain ⟨BB, bd0, hbs, -⟩ := hbw.open
  subst hbs
  have HC1 := Lib.hid c1
  have HC2 := Lib.hid c2
  have HC3 := Lib.hid hr.1
  have HC4 := Lib.hid hr.2
  have HBW := Lib.hid hbw
  have HSM := Lib.hid (fun W (h : Below w.heap.size w W) => show Calls Try.prog 9 #[.slice BB cl.e.2.length bd0, .slice BA cl.e.2.length bc0] W fun e w' => e = .returned (.bool true) ∧ W = w' from by
    have := Same_any _ _ cl.e.2 cl.e.2 W (HBW.out.below h (Nat.le_refl _)) (HBV.out.below h (Nat.le_refl _))
    simpa using this)
  have hk1 : (k : Int) < (b.reqs.length : Int) := by omega
  have hk2 : (k : Int) < (b.ress.length : Int) := by omega
  have hk3 : ¬ (k : Int) < 0 := by omega
  have hk4 : ¬ (b.reqs.length : Int) ≤ (k : Int) := by omega
  have hk5 : ¬ (b.ress.length : Int) ≤ (k : Int) := by omega
  clear HSND h3 h4 hr c1 c2 hbw h1 h2 hbl hbe
  obtain ⟨ci, ce, cr, cp⟩ := cl
  obtain ⟨ce1, ce2⟩ := ce
  obtain ⟨cr1, cr2⟩ := cr
  simp only at *
  subst hik
  go_upto_region 11 with (first
    | (go_at_call 22; refine (HIN.out _ (bel2M HB0.out HB4.out)).mono ?_; rintro e w5 ⟨rfl, hb5⟩; have HB5 := Lib.hid (bel2M HB4.out hb5); have HXH5 := Lib.hid (heapB HXH.out hb5); clear hb5; obtain ⟨p0, p1, p2, p3, p4, p5, p6, p7, p8, p9⟩ := HK.out _ HB5.out; obtain ⟨q0, q1, q2, q3⟩ := HKH.out _ HXH5.out)
    | (go_at_call 24; refine (HRI.out _ (bel2M HB0.out HB5.out)).mono ?_; rintro e w6 ⟨rfl, hb6⟩; have HB6 := Lib.hid (bel2M HB5.out hb6); clear hb6; obtain ⟨p0, p1, p2, p3, p4, p5, p6, p7, p8, p9⟩ := HK.out _ HB6.out))
  have g1 := cellB HC1.out (bel2M HB0.out HB6.out)
  have g2 := cellB HC2.out (bel2M HB0.out HB6.out)
  go_wp2
  have HX7 := Lib.hid (heap_alloc_new w6 (.cells #[.int .i64 ce1, .slice BB ce2.length bd0] 32))
  have HB7 := Lib.hid (bel2M HB6.out (alloc1B w6 (.cells #[.int .i64 ce1, .slice BB ce2.length bd0] 32)))
  generalize hw7 : w6.alloc (.cells #[.int .i64 ce1, .slice BB ce2.length bd0] 32) = w7 at *
  clear hw7
  have HKK := Lib.hid (show ∀ W, Below w7.heap.size w7 W → (fun W => W.cell? ⟨w6.heap.size, 0, none⟩ = some (.int .i64 ce1) ∧ W.cell? ⟨w6.heap.size, 1, none⟩ = some (.slice BB ce2.length bd0) ∧ W.cell? (ae.add (k * 2)) = some (.int .i64 cr1) ∧ W.cell? ⟨(ae.add (k * 2)).block, (ae.add (k * 2)).off + 1, none⟩ = some (.int .i64 cr2) ∧ W.cell? ⟨w.heap.size, 3, none⟩ = some (.slice (some ae) b.ress.length d) ∧ W.cell? ⟨w.heap.size + 1, 0, none⟩ = some (.int .i64 (k : Nat)) ∧ W.cell? ⟨w.heap.size + 1, 1, none⟩ = some (.int .i64 ce1) ∧ W.cell? ⟨w.heap.size + 1, 2, none⟩ = some (.slice BA ce2.length bc0) ∧ W.cell? ⟨w.heap.size + 1, 3, none⟩ = some (.int .i64 cr1) ∧ W.cell? ⟨w.heap.size + 1, 4, none⟩ = some (.int .i64 cr2) ∧ W.cell? ⟨w.heap.size + 1, 5, none⟩ = some (.slice PA cp.length pc)) W from fun W h => ⟨cellB (rowCell HX7.out 0 _ rfl) h, cellB (rowCell HX7.out 1 _ rfl) h, cellB HC3.out (bel2M HB0.out (bel2M HB7.out h)), cellB HC4.out (bel2M HB0.out (bel2M HB7.out h)), (HK.out _ (bel2M HB7.out h)).2.2.2⟩)
  have HBD := Lib.hid (show Below w7.heap.size w7 w7.drew from (Below.refl _ _).drew)
  go_region_held3 (fun W => W.cell? ⟨w6.heap.size, 0, none⟩ = some (.int .i64 ce1) ∧ W.cell? ⟨w6.heap.size, 1, none⟩ = some (.slice BB ce2.length bd0) ∧ W.cell? (ae.add (k * 2)) = some (.int .i64 cr1) ∧ W.cell? ⟨(ae.add (k * 2)).block, (ae.add (k * 2)).off + 1, none⟩ = some (.int .i64 cr2) ∧ W.cell? ⟨w.heap.size, 3, none⟩ = some (.slice (some ae) b.ress.length d) ∧ W.cell? ⟨w.heap.size + 1, 0, none⟩ = some (.int .i64 (k : Nat)) ∧ W.cell? ⟨w.heap.size + 1, 1, none⟩ = some (.int .i64 ce1) ∧ W.cell? ⟨w.heap.size + 1, 2, none⟩ = some (.slice BA ce2.length bc0) ∧ W.cell? ⟨w.heap.size + 1, 3, none⟩ = some (.int .i64 cr1) ∧ W.cell? ⟨w.heap.size + 1, 4, none⟩ = some (.int .i64 cr2) ∧ W.cell? ⟨w.heap.size + 1, 5, none⟩ = some (.slice PA cp.length pc)) (first | exact HKK.out _ HBD.out) (first
    | (go_at_call 9; refine (HSM.out _ (bel2M HB0.out (bel2M HB7.out HBD.out))).mono ?_; rintro e wx ⟨rfl, rfl⟩)
    | (go_at_call 18; refine (HW.out _).mono ?_; rintro e wx ⟨rfl, hbm⟩; replace HBD := Lib.hid (bel2M HBD.out hbm); clear hbm))
  go_wp2
  go_ret
  exact ⟨rfl, bel2M HB0.out (bel2M HB7.out HBD.out)⟩

set_option maxHeartbeats 4000000 in
theorem BlockApart_any (a b : Blk) (A : Option Addr) (c : Nat) (D : Option Addr) (d : Nat) (A2 : Option Addr) (c2 : Nat) (D2 : Option Addr) (d2 : Nat) (w : World) (ha : BlkK w a A c D d) (hb : BlkK w b A2 c2 D2 d2) (oa : OkB a) (ob : OkB b) : Calls Try.prog 6 #[agB a A c D d, agB b A2 c2 D2 d2] w (Yes w) := by
  obtain ⟨x1, x2, x3⟩ := box2B w #[.int .i64 a.h, .string (strB a.prev), .slice A a.reqs.length c, .slice D a.ress.length d] #[.int .i64 b.h, .string (strB b.prev), .slice A2 b.reqs.length c2, .slice D2 b.ress.length d2] 26 26
  have HFA := Lib.hid (fun W (h : Below w.heap.size w W) => few10_any a A c D d W (ha.below h))
  have HFB := Lib.hid (fun W (h : Below w.heap.size w W) => few10_any b A2 c2 D2 d2 W (hb.below h))
  have hma : a.reqs.length ≤ maxLen ∧ a.ress.length ≤ maxLen := ⟨Nat.le_trans ha.q.1 ha.q.2.1, Nat.le_trans ha.r.1 ha.r.2.1⟩
  have hmb : b.reqs.length ≤ maxLen ∧ b.ress.length ≤ maxLen := ⟨Nat.le_trans hb.q.1 hb.q.2.1, Nat.le_trans hb.r.1 hb.r.2.1⟩
  have HCA := Lib.hid (fun W => bCheck_any a A c D d W hma.1 hma.2)
  have HCB := Lib.hid (fun W => bCheck_any b A2 c2 D2 d2 W hmb.1 hmb.2)
  have HSM := Lib.hid (fun W (h : Below w.heap.size w W) => rSameB_any a b A c D d A2 c2 D2 d2 W (ha.below h) (hb.below h))
  have HW := Lib.hid (fun W => awake10_any W)
  have HB0 := Lib.hid x3
  generalize hw0 : ((w.alloc (.cells #[.int .i64 a.h, .string (strB a.prev), .slice A a.reqs.length c, .slice D a.ress.length d] 26)).alloc (.cells #[.int .i64 b.h, .string (strB b.prev), .slice A2 b.reqs.length c2, .slice D2 b.ress.length d2] 26)) = w0 at *
  have HW0 := Lib.hid hw0
  have HK := Lib.hid (show ∀ W, Below w0.heap.size w0 W → (fun W => W.cell? ⟨w.heap.size, 0, none⟩ = some (.int .i64 a.h) ∧ W.cell? ⟨w.heap.size, 1, none⟩ = some (.string (strB a.prev)) ∧ W.cell? ⟨w.heap.size, 2, none⟩ = some (.slice A a.reqs.length c) ∧ W.cell? ⟨w.heap.size, 3, none⟩ = some (.slice D a.ress.length d) ∧ W.cell? ⟨w.heap.size + 1, 0, none⟩ = some (.int .i64 b.h) ∧ W.cell? ⟨w.heap.size + 1, 1, none⟩ = some (.string (strB b.prev)) ∧ W.cell? ⟨w.heap.size + 1, 2, none⟩ = some (.slice A2 b.reqs.length c2) ∧ W.cell? ⟨w.heap.size + 1, 3, none⟩ = some (.slice D2 b.ress.length d2)) W from fun W h => ⟨cellB (rowCell x1 0 _ rfl) h, cellB (rowCell x1 1 _ rfl) h, cellB (rowCell x1 2 _ rfl) h, cellB (rowCell x1 3 _ rfl) h, cellB (rowCell x2 0 _ rfl) h, cellB (rowCell x2 1 _ rfl) h, cellB (rowCell x2 2 _ rfl) h, cellB (rowCell x2 3 _ rfl) h⟩)
  clear x1 x2 x3 hw0 hma hmb
  obtain ⟨p0, p1, p2, p3, p4, p5, p6, p7⟩ := HK.out w0 (Below.refl _ _)
  rcases hfa : fewBB a with _ | _
  · rw [hfa] at HFA
    clear hfa ha hb oa ob
    go_enter Try.func6, Try.ntmps6
    go_upto_region 1 with fail
    rw [HW0.out]
    go_wp2_with (first
      | (go_at_call_of 8 ([Value.agg #[.int .i64 a.h, .string (strB a.prev), .slice A a.reqs.length c, .slice D a.ress.length d]]); refine (HFA.out _ HB0.out).mono ?_; rintro e w1 ⟨rfl, hb1⟩; have HB1 := Lib.hid hb1; clear hb1; obtain ⟨p0, p1, p2, p3, p4, p5, p6, p7⟩ := HK.out _ HB1.out)
      | (go_at_call 18; refine (HW.out _).mono ?_; rintro e wz ⟨rfl, hbz⟩; have HBZ := Lib.hid (bel2M HB1.out hbz); clear hbz))
    go_ret
    exact ⟨rfl, bel2M HB0.out HBZ.out⟩
  rw [hfa] at HFA
  rcases hfb : fewBB b with _ | _
  · rw [hfb] at HFB
    clear hfa hfb ha hb oa ob
    go_enter Try.func6, Try.ntmps6
    go_upto_region 1 with fail
    rw [HW0.out]
    go_wp2_with (first
      | (go_at_call_of 8 ([Value.agg #[.int .i64 a.h, .string (strB a.prev), .slice A a.reqs.length c, .slice D a.ress.length d]]); refine (HFA.out _ HB0.out).mono ?_; rintro e w1 ⟨rfl, hb1⟩; have HB1 := Lib.hid hb1; clear hb1; obtain ⟨p0, p1, p2, p3, p4, p5, p6, p7⟩ := HK.out _ HB1.out)
      | (go_at_call_of 8 ([Value.agg #[.int .i64 b.h, .string (strB b.prev), .slice A2 b.reqs.length c2, .slice D2 b.ress.length d2]]); refine (HFB.out _ (bel2M HB0.out HB1.out)).mono ?_; rintro e w2 ⟨rfl, hb2⟩; have HB2 := Lib.hid (bel2M HB1.out hb2); clear hb2; obtain ⟨p0, p1, p2, p3, p4, p5, p6, p7⟩ := HK.out _ HB2.out)
      | (go_at_call 18; refine (HW.out _).mono ?_; rintro e wz ⟨rfl, hbz⟩; have HBZ := Lib.hid (bel2M HB2.out hbz); clear hbz))
    go_ret
    exact ⟨rfl, bel2M HB0.out HBZ.out⟩
  rw [hfb] at HFB
  have fa := fewBB_iff.1 hfa
  have fb := fewBB_iff.1 hfb
  clear hfa hfb
  by_cases hca : checkB a = 0
  case neg =>
    have hn : (checkB a != 0) = true := by simpa using hca
    clear hca ha hb oa ob fa fb
    generalize checkB a = xa at *
    go_enter Try.func6, Try.ntmps6
    go_upto_region 1 with fail
    rw [HW0.out]
    go_wp2_with (first
      | (go_at_call_of 8 ([Value.agg #[.int .i64 a.h, .string (strB a.prev), .slice A a.reqs.length c, .slice D a.ress.length d]]); refine (HFA.out _ HB0.out).mono ?_; rintro e w1 ⟨rfl, hb1⟩; have HB1 := Lib.hid hb1; clear hb1; obtain ⟨p0, p1, p2, p3, p4, p5, p6, p7⟩ := HK.out _ HB1.out)
      | (go_at_call_of 8 ([Value.agg #[.int .i64 b.h, .string (strB b.prev), .slice A2 b.reqs.length c2, .slice D2 b.ress.length d2]]); refine (HFB.out _ (bel2M HB0.out HB1.out)).mono ?_; rintro e w2 ⟨rfl, hb2⟩; have HB2 := Lib.hid (bel2M HB1.out hb2); clear hb2; obtain ⟨p0, p1, p2, p3, p4, p5, p6, p7⟩ := HK.out _ HB2.out)
      | (go_at_call_of 14 ([Value.agg #[.int .i64 a.h, .string (strB a.prev), .slice A a.reqs.length c, .slice D a.ress.length d]]); refine (HCA.out _).mono ?_; rintro e w3 ⟨rfl, hb3⟩; have HB3 := Lib.hid (bel2M HB2.out hb3); clear hb3; obtain ⟨p0, p1, p2, p3, p4, p5, p6, p7⟩ := HK.out _ HB3.out)
      | (go_at_call 18; refine (HW.out _).mono ?_; rintro e wz ⟨rfl, hbz⟩; have HBZ := Lib.hid (bel2M HB3.out hbz); clear hbz))
    go_ret
    exact ⟨rfl, bel2M HB0.out HBZ.out⟩
  by_cases hcb : checkB b = 0
  case neg =>
    have hn : (checkB b != 0) = true := by simpa using hcb
    rw [hca] at HCA
    clear hca hcb ha hb oa ob fa fb
    generalize checkB b = xb at *
    go_enter Try.func6, Try.ntmps6
    go_upto_region 1 with fail
    rw [HW0.out]
    go_wp2_with (first
      | (go_at_call_of 8 ([Value.agg #[.int .i64 a.h, .string (strB a.prev), .slice A a.reqs.length c, .slice D a.ress.length d]]); refine (HFA.out _ HB0.out).mono ?_; rintro e w1 ⟨rfl, hb1⟩; have HB1 := Lib.hid hb1; clear hb1; obtain ⟨p0, p1, p2, p3, p4, p5, p6, p7⟩ := HK.out _ HB1.out)
      | (go_at_call_of 8 ([Value.agg #[.int .i64 b.h, .string (strB b.prev), .slice A2 b.reqs.length c2, .slice D2 b.ress.length d2]]); refine (HFB.out _ (bel2M HB0.out HB1.out)).mono ?_; rintro e w2 ⟨rfl, hb2⟩; have HB2 := Lib.hid (bel2M HB1.out hb2); clear hb2; obtain ⟨p0, p1, p2, p3, p4, p5, p6, p7⟩ := HK.out _ HB2.out)
      | (go_at_call_of 14 ([Value.agg #[.int .i64 a.h, .string (strB a.prev), .slice A a.reqs.length c, .slice D a.ress.length d]]); refine (HCA.out _).mono ?_; rintro e w3 ⟨rfl, hb3⟩; have HB3 := Lib.hid (bel2M HB2.out hb3); clear hb3; obtain ⟨p0, p1, p2, p3, p4, p5, p6, p7⟩ := HK.out _ HB3.out)
      | (go_at_call_of 14 ([Value.agg #[.int .i64 b.h, .string (strB b.prev), .slice A2 b.reqs.length c2, .slice D2 b.ress.length d2]]); refine (HCB.out _).mono ?_; rintro e w4 ⟨rfl, hb4⟩; have HB4 := Lib.hid (bel2M HB3.out hb4); clear hb4; obtain ⟨p0, p1, p2, p3, p4, p5, p6, p7⟩ := HK.out _ HB4.out)
      | (go_at_call 18; refine (HW.out _).mono ?_; rintro e wz ⟨rfl, hbz⟩; have HBZ := Lib.hid (bel2M HB4.out hbz); clear hbz))
    go_ret
    exact ⟨rfl, bel2M HB0.out HBZ.out⟩
  have hinj := block_inj oa ob fa fb hca hcb
  have HHA := Lib.hid (fun W (h : Below w.heap.size w W) => bHeader_any a A c D d W (ha.below h) fa)
  have HHB := Lib.hid (fun W (h : Below w.heap.size w W) => bHeader_any b A2 c2 D2 d2 W (hb.below h) fb)
  have hpa := fa.p
  have hpb := fb.p
  have hra := fa.root
  have hrb := fb.root
  have HDA := Lib.hid (fun W => bDigest_any a.h a.prev ((leavesB a).length : Nat) (rootB a) W (by omega) (by omega))
  have HDB := Lib.hid (fun W => bDigest_any b.h b.prev ((leavesB b).length : Nat) (rootB b) W (by omega) (by omega))
  rw [hca] at HCA
  rw [hcb] at HCB
  have hsm := sameB_iff a b
  unfold HdP at HHA HHB
  have hdd : (digB a.h a.prev ((leavesB a).length : Nat) (rootB a) = digB b.h b.prev ((leavesB b).length : Nat) (rootB b)) ↔ sameB a b = true := by
    rw [hsm]
    exact ⟨hinj, fun h => by rw [h]⟩
  clear hinj hsm hca hcb ha hb oa ob fa fb hpa hpb hra hrb
  generalize digB a.h a.prev ((leavesB a).length : Nat) (rootB a) = da at *
  generalize digB b.h b.prev ((leavesB b).length : Nat) (rootB b) = db at *
  generalize rootB a = ra at *
  generalize rootB b = rb at *
  generalize (leavesB a).length = na at *
  generalize (leavesB b).length = nb at *
  generalize sameB a b = sm at *
  rcases sm with _ | _
  · have hne : da ≠ db := fun h => by have := hdd.1 h; cases this
    have hst := strB_ne hne
    clear hne hdd
    go_enter Try.func6, Try.ntmps6
    go_upto_region 1 with fail
    rw [HW0.out]
    go_upto_region 3 with (first
      | (go_at_call_of 8 ([Value.agg #[.int .i64 a.h, .string (strB a.prev), .slice A a.reqs.length c, .slice D a.ress.length d]]); refine (HFA.out _ HB0.out).mono ?_; rintro e w1 ⟨rfl, hb1⟩; have HB1 := Lib.hid hb1; clear hb1; obtain ⟨p0, p1, p2, p3, p4, p5, p6, p7⟩ := HK.out _ HB1.out)
      | (go_at_call_of 8 ([Value.agg #[.int .i64 b.h, .string (strB b.prev), .slice A2 b.reqs.length c2, .slice D2 b.ress.length d2]]); refine (HFB.out _ (bel2M HB0.out HB1.out)).mono ?_; rintro e w2 ⟨rfl, hb2⟩; have HB2 := Lib.hid (bel2M HB1.out hb2); clear hb2; obtain ⟨p0, p1, p2, p3, p4, p5, p6, p7⟩ := HK.out _ HB2.out)
      | (go_at_call_of 14 ([Value.agg #[.int .i64 a.h, .string (strB a.prev), .slice A a.reqs.length c, .slice D a.ress.length d]]); refine (HCA.out _).mono ?_; rintro e w3 ⟨rfl, hb3⟩; have HB3 := Lib.hid (bel2M HB2.out hb3); clear hb3; obtain ⟨p0, p1, p2, p3, p4, p5, p6, p7⟩ := HK.out _ HB3.out)
      | (go_at_call_of 14 ([Value.agg #[.int .i64 b.h, .string (strB b.prev), .slice A2 b.reqs.length c2, .slice D2 b.ress.length d2]]); refine (HCB.out _).mono ?_; rintro e w4 ⟨rfl, hb4⟩; have HB4 := Lib.hid (bel2M HB3.out hb4); clear hb4; obtain ⟨p0, p1, p2, p3, p4, p5, p6, p7⟩ := HK.out _ HB4.out))
    have HBC := Lib.hid (show Below w0.heap.size w0 w4.drew from HB4.out.drew)
    go_region_held3 (fun W => W.cell? ⟨w.heap.size, 0, none⟩ = some (.int .i64 a.h) ∧ W.cell? ⟨w.heap.size, 1, none⟩ = some (.string (strB a.prev)) ∧ W.cell? ⟨w.heap.size, 2, none⟩ = some (.slice A a.reqs.length c) ∧ W.cell? ⟨w.heap.size, 3, none⟩ = some (.slice D a.ress.length d) ∧ W.cell? ⟨w.heap.size + 1, 0, none⟩ = some (.int .i64 b.h) ∧ W.cell? ⟨w.heap.size + 1, 1, none⟩ = some (.string (strB b.prev)) ∧ W.cell? ⟨w.heap.size + 1, 2, none⟩ = some (.slice A2 b.reqs.length c2) ∧ W.cell? ⟨w.heap.size + 1, 3, none⟩ = some (.slice D2 b.ress.length d2)) (first | exact HK.out _ HBC.out) (first
      | (go_at_call_of 12 ([Value.agg #[.int .i64 a.h, .string (strB a.prev), .slice A a.reqs.length c, .slice D a.ress.length d]]); refine (HHA.out _ (bel2M HB0.out HBC.out)).mono ?_; rintro e wx ⟨rfl, hbm⟩; replace HBC := Lib.hid (bel2M HBC.out hbm); clear hbm)
      | (go_at_call_of 16 ([agH a.h a.prev (na : Nat) ra]); refine (HDA.out _).mono ?_; rintro e wx ⟨rfl, hbm⟩; replace HBC := Lib.hid (bel2M HBC.out hbm); clear hbm)
      | (go_at_call_of 12 ([Value.agg #[.int .i64 b.h, .string (strB b.prev), .slice A2 b.reqs.length c2, .slice D2 b.ress.length d2]]); refine (HHB.out _ (bel2M HB0.out HBC.out)).mono ?_; rintro e wx ⟨rfl, hbm⟩; replace HBC := Lib.hid (bel2M HBC.out hbm); clear hbm)
      | (go_at_call_of 16 ([agH b.h b.prev (nb : Nat) rb]); refine (HDB.out _).mono ?_; rintro e wx ⟨rfl, hbm⟩; replace HBC := Lib.hid (bel2M HBC.out hbm); clear hbm)
      | (go_at_call 25; refine (HSM.out _ (bel2M HB0.out HBC.out)).mono ?_; rintro e wx ⟨rfl, hbm⟩; replace HBC := Lib.hid (bel2M HBC.out hbm); clear hbm)
      | (go_at_call 18; refine (HW.out _).mono ?_; rintro e wx ⟨rfl, hbm⟩; replace HBC := Lib.hid (bel2M HBC.out hbm); clear hbm))
    go_wp2
    go_ret
    exact ⟨rfl, bel2M HB0.out HBC.out⟩
  · have hee : da = db := hdd.2 rfl
    clear hdd
    subst hee
    go_enter Try.func6, Try.ntmps6
    go_upto_region 1 with fail
    rw [HW0.out]
    go_upto_region 3 with (first
      | (go_at_call_of 8 ([Value.agg #[.int .i64 a.h, .string (strB a.prev), .slice A a.reqs.length c, .slice D a.ress.length d]]); refine (HFA.out _ HB0.out).mono ?_; rintro e w1 ⟨rfl, hb1⟩; have HB1 := Lib.hid hb1; clear hb1; obtain ⟨p0, p1, p2, p3, p4, p5, p6, p7⟩ := HK.out _ HB1.out)
      | (go_at_call_of 8 ([Value.agg #[.int .i64 b.h, .string (strB b.prev), .slice A2 b.reqs.length c2, .slice D2 b.ress.length d2]]); refine (HFB.out _ (bel2M HB0.out HB1.out)).mono ?_; rintro e w2 ⟨rfl, hb2⟩; have HB2 := Lib.hid (bel2M HB1.out hb2); clear hb2; obtain ⟨p0, p1, p2, p3, p4, p5, p6, p7⟩ := HK.out _ HB2.out)
      | (go_at_call_of 14 ([Value.agg #[.int .i64 a.h, .string (strB a.prev), .slice A a.reqs.length c, .slice D a.ress.length d]]); refine (HCA.out _).mono ?_; rintro e w3 ⟨rfl, hb3⟩; have HB3 := Lib.hid (bel2M HB2.out hb3); clear hb3; obtain ⟨p0, p1, p2, p3, p4, p5, p6, p7⟩ := HK.out _ HB3.out)
      | (go_at_call_of 14 ([Value.agg #[.int .i64 b.h, .string (strB b.prev), .slice A2 b.reqs.length c2, .slice D2 b.ress.length d2]]); refine (HCB.out _).mono ?_; rintro e w4 ⟨rfl, hb4⟩; have HB4 := Lib.hid (bel2M HB3.out hb4); clear hb4; obtain ⟨p0, p1, p2, p3, p4, p5, p6, p7⟩ := HK.out _ HB4.out))
    have HBC := Lib.hid (show Below w0.heap.size w0 w4.drew from HB4.out.drew)
    go_region_held3 (fun W => W.cell? ⟨w.heap.size, 0, none⟩ = some (.int .i64 a.h) ∧ W.cell? ⟨w.heap.size, 1, none⟩ = some (.string (strB a.prev)) ∧ W.cell? ⟨w.heap.size, 2, none⟩ = some (.slice A a.reqs.length c) ∧ W.cell? ⟨w.heap.size, 3, none⟩ = some (.slice D a.ress.length d) ∧ W.cell? ⟨w.heap.size + 1, 0, none⟩ = some (.int .i64 b.h) ∧ W.cell? ⟨w.heap.size + 1, 1, none⟩ = some (.string (strB b.prev)) ∧ W.cell? ⟨w.heap.size + 1, 2, none⟩ = some (.slice A2 b.reqs.length c2) ∧ W.cell? ⟨w.heap.size + 1, 3, none⟩ = some (.slice D2 b.ress.length d2)) (first | exact HK.out _ HBC.out) (first
      | (go_at_call_of 12 ([Value.agg #[.int .i64 a.h, .string (strB a.prev), .slice A a.reqs.length c, .slice D a.ress.length d]]); refine (HHA.out _ (bel2M HB0.out HBC.out)).mono ?_; rintro e wx ⟨rfl, hbm⟩; replace HBC := Lib.hid (bel2M HBC.out hbm); clear hbm)
      | (go_at_call_of 16 ([agH a.h a.prev (na : Nat) ra]); refine (HDA.out _).mono ?_; rintro e wx ⟨rfl, hbm⟩; replace HBC := Lib.hid (bel2M HBC.out hbm); clear hbm)
      | (go_at_call_of 12 ([Value.agg #[.int .i64 b.h, .string (strB b.prev), .slice A2 b.reqs.length c2, .slice D2 b.ress.length d2]]); refine (HHB.out _ (bel2M HB0.out HBC.out)).mono ?_; rintro e wx ⟨rfl, hbm⟩; replace HBC := Lib.hid (bel2M HBC.out hbm); clear hbm)
      | (go_at_call_of 16 ([agH b.h b.prev (nb : Nat) rb]); refine (HDB.out _).mono ?_; rintro e wx ⟨rfl, hbm⟩; replace HBC := Lib.hid (bel2M HBC.out hbm); clear hbm)
      | (go_at_call 25; refine (HSM.out _ (bel2M HB0.out HBC.out)).mono ?_; rintro e wx ⟨rfl, hbm⟩; replace HBC := Lib.hid (bel2M HBC.out hbm); clear hbm)
      | (go_at_call 18; refine (HW.out _).mono ?_; rintro e wx ⟨rfl, hbm⟩; replace HBC := Lib.hid (bel2M HBC.out hbm); clear hbm))
    go_wp2
    go_ret
    exact ⟨rfl, bel2M HB0.out HBC.out⟩

end Go.Proofs.Ytoedjlknhhddfaa
