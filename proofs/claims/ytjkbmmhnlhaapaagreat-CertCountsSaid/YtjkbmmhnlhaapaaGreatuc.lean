/- uc: HLaw4 AArgs HArgs HRf5 HLaw5 (made by shake.py). -/
import Derived.Deep.CutRange
import Derived.Test.YtjkbmmhnlhaapaaGreatub
namespace Go.Proofs.YtjkbmmhnlhaapaaGreat
open Go.RowKit
set_option linter.unusedVariables false
set_option linter.unusedSimpArgs false
set_option maxRecDepth 20000

set_option maxHeartbeats 8000000 in
theorem CertCounts_any (F C v s p : Int) (A : Option Addr) (cc : Nat) (vs : List Vt) (w : World) (hvs : VtK w A cc vs) (hp : ok64 p) (hok : ∀ x ∈ vs, ok64 x.s) (hkk : ∀ x ∈ vs, ok64 x.k) : Calls Tryz.prog 4 #[.agg #[.int .i64 F, .int .i64 C], .agg #[.int .i64 v, .int .i64 s, .int .i64 p, .slice A vs.length cc]] w (AskB true w) := by
  obtain ⟨x1, x2, x3⟩ := box2B w #[.int .i64 F, .int .i64 C] #[.int .i64 v, .int .i64 s, .int .i64 p, .slice A vs.length cc] 23 48
  have HBN := Lib.hid (fun W => bounds_any v s p A vs.length cc W)
  have HAW := Lib.hid (fun W => awake13_any W)
  rcases hb : bndC v s vs.length with _ | _
  · rw [hb] at HBN
    clear hb
    go_enter Tryz.func4, Tryz.ntmps4
    go_upto_region 1 with fail
    generalize hw0 : (w.alloc _).alloc _ = w0 at *
    have HB := Lib.hid x3
    have c0 := rowCell x2 0 (.int .i64 v) rfl
    have c1 := rowCell x2 1 (.int .i64 s) rfl
    have c2 := rowCell x2 2 (.int .i64 p) rfl
    have c3 := rowCell x2 3 (.slice A vs.length cc) rfl
    clear x1 x2 x3 hw0
    go_wp2_with (first
      | (go_at_call 22; refine (HBN.out _).mono ?_; rintro e w1 ⟨rfl, hb⟩; have HB1 := Lib.hid (bel2M HB.out hb); clear hb)
      | (go_at_call 21; refine (HAW.out _).mono ?_; rintro e w2 ⟨rfl, hb⟩; have HB2 := Lib.hid (bel2M HB1.out hb); clear hb))
    go_ret
    exact ⟨rfl, HB2.out⟩
  rw [hb] at HBN
  have HBI := Lib.hid (bnd_iff hb)
  have HVS := Lib.hid hvs
  have HP := Lib.hid hp
  have HOK := Lib.hid hok
  have HKD := Lib.hid hkk
  have HLW := Lib.hid (show w.heap.size + 1 < ((w.alloc (.cells #[.int .i64 F, .int .i64 C] 23)).alloc (.cells #[.int .i64 v, .int .i64 s, .int .i64 p, .slice A vs.length cc] 48)).heap.size from (Array.getElem?_eq_some_iff.1 x2).1)
  clear hb hvs hp hok hkk
  go_enter Tryz.func4, Tryz.ntmps4
  go_upto_region 1 with fail
  generalize hw0 : (w.alloc _).alloc _ = w0 at *
  have HS0 := Lib.hid x1
  have HC0 := Lib.hid x2
  have HB0 := Lib.hid x3
  have c0 := rowCell x2 0 (.int .i64 v) rfl
  have c1 := rowCell x2 1 (.int .i64 s) rfl
  have c2 := rowCell x2 2 (.int .i64 p) rfl
  have c3 := rowCell x2 3 (.slice A vs.length cc) rfl
  clear x1 x2 x3 hw0
  go_upto_region 4 with (first
    | (go_at_call 22; refine (HBN.out _).mono ?_; rintro e w1 ⟨rfl, hb⟩; have HB1 := Lib.hid (bel2M HB0.out hb); have HS1 := Lib.hid (heapB HS0.out hb); have HC1 := Lib.hid (heapB HC0.out hb); have HL1 := Lib.hid (show w.heap.size + 1 < w1.heap.size from Nat.lt_of_lt_of_le HLW.out hb.size); have s0 := rowCell HS1.out 0 (.int .i64 F) rfl; have s1 := rowCell HS1.out 1 (.int .i64 C) rfl; clear hb)
    | (go_at_call 15; go_loud (refine (begun_any F C _).mono ?_; rintro e wB ⟨g, bm, g2, T, rfl, hbt, hbb⟩; have HBT := Lib.hid hbt; have HB2 := Lib.hid (bel2M HB1.out hbb); have HS2 := Lib.hid (heapB HS1.out hbb); have HC2 := Lib.hid (heapB HC1.out hbb); clear hbt hbb)))
  have HX := Lib.hid (Held.new (cs := #[.pointer (some ⟨g, 0, none⟩), .pointer (some ⟨g2, 0, none⟩)]) (t := 29) HBT.out)
  have HBT := Lib.hid (HBT.out.below (alloc1B wB (.cells #[.pointer (some ⟨g, 0, none⟩), .pointer (some ⟨g2, 0, none⟩)] 29)))
  have HB3 := Lib.hid (bel2M HB2.out (alloc1B wB (.cells #[.pointer (some ⟨g, 0, none⟩), .pointer (some ⟨g2, 0, none⟩)] 29)))
  have HS3 := Lib.hid (heapB HS2.out (alloc1B wB (.cells #[.pointer (some ⟨g, 0, none⟩), .pointer (some ⟨g2, 0, none⟩)] 29)))
  have HC3 := Lib.hid (heapB HC2.out (alloc1B wB (.cells #[.pointer (some ⟨g, 0, none⟩), .pointer (some ⟨g2, 0, none⟩)] 29)))
  generalize hwn : wB.alloc _ = wC at *
  clear hwn c0 c1 c2 c3 s0 s1
  have HVT := Lib.hid (show ∀ W, Below w1.heap.size wC W → VtK W A cc vs from fun W hW => HVS.out.below (HB3.out.trans (hW.mono (by have := HL1.out; omega))))
  have x0 := rowCell HX.out.at_ 0 (.pointer (some ⟨g, 0, none⟩)) rfl
  have x1 := rowCell HX.out.at_ 1 (.pointer (some ⟨g2, 0, none⟩)) rfl
  have q0 := rowCell HC3.out 0 (.int .i64 v) rfl
  have q1 := rowCell HC3.out 1 (.int .i64 s) rfl
  have q2 := rowCell HC3.out 2 (.int .i64 p) rfl
  have q3 := rowCell HC3.out 3 (.slice A vs.length cc) rfl
  go_upto_region 5 with (go_at_call 23; go_loud (refine (made_any w1.heap.size g bm g2 (clF F) (clC C) [] T v s p vs A cc wC HBT.out HVT.out ⟨HBI.out.1, HBI.out.2.1⟩ ⟨HBI.out.2.2.1, HBI.out.2.2.2.1⟩ HBI.out.2.2.2.2 HP.out HOK.out (Nat.zero_le _)).mono ?_; rintro e wM ⟨bv, A2, c2, T2, rfl, hbv, hrow, hbt, ht, -⟩; obtain ⟨BA, bc, rfl, -⟩ := hbv.bs.open; have HLO := Lib.hid (ht.lowB HBT.out); have HV := Lib.hid hbv.bs; have HE := Lib.hid (show EnvK wM A2 c2 (vs.map (mdV v s)) from hrow.1.to fun _ _ => EnvC.p); have HBT := Lib.hid hbt; have HX := Lib.hid (HX.out.turn ht); clear hbv hrow hbt ht))
  have HSM := Lib.hid ((HLO.out.block w.heap.size (by have := HL1.out; omega)).trans HS3.out)
  have HCM := Lib.hid ((HLO.out.block (w.heap.size + 1) (by have := HL1.out; omega)).trans HC3.out)
  have HBM := Lib.hid (HB3.out.trans (HLO.out.mono (show w.heap.size ≤ w1.heap.size by have := HL1.out; omega)))
  have HSM := Lib.hid (heapB HSM.out (alloc1B wM (.cells #[.int .i64 (mdP (clF F) p v), .slice BA (encD (mdPre v s)).length bc, .slice A2 vs.length c2] 50)))
  have HCM := Lib.hid (heapB HCM.out (alloc1B wM (.cells #[.int .i64 (mdP (clF F) p v), .slice BA (encD (mdPre v s)).length bc, .slice A2 vs.length c2] 50)))
  have HV := Lib.hid (HV.out.below (alloc1B wM (.cells #[.int .i64 (mdP (clF F) p v), .slice BA (encD (mdPre v s)).length bc, .slice A2 vs.length c2] 50)) (Nat.le_refl _))
  have HE := Lib.hid (HE.out.below (alloc1B wM (.cells #[.int .i64 (mdP (clF F) p v), .slice BA (encD (mdPre v s)).length bc, .slice A2 vs.length c2] 50)))
  have HK := Lib.hid (heap_alloc_new wM (.cells #[.int .i64 (mdP (clF F) p v), .slice BA (encD (mdPre v s)).length bc, .slice A2 vs.length c2] 50))
  have HBM := Lib.hid (bel2M HBM.out (alloc1B wM (.cells #[.int .i64 (mdP (clF F) p v), .slice BA (encD (mdPre v s)).length bc, .slice A2 vs.length c2] 50)))
  have HXB := Lib.hid (HX.out.below (alloc1B wM (.cells #[.int .i64 (mdP (clF F) p v), .slice BA (encD (mdPre v s)).length bc, .slice A2 vs.length c2] 50))).at_
  have HRA := Lib.hid (HBT.out.ra.below (alloc1B wM (.cells #[.int .i64 (mdP (clF F) p v), .slice BA (encD (mdPre v s)).length bc, .slice A2 vs.length c2] 50)))
  have HAU := Lib.hid (HBT.out.au.below (alloc1B wM (.cells #[.int .i64 (mdP (clF F) p v), .slice BA (encD (mdPre v s)).length bc, .slice A2 vs.length c2] 50)) (Nat.le_refl _))
  generalize hwn : wM.alloc _ = wK at *
  clear hwn x0 x1 q0 q1 q2 q3
  have hag : agC ((mdP (clF F) p v, encD (mdPre v s)), vs.map (mdV v s)) (.slice BA (encD (mdPre v s)).length bc) A2 c2 = .agg #[.int .i64 (mdP (clF F) p v), .slice BA (encD (mdPre v s)).length bc, .slice A2 vs.length c2] := by show Value.agg #[_, _, .slice A2 (vs.map (mdV v s)).length c2] = _; rw [List.length_map]
  have hmp : ok64 (mdP (clF F) p v) := mdP_ok HP.out ⟨HBI.out.1, HBI.out.2.1⟩ HAU.out.1.2
  have hkn : KN ⟨clF F, clC C, mdL (clF F) (clC C) v s p [] vs⟩ := md_noC ⟨HBI.out.1, HBI.out.2.1⟩ ⟨HBI.out.2.2.1, HBI.out.2.2.2.1⟩ HKD.out (fun e he => by cases he)
  have hpr : preA ⟨clF F, clC C, mdL (clF F) (clC C) v s p [] vs⟩ ((mdP (clF F) p v, encD (mdPre v s)), vs.map (mdV v s)).1 = preR ⟨clF F, clC C, mdL (clF F) (clC C) v s p [] vs⟩ ((mdP (clF F) p v, encD (mdPre v s)), vs.map (mdV v s)).1 := pre_R _ (md_alike ⟨HBI.out.1, HBI.out.2.1⟩ ⟨HBI.out.2.2.1, HBI.out.2.2.2.1⟩) (by have := mdPre_len v s; simp only; omega)
  have h1 := fun W (hb : Below wK.heap.size wK W) => aPrep (K := ⟨clF F, clC C, mdL (clF F) (clC C) v s p [] vs⟩) (HAU.out.below hb (Nat.le_refl _)) ((mdP (clF F) p v, encD (mdPre v s)), vs.map (mdV v s)) (.slice BA (encD (mdPre v s)).length bc) A2 c2 (HV.out.below hb (Nat.le_refl _)) (HE.out.below hb) hmp (Nat.le_trans (mdPre_len v s) (by decide)) (md_okes HOK.out)
  have h2 := fun W (hb : Below wK.heap.size wK W) => rA_prep (K := ⟨clF F, clC C, mdL (clF F) (clC C) v s p [] vs⟩) (HRA.out.below hb) hkn ((mdP (clF F) p v, encD (mdPre v s)), vs.map (mdV v s)) (.slice BA (encD (mdPre v s)).length bc) A2 c2 (HV.out.below hb (Nat.le_refl _)) (HE.out.below hb) hmp (Nat.le_trans (mdPre_len v s) (by decide)) (md_okEr HOK.out)
  have h3 := fun W (hb : Below wK.heap.size wK W) => aComm (K := ⟨clF F, clC C, mdL (clF F) (clC C) v s p [] vs⟩) (HAU.out.below hb (Nat.le_refl _)) ((mdP (clF F) p v, encD (mdPre v s)), vs.map (mdV v s)) (.slice BA (encD (mdPre v s)).length bc) A2 c2 (HV.out.below hb (Nat.le_refl _)) (HE.out.below hb) hmp (Nat.le_trans (mdPre_len v s) (by decide)) (md_okes HOK.out)
  have h4 := fun W (hb : Below wK.heap.size wK W) => rA_comm (K := ⟨clF F, clC C, mdL (clF F) (clC C) v s p [] vs⟩) (HRA.out.below hb) hkn ((mdP (clF F) p v, encD (mdPre v s)), vs.map (mdV v s)) (.slice BA (encD (mdPre v s)).length bc) A2 c2 (HV.out.below hb (Nat.le_refl _)) (HE.out.below hb) hmp (Nat.le_trans (mdPre_len v s) (by decide)) (md_okEr HOK.out)
  rw [← prep_R (c := ((mdP (clF F) p v, encD (mdPre v s)), vs.map (mdV v s))) hpr] at h2
  rw [← comm_R (c := ((mdP (clF F) p v, encD (mdPre v s)), vs.map (mdV v s))) hpr] at h4
  simp only [hag] at h1 h2 h3 h4
  have HQ1 := Lib.hid h1
  have HQ2 := Lib.hid h2
  have HQ3 := Lib.hid h3
  have HQ4 := Lib.hid h4
  clear hag hmp hkn hpr h1 h2 h3 h4
  generalize prepA _ _ = z1 at *
  generalize commA _ _ = z2 at *
  obtain ⟨m1, y1⟩ := z1
  obtain ⟨m2, y2⟩ := z2
  have HKK := Lib.hid (show ∀ W, Below wK.heap.size wK W → W.cell? ⟨wM.heap.size, 0, none⟩ = some (.int .i64 (mdP (clF F) p v)) ∧ W.cell? ⟨wM.heap.size, 1, none⟩ = some (.slice BA (encD (mdPre v s)).length bc) ∧ W.cell? ⟨wM.heap.size, 2, none⟩ = some (.slice A2 vs.length c2) ∧ W.cell? ⟨wB.heap.size, 0, none⟩ = some (.pointer (some ⟨g, 0, none⟩)) ∧ W.cell? ⟨wB.heap.size, 1, none⟩ = some (.pointer (some ⟨g2, 0, none⟩)) from fun W hb => ⟨rowCell (heapB HK.out hb) 0 _ rfl, rowCell (heapB HK.out hb) 1 _ rfl, rowCell (heapB HK.out hb) 2 _ rfl, rowCell (heapB HXB.out hb) 0 _ rfl, rowCell (heapB HXB.out hb) 1 _ rfl⟩)
  have HBW := Lib.hid (Below.refl wK.heap.size wK)
  generalize mdP (clF F) p v = pr at *
  generalize (encD (mdPre v s)).length = ln at *
  clear HK HXB HV HE HAU HRA
  obtain ⟨k0, k1, k2, k3, k4⟩ := HKK.out _ HBW.out
  go_upto_region 6 with (go_at_call 24; go_loud (refine (HQ1.out _ HBW.out).mono ?_; rintro e w5 ⟨P5, rfl, hk, hb⟩; have HBW := Lib.hid (bel2M HBW.out hb); have HM5 := Lib.hid (hk w5 (kpb_refl _ _)); clear hb hk))
  have HBW := Lib.hid (bel2M HBW.out (alloc1B w5 (.cells (msC m1 P5) 57)))
  have HX5 := Lib.hid (heap_alloc_new w5 (.cells (msC m1 P5) 57))
  have HM5 := Lib.hid (HM5.out.below (alloc1B w5 (.cells (msC m1 P5) 57)))
  generalize hwn : w5.alloc _ = u5 at *
  clear hwn k0 k1 k2 k3 k4
  obtain ⟨k0, k1, k2, k3, k4⟩ := HKK.out _ HBW.out
  go_upto_region 7 with (go_at_call 25; go_loud (refine (HQ2.out _ HBW.out).mono ?_; rintro e w6 ⟨P6, rfl, hk, hb⟩; have HBW := Lib.hid (bel2M HBW.out hb); have HM6 := Lib.hid (hk w6 (kpb_refl _ _)); have HX5 := Lib.hid (heapB HX5.out hb); have HM5 := Lib.hid (HM5.out.below hb); clear hb hk))
  have HBW := Lib.hid (bel2M HBW.out (alloc1B w6 (.cells (msC m1 P6) 57)))
  have HX6 := Lib.hid (heap_alloc_new w6 (.cells (msC m1 P6) 57))
  have HM6 := Lib.hid (HM6.out.below (alloc1B w6 (.cells (msC m1 P6) 57)))
  have HX5 := Lib.hid (heapB HX5.out (alloc1B w6 (.cells (msC m1 P6) 57)))
  have HM5 := Lib.hid (HM5.out.below (alloc1B w6 (.cells (msC m1 P6) 57)))
  generalize hwn : w6.alloc _ = u6 at *
  clear hwn k0 k1 k2 k3 k4
  obtain ⟨k0, k1, k2, k3, k4⟩ := HKK.out _ HBW.out
  go_upto_region 8 with (go_at_call 26; go_loud (refine (HQ3.out _ HBW.out).mono ?_; rintro e w7 ⟨P7, rfl, hk, hb⟩; have HBW := Lib.hid (bel2M HBW.out hb); have HM7 := Lib.hid (hk w7 (kpb_refl _ _)); have HX5 := Lib.hid (heapB HX5.out hb); have HM5 := Lib.hid (HM5.out.below hb); have HX6 := Lib.hid (heapB HX6.out hb); have HM6 := Lib.hid (HM6.out.below hb); clear hb hk))
  have HBW := Lib.hid (bel2M HBW.out (alloc1B w7 (.cells (msC m2 P7) 57)))
  have HX7 := Lib.hid (heap_alloc_new w7 (.cells (msC m2 P7) 57))
  have HM7 := Lib.hid (HM7.out.below (alloc1B w7 (.cells (msC m2 P7) 57)))
  have HX5 := Lib.hid (heapB HX5.out (alloc1B w7 (.cells (msC m2 P7) 57)))
  have HM5 := Lib.hid (HM5.out.below (alloc1B w7 (.cells (msC m2 P7) 57)))
  have HX6 := Lib.hid (heapB HX6.out (alloc1B w7 (.cells (msC m2 P7) 57)))
  have HM6 := Lib.hid (HM6.out.below (alloc1B w7 (.cells (msC m2 P7) 57)))
  generalize hwn : w7.alloc _ = u7 at *
  clear hwn k0 k1 k2 k3 k4
  obtain ⟨k0, k1, k2, k3, k4⟩ := HKK.out _ HBW.out
  go_upto_region 9 with (go_at_call 27; go_loud (refine (HQ4.out _ HBW.out).mono ?_; rintro e w8 ⟨P8, rfl, hk, hb⟩; have HBW := Lib.hid (bel2M HBW.out hb); have HM8 := Lib.hid (hk w8 (kpb_refl _ _)); have HX5 := Lib.hid (heapB HX5.out hb); have HM5 := Lib.hid (HM5.out.below hb); have HX6 := Lib.hid (heapB HX6.out hb); have HM6 := Lib.hid (HM6.out.below hb); have HX7 := Lib.hid (heapB HX7.out hb); have HM7 := Lib.hid (HM7.out.below hb); clear hb hk))
  have HBW := Lib.hid (bel2M HBW.out (alloc1B w8 (.cells (msC m2 P8) 57)))
  have HX8 := Lib.hid (heap_alloc_new w8 (.cells (msC m2 P8) 57))
  have HM8 := Lib.hid (HM8.out.below (alloc1B w8 (.cells (msC m2 P8) 57)))
  have HX5 := Lib.hid (heapB HX5.out (alloc1B w8 (.cells (msC m2 P8) 57)))
  have HM5 := Lib.hid (HM5.out.below (alloc1B w8 (.cells (msC m2 P8) 57)))
  have HX6 := Lib.hid (heapB HX6.out (alloc1B w8 (.cells (msC m2 P8) 57)))
  have HM6 := Lib.hid (HM6.out.below (alloc1B w8 (.cells (msC m2 P8) 57)))
  have HX7 := Lib.hid (heapB HX7.out (alloc1B w8 (.cells (msC m2 P8) 57)))
  have HM7 := Lib.hid (HM7.out.below (alloc1B w8 (.cells (msC m2 P8) 57)))
  generalize hwn : w8.alloc _ = u8 at *
  clear hwn k0 k1 k2 k3 k4
  have a0 := rowCell HX5.out 0 (.int .i64 m1.k) rfl
  have a1 := rowCell HX5.out 1 (.int .i64 m1.v) rfl
  have a2 := rowCell HX5.out 2 (.int .i64 m1.s) rfl
  have a3 := rowCell HX5.out 3 (.int .i64 m1.c) rfl
  have a4 := rowCell HX5.out 4 (.int .i64 m1.t) rfl
  have a5 := rowCell HX5.out 5 (.string (strB m1.d)) rfl
  have a6 := rowCell HX5.out 6 (.slice P5.x.1 m1.x.length P5.x.2) rfl
  have a7 := rowCell HX5.out 7 (.int .i64 m1.r.1) rfl
  have a8 := rowCell HX5.out 8 (.int .i64 m1.r.2) rfl
  have a9 := rowCell HX5.out 9 (.slice P5.b.1 m1.b.length P5.b.2) rfl
  have a10 := rowCell HX5.out 10 (.slice P5.p.1 m1.p.length P5.p.2) rfl
  have a11 := rowCell HX5.out 11 (.slice P5.q.1 m1.q.length P5.q.2) rfl
  have b0 := rowCell HX6.out 0 (.int .i64 m1.k) rfl
  have b1 := rowCell HX6.out 1 (.int .i64 m1.v) rfl
  have b2 := rowCell HX6.out 2 (.int .i64 m1.s) rfl
  have b3 := rowCell HX6.out 3 (.int .i64 m1.c) rfl
  have b4 := rowCell HX6.out 4 (.int .i64 m1.t) rfl
  have b5 := rowCell HX6.out 5 (.string (strB m1.d)) rfl
  have b6 := rowCell HX6.out 6 (.slice P6.x.1 m1.x.length P6.x.2) rfl
  have b7 := rowCell HX6.out 7 (.int .i64 m1.r.1) rfl
  have b8 := rowCell HX6.out 8 (.int .i64 m1.r.2) rfl
  have b9 := rowCell HX6.out 9 (.slice P6.b.1 m1.b.length P6.b.2) rfl
  have b10 := rowCell HX6.out 10 (.slice P6.p.1 m1.p.length P6.p.2) rfl
  have b11 := rowCell HX6.out 11 (.slice P6.q.1 m1.q.length P6.q.2) rfl
  go_wp2_with (first
    | (go_at_call_of 28 (Value.slice P5.x.1 m1.x.length P5.x.2); go_loud (refine (rSameM_any m1 m1 P5 P6 _ HM5.out HM6.out).mono ?_; rw [decide_eq_true (rfl : m1 = m1)]; rintro e wx ⟨rfl, hb⟩; have HBW := Lib.hid (bel2M HBW.out hb); have HX7 := Lib.hid (heapB HX7.out hb); have HX8 := Lib.hid (heapB HX8.out hb); have HM7 := Lib.hid (HM7.out.below hb); have HM8 := Lib.hid (HM8.out.below hb); clear hb a0 b0 a1 b1 a2 b2 a3 b3 a4 b4 a5 b5 a6 b6 a7 b7 a8 b8 a9 b9 a10 b10 a11 b11; have c0 := rowCell HX7.out 0 (.int .i64 m2.k) rfl; have d0 := rowCell HX8.out 0 (.int .i64 m2.k) rfl; have c1 := rowCell HX7.out 1 (.int .i64 m2.v) rfl; have d1 := rowCell HX8.out 1 (.int .i64 m2.v) rfl; have c2 := rowCell HX7.out 2 (.int .i64 m2.s) rfl; have d2 := rowCell HX8.out 2 (.int .i64 m2.s) rfl; have c3 := rowCell HX7.out 3 (.int .i64 m2.c) rfl; have d3 := rowCell HX8.out 3 (.int .i64 m2.c) rfl; have c4 := rowCell HX7.out 4 (.int .i64 m2.t) rfl; have d4 := rowCell HX8.out 4 (.int .i64 m2.t) rfl; have c5 := rowCell HX7.out 5 (.string (strB m2.d)) rfl; have d5 := rowCell HX8.out 5 (.string (strB m2.d)) rfl; have c6 := rowCell HX7.out 6 (.slice P7.x.1 m2.x.length P7.x.2) rfl; have d6 := rowCell HX8.out 6 (.slice P8.x.1 m2.x.length P8.x.2) rfl; have c7 := rowCell HX7.out 7 (.int .i64 m2.r.1) rfl; have d7 := rowCell HX8.out 7 (.int .i64 m2.r.1) rfl; have c8 := rowCell HX7.out 8 (.int .i64 m2.r.2) rfl; have d8 := rowCell HX8.out 8 (.int .i64 m2.r.2) rfl; have c9 := rowCell HX7.out 9 (.slice P7.b.1 m2.b.length P7.b.2) rfl; have d9 := rowCell HX8.out 9 (.slice P8.b.1 m2.b.length P8.b.2) rfl; have c10 := rowCell HX7.out 10 (.slice P7.p.1 m2.p.length P7.p.2) rfl; have d10 := rowCell HX8.out 10 (.slice P8.p.1 m2.p.length P8.p.2) rfl; have c11 := rowCell HX7.out 11 (.slice P7.q.1 m2.q.length P7.q.2) rfl; have d11 := rowCell HX8.out 11 (.slice P8.q.1 m2.q.length P8.q.2) rfl))
    | (go_at_call_of 28 (Value.slice P7.x.1 m2.x.length P7.x.2); go_loud (refine (rSameM_any m2 m2 P7 P8 _ HM7.out HM8.out).mono ?_; rw [decide_eq_true (rfl : m2 = m2)]; rintro e wy ⟨rfl, hb⟩; have HBW := Lib.hid (bel2M HBW.out hb); clear hb c0 d0 c1 d1 c2 d2 c3 d3 c4 d4 c5 d5 c6 d6 c7 d7 c8 d8 c9 d9 c10 d10 c11 d11))
    | (go_at_call 21; refine (HAW.out _).mono ?_; rintro e wz ⟨rfl, hb⟩; have HBW := Lib.hid (bel2M HBW.out hb); clear hb))
  go_ret
  exact ⟨rfl, bel2M HBM.out HBW.out⟩

end Go.Proofs.YtjkbmmhnlhaapaaGreat

namespace Go.Proofs.YtjkbmmhnlhaapaaGreat
open Go.RowKit Go.ChangeShapes Go.WideShapes Go.ChangeAt
set_option linter.unusedVariables false
set_option maxRecDepth 20000

section
variable {H : Type} {enc : TypeId × Value → H} {W : World} {sp : Nat → Bool} {hd : Bool} {base : Nat} {v : Value} {d : DataW H} {ps : List MemPlace}

end
end Go.Proofs.YtjkbmmhnlhaapaaGreat

namespace Go.Proofs.YtjkbmmhnlhaapaaGreat
open Go.RowKit Go.ChangeShapes Go.WideShapes Go.ChangeAt
set_option linter.unusedVariables false
set_option linter.unusedSimpArgs false
set_option maxRecDepth 20000

section
variable {H : Type} {enc : TypeId × Value → H} {W : World} {sp : Nat → Bool} {hd : Bool} {base : Nat} {v : Value} {d : DataW H} {ps : List MemPlace}
end
end Go.Proofs.YtjkbmmhnlhaapaaGreat

namespace Go.Proofs.YtjkbmmhnlhaapaaGreat
open Go.RowKit
set_option linter.unusedVariables false
set_option linter.unusedSimpArgs false
set_option maxRecDepth 20000

theorem stabC_1 {s : Int} {d : List UInt8} {m : Msg} (h : ¬ m.s = s) : stabC s d m = 131 := if_neg h
theorem stabC_2 {s : Int} {d : List UInt8} {m : Msg} (h : m.s = s) (h2 : ¬ m.d = d) : stabC s d m = 132 := by unfold stabC; rw [if_pos h, if_neg h2]
theorem stabC_3 {s : Int} {d : List UInt8} {m : Msg} (h : m.s = s) (h2 : m.d = d) : stabC s d m = 0 := by unfold stabC; rw [if_pos h, if_pos h2]
theorem talD_x {n : Nat} {enough : Int} {vo : Nat → Msg × Int} {mu : Nat → Int} {tw : Nat → Bool} {k : Nat} {x : Int} (hk : k < n) (h : ∀ j, j < k → rndD vo mu tw j = 0) (h1 : rndD vo mu tw k = x) (h0 : x ≠ 0) : talD n enough vo mu tw = x := by
  unfold talD
  rw [findX_at hk h (by rw [h1]; exact h0), h1]
theorem talD_32 {n : Nat} {enough : Int} {vo : Nat → Msg × Int} {mu : Nat → Int} {tw : Nat → Bool} (h : ∀ j, j < n → rndD vo mu tw j = 0) (he : (n : Int) < enough) : talD n enough vo mu tw = 32 := by
  unfold talD
  rw [findX_ok h, if_pos he]
theorem talD_0 {n : Nat} {enough : Int} {vo : Nat → Msg × Int} {mu : Nat → Int} {tw : Nat → Bool} (h : ∀ j, j < n → rndD vo mu tw j = 0) (he : ¬ (n : Int) < enough) : talD n enough vo mu tw = 0 := by
  unfold talD
  rw [findX_ok h, if_neg he]
set_option maxHeartbeats 8000000 in
theorem rStable_of (pa : Value) (s : Int) (A : Option Addr) (cc : Nat) (l : List (Int × List UInt8)) (w : World) (f : Int) (vo : Nat → Msg × Int) (hl : EnvK w A cc l) (hf : 0 ≤ f ∧ f ≤ 100)
    (hV : ∀ (k : Nat) (hk : k < l.length) W bv, Below w.heap.size w W → Bs W bv l[k].2 → Calls Tryz.prog 69 #[pa, agE l[k].1 bv, .int .i64 5] W (DecN (vo k) W))
    (hQ : ∀ W, Below w.heap.size w W → Calls Tryz.prog 64 #[pa] W (Says (.int .i64 (2 * f + 1)) W)) :
    Calls Tryz.prog 30 #[pa, .int .i64 s, .slice A l.length cc] w (DigP (stabX l.length s (dgS vo l.length) (talD l.length (2 * f + 1) vo (muS s vo) (twB l))) w) := by
  have HV := Lib.hid hV
  have HQ := Lib.hid hQ
  have hn63 : l.length ≤ 9223372036854775807 := by have h3 := hl.1; have h4 := hl.2.1; unfold maxLen at h4; omega
  have HN63 := Lib.hid hn63
  have HTW := Lib.hid (fun i hi W (hb : Below w.heap.size w W) => rTwice_any A cc l i hi W (hl.below hb))
  have HEX := Lib.hid (fun k hk => env_open hl k hk)
  have hmx : max (1 : Int) (2 * f + 1) = 2 * f + 1 := by omega
  clear hV hQ hl hn63
  by_cases hs : s = 0
  · have hq : (s == 0) = true := by simpa using hs
    rw [hs, stab_0]
    by_cases hn : 0 < l.length
    · rw [if_pos hn]
      have hn2 : (0 : Int) < (l.length : Int) := by omega
      clear hs
      go_enter Tryz.func30, Tryz.ntmps30
      go_wp2
      go_ret2
      exact ⟨rfl, Below.refl _ _⟩
    · rw [if_neg hn]
      have hn2 : ¬ (0 : Int) < (l.length : Int) := by omega
      clear hs
      go_enter Tryz.func30, Tryz.ntmps30
      go_wp2
      go_ret2
      exact ⟨rfl, Below.refl _ _⟩
  have hsq : (s == 0) = false := by simpa using hs
  have HSN := Lib.hid (fun x (hx : ¬ x = 0) (ht : talD l.length (2 * f + 1) vo (muS s vo) (twB l) = x) => show stabX l.length s (dgS vo l.length) (talD l.length (2 * f + 1) vo (muS s vo) (twB l)) = ([], x) from by rw [ht]; exact stab_no hs hx)
  have HSY := Lib.hid (fun (ht : talD l.length (2 * f + 1) vo (muS s vo) (twB l) = 0) => show stabX l.length s (dgS vo l.length) (talD l.length (2 * f + 1) vo (muS s vo) (twB l)) = (dgS vo l.length, 0) from stab_ok hs ht)
  clear hs
  generalize hd0 : (vo 0).1.d = d0 at *
  have HD0 := Lib.hid hd0
  clear hd0
  go_enter Tryz.func30, Tryz.ntmps30
  go_wp2
  go_loopw [8, 9] (fun dv i wr => ∃ (k : Nat), k ≤ l.length ∧ i = .int .i64 k ∧ dv = .string (strB (if k = 0 then [] else d0)) ∧ (∀ j, j < k → rndD vo (muS s vo) (twB l) j = 0) ∧ Below w.heap.size w wr) (fun _ i _ => l.length - (intOf i).toNat)
  case atStart => exact ⟨0, Nat.zero_le _, rfl, rfl, fun j hj => absurd hj (Nat.not_lt_zero _), Below.refl _ _⟩
  case round =>
    obtain ⟨k, hk, rfl, rfl, hall, hbel⟩ := hrel
    have HALL := Lib.hid hall
    have HBEL := Lib.hid hbel
    clear hall hbel
    by_cases hlt : k < l.length
    · have hltI : (k : Int) < (l.length : Int) := by omega
      have HVK := Lib.hid (HV.out k hlt)
      have HTK := Lib.hid (HTW.out k hlt)
      obtain ⟨ad, bvk, rfl, hbl, h1, h2, h3⟩ := HEX.out k hlt
      obtain ⟨BA1, bc1, rfl, -⟩ := h3.open
      have c1 := cellM HBEL.out (p := ad.add (k * 2)) (by rw [block_add]; exact hbl) h1
      have c2 := cellM HBEL.out (p := ⟨(ad.add (k * 2)).block, (ad.add (k * 2)).off + 1, none⟩) (by rw [block_add]; exact hbl) h2
      have HVB := Lib.hid h3
      have HLT := Lib.hid hlt
      have HAT := Lib.hid (fun x (hx1 : rndD vo (muS s vo) (twB l) k = x) (hx : x ≠ 0) => HSN.out x hx (talD_x (enough := 2 * f + 1) hlt HALL.out hx1 hx))
      generalize hxk : l[k] = xk at *
      clear hxk h1 h2 h3 hlt
      obtain ⟨sk, bk⟩ := xk
      simp only at HVK c1 c2 HVB
      rcases hvk : vo k with ⟨mv, yv⟩
      have HVO := Lib.hid hvk
      rw [hvk] at HVK
      clear hvk
      generalize hdk : strB (if k = 0 then [] else d0) = dk at *
      have HDK := Lib.hid hdk
      clear hdk
      go_upto_region 10 with (go_at_call 69; go_loud (refine (HVK.out _ _ HBEL.out (HVB.out.below HBEL.out (Nat.le_refl _))).mono ?_; rintro e w5 ⟨P5, rfl, -, hb⟩; have HB5 := Lib.hid (bel2M HBEL.out hb); have HBV := Lib.hid (alloc1B w5 (.cells (msC mv P5) 57)); have HV5 := Lib.hid (heap_alloc_new w5 (.cells (msC mv P5) 57)); clear hb))
      have HB6 := Lib.hid (bel2M HB5.out HBV.out)
      generalize hw6 : w5.alloc _ = w6 at *
      clear hw6 c1 c2
      have HDM := Lib.hid (show k = 0 → mv.d = d0 from fun h => by
        subst h
        rw [← HD0.out, HVO.out])
      have v5 := rowCell HV5.out 5 (.string (strB mv.d)) rfl
      go_upto_if 33 with fail
      go_cut [8] from 33 to 35 (fun s8 wx => s8 = .string (strB d0) ∧ wx = w6)
      case first =>
        by_cases hk0 : k = 0
        · have hq : ((k : Int) == 0) = true := by rw [hk0]; rfl
          have HMD := Lib.hid (HDM.out hk0)
          clear hk0
          go_wp2_with fail
          go_meet
          exact ⟨by rw [HMD.out], rfl⟩
        · have hq : ((k : Int) == 0) = false := by simp; omega
          have HDD := Lib.hid (show dk = strB d0 from by rw [← HDK.out, if_neg hk0])
          clear hk0
          go_wp2_with fail
          go_meet
          exact ⟨by rw [HDD.out], rfl⟩
      case rest =>
      obtain ⟨rfl, rfl⟩ := hcut
      by_cases hy : yv = 0
      case neg =>
        have HZ := Lib.hid (HAT.out yv (by rw [rndD_1 (by rw [HVO.out]; exact hy), HVO.out]) hy)
        have hq : (yv != 0) = true := by simpa using hy
        clear hy
        go_wp2
        go_ret2
        rw [HZ.out]
        exact ⟨rfl, HB6.out⟩
      subst hy
      have HV0 := Lib.hid (show (vo k).2 = 0 by rw [HVO.out])
      have HMU := Lib.hid (show muS s vo k = stabC s d0 mv by unfold muS; rw [HVO.out, HD0.out])
      have v2 := rowCell HV5.out 2 (.int .i64 mv.s) rfl
      by_cases ea : mv.s = s
      case neg =>
        have HZ := Lib.hid (HAT.out 131 (by rw [rndD_2 HV0.out (by rw [HMU.out, stabC_1 ea]; decide), HMU.out, stabC_1 ea]) (by decide))
        have hq : (mv.s != s) = true := by simpa using ea
        clear ea
        go_wp2
        go_ret2
        rw [HZ.out]
        exact ⟨rfl, HB6.out⟩
      have qa : (mv.s != s) = false := by simpa using ea
      have Hea := Lib.hid ea
      clear ea
      by_cases ec : mv.d = d0
      case neg =>
        have HZ := Lib.hid (HAT.out 132 (by rw [rndD_2 HV0.out (by rw [HMU.out, stabC_2 Hea.out ec]; decide), HMU.out, stabC_2 Hea.out ec]) (by decide))
        have hq : ((strB mv.d).toList == (strB d0).toList) = false := digH_ne ec
        clear ec
        go_wp2
        go_ret2
        rw [HZ.out]
        exact ⟨rfl, HB6.out⟩
      have qc : ((strB mv.d).toList == (strB d0).toList) = true := by rw [ec]; exact digH_eq _
      have HM0 := Lib.hid (HMU.out.trans (stabC_3 Hea.out ec))
      clear ec
      rcases htw : twB l k with _ | _
      · have HA2 := Lib.hid (show ∀ j, j < k + 1 → rndD vo (muS s vo) (twB l) j = 0 from fun j hj => by
          by_cases hjk : j < k
          · exact HALL.out j hjk
          · obtain rfl : j = k := by omega
            exact rndD_4 HV0.out HM0.out htw)
        rw [htw] at HTK
        clear htw HALL
        have hltI : (k : Int) < (l.length : Int) := by have := HLT.out; omega
        have hn63 := HN63.out
        go_wp2_with (go_at_call 70; refine (HTK.out _ HB6.out).mono ?_; rintro e w8 ⟨rfl, hb⟩; have HE8 := Lib.hid (bel2M HB6.out hb); clear hb)
        go_roundw
        case rel => exact ⟨k + 1, by have := HLT.out; omega, by go_num, by rw [if_neg (Nat.succ_ne_zero k)], HA2.out, HE8.out⟩
        case measure => simp [intOf]; have := HLT.out; omega
      · have HZ := Lib.hid (HAT.out 33 (rndD_3 HV0.out HM0.out htw) (by decide))
        rw [htw] at HTK
        clear htw
        go_wp2_with (go_at_call 70; refine (HTK.out _ HB6.out).mono ?_; rintro e w8 ⟨rfl, hb⟩; have HE8 := Lib.hid (bel2M HB6.out hb); clear hb)
        go_ret2
        rw [HZ.out]
        exact ⟨rfl, HE8.out⟩
    · obtain rfl : k = l.length := by omega
      have hltI : ¬ (l.length : Int) < (l.length : Int) := by omega
      have HDN := Lib.hid (show strB (if l.length = 0 then [] else d0) = strB (dgS vo l.length) from by unfold dgS; rw [HD0.out])
      generalize strB (if l.length = 0 then [] else d0) = dk at *
      by_cases hn : (l.length : Int) < 2 * f + 1
      · have HZ := Lib.hid (HSN.out 32 (by decide) (talD_32 HALL.out hn))
        go_wp2_with (go_at_call 64; refine (HQ.out _ HBEL.out).mono ?_; rintro e w8 ⟨rfl, hww⟩; rw [hww]; clear hww w8)
        go_ret2
        rw [HZ.out]
        exact ⟨rfl, HBEL.out⟩
      · have HZ := Lib.hid (HSY.out (talD_0 HALL.out hn))
        go_wp2_with (go_at_call 64; refine (HQ.out _ HBEL.out).mono ?_; rintro e w8 ⟨rfl, hww⟩; rw [hww]; clear hww w8)
        go_ret2
        rw [HZ.out]
        exact ⟨by rw [HDN.out]; rfl, HBEL.out⟩
section
variable {w : World} {g : Nat} {K : Kn} {S : Nat → Prop}
theorem rA_stab (h : RaK w g K S) (hn : KN K) (s : Int) (A : Option Addr) (cc : Nat) (l : List (Int × List UInt8)) (hl : EnvK w A cc l) (ho : OkEr l) :
    Calls Tryz.prog 30 #[.pointer (some ⟨g, 0, none⟩), .int .i64 s, .slice A l.length cc] w (DigP (stabA K s l) w) := by
  have key := rStable_of (.pointer (some ⟨g, 0, none⟩)) s A cc l w K.f (votR K 5 l) hl (by have := h.f; omega) (fun k hk W bv hb hv => by
    have := rA_vote5 (h.below hb) hn l[k] bv hv (ho _ (List.getElem_mem hk)).1 (ho _ (List.getElem_mem hk)).2
    unfold votR
    rwa [envAt_eq hk]) fun W hb => rA_quorum (h.below hb)
  have hv : votA K 5 l = votR K 5 l := by funext k; exact vote_R 5 (.inr (.inr rfl)) _
  unfold stabA
  rw [tal_R (.inr (.inr rfl)), hv]
  exact key
end

set_option maxHeartbeats 8000000 in
theorem CertStable_any (F C v s p sq : Int) (A : Option Addr) (cc : Nat) (vs : List Vt) (w : World) (hvs : VtK w A cc vs) (hp : ok64 p) (hok : ∀ x ∈ vs, ok64 x.s) (hkk : ∀ x ∈ vs, ok64 x.k) (hsq : ok64 sq) : Calls Tryz.prog 5 #[.agg #[.int .i64 F, .int .i64 C], .agg #[.int .i64 v, .int .i64 s, .int .i64 p, .slice A vs.length cc], .int .i64 sq] w (AskB true w) := by
  obtain ⟨x1, x2, x3⟩ := box2B w #[.int .i64 F, .int .i64 C] #[.int .i64 v, .int .i64 s, .int .i64 p, .slice A vs.length cc] 23 48
  have HBN := Lib.hid (fun W => bounds_any v s p A vs.length cc W)
  have HAW := Lib.hid (fun W => awake13_any W)
  rcases hb : bndC v s vs.length with _ | _
  · rw [hb] at HBN
    clear hb
    go_enter Tryz.func5, Tryz.ntmps5
    go_upto_region 1 with fail
    generalize hw0 : (w.alloc _).alloc _ = w0 at *
    have HB := Lib.hid x3
    have c0 := rowCell x2 0 (.int .i64 v) rfl
    have c1 := rowCell x2 1 (.int .i64 s) rfl
    have c2 := rowCell x2 2 (.int .i64 p) rfl
    have c3 := rowCell x2 3 (.slice A vs.length cc) rfl
    clear x1 x2 x3 hw0
    go_wp2_with (first
      | (go_at_call 22; refine (HBN.out _).mono ?_; rintro e w1 ⟨rfl, hb⟩; have HB1 := Lib.hid (bel2M HB.out hb); clear hb)
      | (go_at_call 21; refine (HAW.out _).mono ?_; rintro e w2 ⟨rfl, hb⟩; have HB2 := Lib.hid (bel2M HB1.out hb); clear hb))
    go_ret
    exact ⟨rfl, HB2.out⟩
  rw [hb] at HBN
  have HBI := Lib.hid (bnd_iff hb)
  have HVS := Lib.hid hvs
  have HP := Lib.hid hp
  have HOK := Lib.hid hok
  have HKD := Lib.hid hkk
  have HLW := Lib.hid (show w.heap.size + 1 < ((w.alloc (.cells #[.int .i64 F, .int .i64 C] 23)).alloc (.cells #[.int .i64 v, .int .i64 s, .int .i64 p, .slice A vs.length cc] 48)).heap.size from (Array.getElem?_eq_some_iff.1 x2).1)
  have HSQ := Lib.hid hsq
  clear hb hvs hp hok hkk hsq
  go_enter Tryz.func5, Tryz.ntmps5
  go_upto_region 1 with fail
  generalize hw0 : (w.alloc _).alloc _ = w0 at *
  have HS0 := Lib.hid x1
  have HC0 := Lib.hid x2
  have HB0 := Lib.hid x3
  have c0 := rowCell x2 0 (.int .i64 v) rfl
  have c1 := rowCell x2 1 (.int .i64 s) rfl
  have c2 := rowCell x2 2 (.int .i64 p) rfl
  have c3 := rowCell x2 3 (.slice A vs.length cc) rfl
  clear x1 x2 x3 hw0
  go_upto_region 4 with (first
    | (go_at_call 22; refine (HBN.out _).mono ?_; rintro e w1 ⟨rfl, hb⟩; have HB1 := Lib.hid (bel2M HB0.out hb); have HS1 := Lib.hid (heapB HS0.out hb); have HC1 := Lib.hid (heapB HC0.out hb); have HL1 := Lib.hid (show w.heap.size + 1 < w1.heap.size from Nat.lt_of_lt_of_le HLW.out hb.size); have s0 := rowCell HS1.out 0 (.int .i64 F) rfl; have s1 := rowCell HS1.out 1 (.int .i64 C) rfl; clear hb)
    | (go_at_call 15; go_loud (refine (begun_any F C _).mono ?_; rintro e wB ⟨g, bm, g2, T, rfl, hbt, hbb⟩; have HBT := Lib.hid hbt; have HB2 := Lib.hid (bel2M HB1.out hbb); have HS2 := Lib.hid (heapB HS1.out hbb); have HC2 := Lib.hid (heapB HC1.out hbb); clear hbt hbb)))
  have HX := Lib.hid (Held.new (cs := #[.pointer (some ⟨g, 0, none⟩), .pointer (some ⟨g2, 0, none⟩)]) (t := 29) HBT.out)
  have HBT := Lib.hid (HBT.out.below (alloc1B wB (.cells #[.pointer (some ⟨g, 0, none⟩), .pointer (some ⟨g2, 0, none⟩)] 29)))
  have HB3 := Lib.hid (bel2M HB2.out (alloc1B wB (.cells #[.pointer (some ⟨g, 0, none⟩), .pointer (some ⟨g2, 0, none⟩)] 29)))
  have HS3 := Lib.hid (heapB HS2.out (alloc1B wB (.cells #[.pointer (some ⟨g, 0, none⟩), .pointer (some ⟨g2, 0, none⟩)] 29)))
  have HC3 := Lib.hid (heapB HC2.out (alloc1B wB (.cells #[.pointer (some ⟨g, 0, none⟩), .pointer (some ⟨g2, 0, none⟩)] 29)))
  generalize hwn : wB.alloc _ = wC at *
  clear hwn c0 c1 c2 c3 s0 s1
  have HVT := Lib.hid (show ∀ W, Below w1.heap.size wC W → VtK W A cc vs from fun W hW => HVS.out.below (HB3.out.trans (hW.mono (by have := HL1.out; omega))))
  have x0 := rowCell HX.out.at_ 0 (.pointer (some ⟨g, 0, none⟩)) rfl
  have x1 := rowCell HX.out.at_ 1 (.pointer (some ⟨g2, 0, none⟩)) rfl
  have q0 := rowCell HC3.out 0 (.int .i64 v) rfl
  have q1 := rowCell HC3.out 1 (.int .i64 s) rfl
  have q2 := rowCell HC3.out 2 (.int .i64 p) rfl
  have q3 := rowCell HC3.out 3 (.slice A vs.length cc) rfl
  go_upto_region 5 with (go_at_call 23; go_loud (refine (made_any w1.heap.size g bm g2 (clF F) (clC C) [] T v s p vs A cc wC HBT.out HVT.out ⟨HBI.out.1, HBI.out.2.1⟩ ⟨HBI.out.2.2.1, HBI.out.2.2.2.1⟩ HBI.out.2.2.2.2 HP.out HOK.out (Nat.zero_le _)).mono ?_; rintro e wM ⟨bv, A2, c2, T2, rfl, hbv, hrow, hbt, ht, -⟩; obtain ⟨BA, bc, rfl, -⟩ := hbv.bs.open; have HLO := Lib.hid (ht.lowB HBT.out); have HV := Lib.hid hbv.bs; have HE := Lib.hid (show EnvK wM A2 c2 (vs.map (mdV v s)) from hrow.1.to fun _ _ => EnvC.p); have HBT := Lib.hid hbt; have HX := Lib.hid (HX.out.turn ht); clear hbv hrow hbt ht))
  have HSM := Lib.hid ((HLO.out.block w.heap.size (by have := HL1.out; omega)).trans HS3.out)
  have HCM := Lib.hid ((HLO.out.block (w.heap.size + 1) (by have := HL1.out; omega)).trans HC3.out)
  have HBM := Lib.hid (HB3.out.trans (HLO.out.mono (show w.heap.size ≤ w1.heap.size by have := HL1.out; omega)))
  have HSM := Lib.hid (heapB HSM.out (alloc1B wM (.cells #[.int .i64 (mdP (clF F) p v), .slice BA (encD (mdPre v s)).length bc, .slice A2 vs.length c2] 50)))
  have HCM := Lib.hid (heapB HCM.out (alloc1B wM (.cells #[.int .i64 (mdP (clF F) p v), .slice BA (encD (mdPre v s)).length bc, .slice A2 vs.length c2] 50)))
  have HV := Lib.hid (HV.out.below (alloc1B wM (.cells #[.int .i64 (mdP (clF F) p v), .slice BA (encD (mdPre v s)).length bc, .slice A2 vs.length c2] 50)) (Nat.le_refl _))
  have HE := Lib.hid (HE.out.below (alloc1B wM (.cells #[.int .i64 (mdP (clF F) p v), .slice BA (encD (mdPre v s)).length bc, .slice A2 vs.length c2] 50)))
  have HK := Lib.hid (heap_alloc_new wM (.cells #[.int .i64 (mdP (clF F) p v), .slice BA (encD (mdPre v s)).length bc, .slice A2 vs.length c2] 50))
  have HBM := Lib.hid (bel2M HBM.out (alloc1B wM (.cells #[.int .i64 (mdP (clF F) p v), .slice BA (encD (mdPre v s)).length bc, .slice A2 vs.length c2] 50)))
  have HXB := Lib.hid (HX.out.below (alloc1B wM (.cells #[.int .i64 (mdP (clF F) p v), .slice BA (encD (mdPre v s)).length bc, .slice A2 vs.length c2] 50))).at_
  have HRA := Lib.hid (HBT.out.ra.below (alloc1B wM (.cells #[.int .i64 (mdP (clF F) p v), .slice BA (encD (mdPre v s)).length bc, .slice A2 vs.length c2] 50)))
  have HAU := Lib.hid (HBT.out.au.below (alloc1B wM (.cells #[.int .i64 (mdP (clF F) p v), .slice BA (encD (mdPre v s)).length bc, .slice A2 vs.length c2] 50)) (Nat.le_refl _))
  generalize hwn : wM.alloc _ = wK at *
  clear hwn x0 x1 q0 q1 q2 q3
  have hkn : KN ⟨clF F, clC C, mdL (clF F) (clC C) v s p [] vs⟩ := md_noC ⟨HBI.out.1, HBI.out.2.1⟩ ⟨HBI.out.2.2.1, HBI.out.2.2.2.1⟩ HKD.out (fun e he => by cases he)
  have HKN := Lib.hid hkn
  clear hkn
  have q1 := rowCell HCM.out 1 (.int .i64 s) rfl
  have hw : IntKind.i64.wrap (s + sq.tmod 3) = s + sq.tmod 3 := by
    have h1 := Int.tmod_lt_of_pos sq (show (0 : Int) < 3 by decide)
    have h2 := tmod3_lo sq
    have h3 := HBI.out
    rw [IntKind.wrap_i64]
    omega
  go_upto_if 23 with fail
  go_cut [2] from 23 to 28 (fun s2 wx => (∃ z : Int, s2 = .int .i64 z) ∧ wx = wK)
  case first =>
    by_cases hpos : 0 < sq
    · go_wp2_with fail
      go_meet
      exact ⟨⟨_, rfl⟩, rfl⟩
    · go_wp2_with fail
      go_meet
      exact ⟨⟨_, rfl⟩, rfl⟩
  case rest =>
  obtain ⟨⟨z, rfl⟩, rfl⟩ := hcut
  clear q1 hw
  have h1 := fun W (hb : Below wc.heap.size wc W) => aStab (K := ⟨clF F, clC C, mdL (clF F) (clC C) v s p [] vs⟩) (HAU.out.below hb (Nat.le_refl _)) z A2 c2 (vs.map (mdV v s)) (HE.out.below hb) (md_okes HOK.out)
  have h2 := fun W (hb : Below wc.heap.size wc W) => rA_stab (K := ⟨clF F, clC C, mdL (clF F) (clC C) v s p [] vs⟩) (HRA.out.below hb) HKN.out z A2 c2 (vs.map (mdV v s)) (HE.out.below hb) (md_okEr HOK.out)
  simp only [List.length_map] at h1 h2
  have HQ1 := Lib.hid h1
  have HQ2 := Lib.hid h2
  clear h1 h2
  generalize stabA _ _ _ = zz at *
  obtain ⟨dz, yz⟩ := zz
  have HKK := Lib.hid (show ∀ W, Below wc.heap.size wc W → W.cell? ⟨wM.heap.size, 2, none⟩ = some (.slice A2 vs.length c2) ∧ W.cell? ⟨wB.heap.size, 0, none⟩ = some (.pointer (some ⟨g, 0, none⟩)) ∧ W.cell? ⟨wB.heap.size, 1, none⟩ = some (.pointer (some ⟨g2, 0, none⟩)) from fun W hb => ⟨rowCell (heapB HK.out hb) 2 _ rfl, rowCell (heapB HXB.out hb) 0 _ rfl, rowCell (heapB HXB.out hb) 1 _ rfl⟩)
  have HBW := Lib.hid (Below.refl wc.heap.size wc)
  have hdg := digH_eq dz
  obtain ⟨k2, k3, k4⟩ := HKK.out _ HBW.out
  go_upto_region 8 with (go_at_call 29; go_loud (refine (HQ1.out _ HBW.out).mono ?_; rintro e w5 ⟨rfl, hb⟩; have HBW := Lib.hid (bel2M HBW.out hb); clear hb))
  clear k2 k3 k4
  obtain ⟨k2, k3, k4⟩ := HKK.out _ HBW.out
  go_wp2_with (first
    | (go_at_call 30; go_loud (refine (HQ2.out _ HBW.out).mono ?_; rintro e w6 ⟨rfl, hb⟩; have HBW := Lib.hid (bel2M HBW.out hb); clear hb))
    | (go_at_call 21; refine (HAW.out _).mono ?_; rintro e wz ⟨rfl, hb⟩; have HBW := Lib.hid (bel2M HBW.out hb); clear hb))
  go_ret
  exact ⟨rfl, bel2M HBM.out HBW.out⟩

end Go.Proofs.YtjkbmmhnlhaapaaGreat
