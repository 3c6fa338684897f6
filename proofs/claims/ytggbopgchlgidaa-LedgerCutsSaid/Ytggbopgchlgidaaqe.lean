/- qe: LCut LAw BFew BSame LPair LStp LLaw2 LLaw3 LCln LLaw4 (made by shake.py). -/
import Derived.Test.Ytggbopgchlgidaaqd
namespace Go.Proofs.Ytggbopgchlgidaa
open Go.RowKit
set_option linter.unusedVariables false
set_option linter.unusedSimpArgs false
set_option maxRecDepth 20000

theorem off_set {S : Nat → Prop} {W : World} {g i : Nat} {u : Value} (h : S g) : Off S W (W.setCell ⟨g, i, none⟩ u) := ⟨rfl, rfl, rfl, by simp, fun k _ hn => Go.Deep.blk_setCell_other _ _ _ _ (fun e => hn (by rw [e]; exact h))⟩
theorem cutE_two {L : Ldg} {x : Int} (h : x < L.base ∨ topL L < x) : cutE L x = 2 := if_pos h
set_option maxHeartbeats 4000000 in
theorem lCut_any {S : Nat → Prop} {w : World} {g : Nat} {L : Ldg} {v : Value} {qs : List KB} (h : LgP S w g L v qs) {K : Nat} (hg : GoodL K L) (hK : K ≤ 10000000) (x : Int) (hS : ∀ k, w.heap.size ≤ k → S k) : Calls Try.prog 20 #[.pointer (some ⟨g, 0, none⟩), .int .i64 x] w (ApP (cutE L x) (cutL L x) g S w) := by
  have h' := h.mono (S' := fun k => k < w.heap.size ∧ S k) (fun k hk hs => ⟨hk, hs⟩)
  have HL := Lib.hid (fun W (hb : Below w.heap.size w W) => h'.below hb)
  have HS := Lib.hid hS
  have hbnd := hg.b
  have hlen := h.len
  have hn1 := hg.n
  have HFIN := Lib.hid (show ∀ x W, Below w.heap.size w W → ApP x L g S w (.returned (.int .i64 x)) W from fun x W hbl => ⟨v, qs, rfl, (HL.out W hbl).mono (fun k _ hk => hk.2), Off.of_below hbl⟩)
  have HHT := Lib.hid (fun W (hb : Below w.heap.size w W) => lHeight_any (HL.out W hb) hg)
  obtain ⟨z0, z1, z2, z3, z4⟩ := h.rowP
  have HH := Lib.hid (fun W => has_any g W)
  by_cases h1 : x < L.base
  · have e1 := cutE_two (L := L) (.inl h1)
    rw [cutL_no (by rw [e1]; decide), e1]
    clear h h' hg e1
    go_enter Try.func20, Try.ntmps20
    go_wp2_with (first
      | (go_at_call 43; refine (HH.out _).mono ?_; rintro e w1 ⟨rfl, hww⟩; rw [hww]; clear hww w1))
    go_ret
    exact HFIN.out _ _ (Below.refl _ _)
  by_cases h2 : topL L < x
  · have e1 := cutE_two (L := L) (.inr h2)
    rw [cutL_no (by rw [e1]; decide), e1]
    clear h h' hg e1
    generalize topL L = tp at *
    go_enter Try.func20, Try.ntmps20
    go_wp2_with (first
      | (go_at_call 43; refine (HH.out _).mono ?_; rintro e w1 ⟨rfl, hww⟩; rw [hww]; clear hww w1)
      | (go_at_call 18; refine (HHT.out _ (Below.refl _ _)).mono ?_; rintro e w1 ⟨rfl, hb1⟩; have HB1 := Lib.hid hb1; clear hb1))
    go_ret
    exact HFIN.out _ _ HB1.out
  have e0 : cutE L x = 0 := if_neg (by omega)
  obtain ⟨k, hk, rfl, hcl⟩ := cutE_zero e0
  rw [e0, hcl]
  have hkq : k ≤ qs.length := by omega
  have HMA := Lib.hid (fun W (hb : Below w.heap.size w W) => lMarkAt_any (HL.out W hb) hg hK hkq)
  obtain ⟨AV, cV, rfl⟩ := own_slice h.row
  have hcut := run_cutB AV qs.length cV k hkq
  have hs1 : IntKind.i64.wrap (L.base + (k : Int) - L.base) = (k : Int) := by rw [IntKind.wrap_i64]; omega
  have hs2 : IntKind.i64.wrap ((k : Int)) = (k : Int) := by rw [IntKind.wrap_i64]; omega
  have h1I : ¬ L.base + (k : Int) < L.base := h1
  have hql : qs.length - k ≤ 1000000 := by omega
  have hbl : (⟨L.base + (k : Int), atL L k, L.bl.drop k⟩ : Ldg).bl = L.bl.drop k := rfl
  clear h h' hg e0 hcl hbnd hlen hn1 h1
  generalize topL L = tp at *
  generalize atL L k = dk at *
  generalize hLb : L.bl.drop k = lb at *
  have HLB := Lib.hid hLb
  clear hLb
  go_enter Try.func20, Try.ntmps20
  go_upto_region 5 with (first
      | (go_at_call 43; refine (HH.out _).mono ?_; rintro e w1 ⟨rfl, hww⟩; rw [hww]; clear hww w1)
      | (go_at_call 18; refine (HHT.out _ (Below.refl _ _)).mono ?_; rintro e w1 ⟨rfl, hb1⟩; have HB1 := Lib.hid hb1; clear hb1))
  replace HB1 := Lib.hid HB1.out.drew
  clear z0 z1 z2 z3 z4
  obtain ⟨z0, z1, z2, z3, z4⟩ := (HL.out _ HB1.out).rowP
  go_region_held3 (fun W => W.cell? ⟨g, 0, none⟩ = some (.int .i64 L.base) ∧ W.cell? ⟨g, 2, none⟩ = some (.slice AV qs.length cV)) (first | exact ⟨z0, z2⟩) (fail)
  go_upto_region 7 with (first
    | (go_at_call 44; refine (HMA.out _ HB1.out).mono ?_; rintro e w2 ⟨rfl, hb2⟩; have HB2 := Lib.hid (bel2M HB1.out hb2); clear hb2 z0 z1 z2 z3 z4; obtain ⟨z0, z1, z2, z3, z4⟩ := (HL.out _ HB2.out).rowP))
  have hL2 := HL.out _ HB2.out
  have hgl : g < w.heap.size := hL2.at_g.1
  have hh3 : ((w2.setCell ⟨g, 0, none⟩ (.int .i64 (L.base + (k : Int)))).setCell ⟨g, 1, none⟩ (.string (strB dk))).heap[g]? = some (.cells #[.int .i64 (L.base + (k : Int)), .string (strB dk), .slice AV qs.length cV, .bool true] 77 (0, 0)) := by
    rw [set_cells (set_cells hL2.head)]
    rfl
  have ho3 : ∀ i, i ≠ g → ((w2.setCell ⟨g, 0, none⟩ (.int .i64 (L.base + (k : Int)))).setCell ⟨g, 1, none⟩ (.string (strB dk))).heap[i]? = w2.heap[i]? := fun i hi => by rw [Go.Deep.blk_setCell_other _ _ _ _ hi, Go.Deep.blk_setCell_other _ _ _ _ hi]
  have hz3 : ((w2.setCell ⟨g, 0, none⟩ (.int .i64 (L.base + (k : Int)))).setCell ⟨g, 1, none⟩ (.string (strB dk))).heap.size = w2.heap.size := by simp
  have hf3 : Off S w ((w2.setCell ⟨g, 0, none⟩ (.int .i64 (L.base + (k : Int)))).setCell ⟨g, 1, none⟩ (.string (strB dk))) := ((Off.of_below HB2.out).trans (off_set hL2.at_g.2)).trans (off_set hL2.at_g.2)
  have hrow3 := own_keep hL2.row (w' := ((w2.setCell ⟨g, 0, none⟩ (.int .i64 (L.base + (k : Int)))).setCell ⟨g, 1, none⟩ (.string (strB dk)))) fun i hi => ho3 i (hL2.at_v i hi).2
  generalize ((w2.setCell ⟨g, 0, none⟩ (.int .i64 (L.base + (k : Int)))).setCell ⟨g, 1, none⟩ (.string (strB dk))) = w3 at *
  have HCL := Lib.hid (cloneBk_any (cutA AV cV k) (qs.length - k) (cV - k) ((qs.drop k).flatMap kbC) w3 (own_cut hrow3 rfl hkq) (kbC_one _) hql)
  have HH3 := Lib.hid hh3
  have HO3 := Lib.hid ho3
  have HZ3 := Lib.hid hz3
  have HF3 := Lib.hid hf3
  have HGL := Lib.hid hgl
  clear hh3 ho3 hz3 hf3 hrow3 hL2 hgl z0 z1 z2 z3 z4
  go_wp2_with (first
    | (go_at_call 45; refine HCL.out.mono ?_; rintro e w4 ⟨v4, rfl, ho4, hb4⟩; obtain ⟨A4, c4, rfl⟩ := own_slice ho4; have HO4 := Lib.hid ho4; have HB4 := Lib.hid hb4; have HH4 := Lib.hid (heapB HH3.out hb4); clear ho4 hb4; obtain ⟨z0, z1, z2, z3, z4⟩ := rows4 HH4.out))
  go_ret
  have hz2 := HB2.out.size
  have hz3 := HZ3.out
  have hz4 := HB4.out.size
  have hgl : g < w.heap.size := HGL.out
  have hdl : (qs.drop k).length = qs.length - k := List.length_drop
  have hL := HL.out w (Below.refl _ _)
  refine ⟨.slice A4 (qs.length - k) c4, qs.drop k, rfl, LgR.cutoff hL HS.out (by simp; omega) (fun i hi hne => ?_) ?_ ?_ HLB.out.symm, (HF3.out.trans (Off.of_below HB4.out)).trans (off_set hL.at_g.2)⟩
  · rw [Go.Deep.blk_setCell_other _ _ _ _ hne, HB4.out.block i (by omega), HO3.out i hne, HB2.out.block i hi]
  · rw [hdl]
    exact own_keep (own_leL HO4.out (by omega)) fun i hi => Go.Deep.blk_setCell_other _ _ _ _ (show i ≠ g by have := (HO4.out.lt i hi).1; omega)
  · rw [set_cells HH4.out]
    rfl
set_option maxHeartbeats 4000000 in
theorem rlCut_any {S : Nat → Prop} {w : World} {g : Nat} {L : Ldg} {v : Value} {qs : List KB} (h : LgD S w g L v qs) {K : Nat} (hg : GoodL K L) (hK : K ≤ 10000000) (x : Int) (hS : ∀ k, w.heap.size ≤ k → S k) : Calls Try.prog 36 #[.pointer (some ⟨g, 0, none⟩), .int .i64 x] w (ApD (cutE L x) (cutL L x) g S w) := by
  have h' := h.mono (S' := fun k => k < w.heap.size ∧ S k) (fun k hk hs => ⟨hk, hs⟩)
  have HL := Lib.hid (fun W (hb : Below w.heap.size w W) => h'.below hb)
  have HS := Lib.hid hS
  have hbnd := hg.b
  have hlen := h.len
  have hn1 := hg.n
  have HFIN := Lib.hid (show ∀ x W, Below w.heap.size w W → ApD x L g S w (.returned (.int .i64 x)) W from fun x W hbl => ⟨v, qs, rfl, (HL.out W hbl).mono (fun k _ hk => hk.2), Off.of_below hbl⟩)
  have HHT := Lib.hid (fun W (hb : Below w.heap.size w W) => rlHeight_any (HL.out W hb) hg)
  obtain ⟨z0, z1, z2, z3, z4⟩ := h.rowD
  by_cases h1 : x < L.base
  · have e1 := cutE_two (L := L) (.inl h1)
    rw [cutL_no (by rw [e1]; decide), e1]
    clear h h' hg e1
    go_enter Try.func36, Try.ntmps36
    go_wp2
    go_ret
    exact HFIN.out _ _ (Below.refl _ _)
  by_cases h2 : topL L < x
  · have e1 := cutE_two (L := L) (.inr h2)
    rw [cutL_no (by rw [e1]; decide), e1]
    clear h h' hg e1
    generalize topL L = tp at *
    go_enter Try.func36, Try.ntmps36
    go_wp2_with (first
      | (go_at_call 37; refine (HHT.out _ (Below.refl _ _)).mono ?_; rintro e w1 ⟨rfl, hb1⟩; have HB1 := Lib.hid hb1; clear hb1))
    go_ret
    exact HFIN.out _ _ HB1.out
  have e0 : cutE L x = 0 := if_neg (by omega)
  obtain ⟨k, hk, rfl, hcl⟩ := cutE_zero e0
  rw [e0, hcl]
  have hkq : k ≤ qs.length := by omega
  have HMA := Lib.hid (fun W (hb : Below w.heap.size w W) => rlAt_any (HL.out W hb) hg hK hkq)
  obtain ⟨AV, cV, rfl⟩ := own_slice h.row
  obtain ⟨i1, hj, hy0, hy1, hy2⟩ := info_parts infoBk
  have hcut := run_cutB AV qs.length cV k hkq
  have hs1 : IntKind.i64.wrap (L.base + (k : Int) - L.base) = (k : Int) := by rw [IntKind.wrap_i64]; omega
  have hs2 : IntKind.i64.wrap ((k : Int)) = (k : Int) := by rw [IntKind.wrap_i64]; omega
  have h1I : ¬ L.base + (k : Int) < L.base := h1
  have hql : qs.length - k ≤ 1000000 := by omega
  clear h h' hg e0 hcl hbnd hlen hn1 h1
  generalize topL L = tp at *
  generalize atL L k = dk at *
  generalize hLb : L.bl.drop k = lb at *
  have HLB := Lib.hid hLb
  clear hLb
  go_enter Try.func36, Try.ntmps36
  go_upto_region 5 with (first
      | (go_at_call 37; refine (HHT.out _ (Below.refl _ _)).mono ?_; rintro e w1 ⟨rfl, hb1⟩; have HB1 := Lib.hid hb1; clear hb1))
  clear z0 z1 z2 z3 z4
  obtain ⟨z0, z1, z2, z3, z4⟩ := (HL.out _ HB1.out).rowD
  go_upto_region 6 with (first
    | (go_at_call 66; refine (HMA.out _ HB1.out).mono ?_; rintro e w2 ⟨rfl, hb2⟩; have HB2 := Lib.hid (bel2M HB1.out hb2); clear hb2 z0 z1 z2 z3 z4))
  obtain ⟨z0, z1, z2, z3, z4⟩ := (HL.out _ HB2.out.drew).rowD
  have HL5 := Lib.hid (HL.out _ (bel2M HB2.out (alloc1B w2 (.cells #[] 33))).drew)
  have HE5 := Lib.hid (show (w2.alloc (.cells #[] 33)).drew.ownsRow w2.heap.size 33 4 (.slice (some ⟨w2.heap.size, 0, none⟩) 0 0) 0 [] from World.ownsRow_made w2 #[] 0 (Nat.le_refl _) (Nat.zero_le _) rfl)
  obtain ⟨k0, k1, k2, k3, k4⟩ := HL5.out.rowD
  refine wp_region_held_drew (S := (fun W => W.cell? ⟨g, 1, none⟩ = some (.int .i64 L.base))) (by kernel_rfl) ((HL.out _ HB2.out.drew).rowD.2.1) (fun hHeld => ?_)
  refine tk 0 ?_
  (try simp only [Act.put, sA, sB, sC])
  refine tk 2 ?_
  (try simp only [Act.put, sA, sB, sC])
  refine tk 3 ?_
  (try simp only [Act.put, sA, sB, sC])
  refine tk 4 ?_
  (try simp only [Act.put, sA, sB, sC])
  refine tk 6 ?_
  (try simp only [Act.put, sA, sB, sC])
  refine tk 7 ?_
  (try simp only [Act.put, sA, sB, sC])
  refine tk 8 ?_
  (try simp only [Act.put, sA, sB, sC])
  refine tk 9 ?_
  (try simp only [Act.put, sA, sB, sC])
  refine tk 10 ?_
  (try simp only [Act.put, sA, sB, sC])
  refine tk 11 ?_
  (try simp only [Act.put, sA, sB, sC])
  refine wpAnyH_ready (rs := [1, 5]) (by kernel_rfl) (by simp) ?_
  refine AllReadyH.cons (o := ?o11) ?g11 (fun K hK => ?j11) (AllReadyH.cons (o := ?o12) ?g12 (fun K hK => ?j12) AllReadyH.nil)
  case g11 => (simp only [gA, gB, gC]; rfl)
  case g12 => (simp only [gA, gB, gC]; rfl)
  ·
   go_simp
   refine hK.out _ _ ?_ (fun hHeld => ?_)
   · (try dsimp only); exact HL5.out.rowD.2.1
   clear hK K
   (try simp only [Act.put, sA, sB, sC])
   refine wpAnyH_ready (rs := [5]) (by kernel_rfl) (by simp) ?_
   refine AllReadyH.cons (o := ?o13) ?g13 (fun K hK => ?j13) AllReadyH.nil
   case g13 => (simp only [gA, gB, gC]; rfl)
   go_simp
   refine hK.out _ _ ?_ (fun hHeld => ?_)
   · (try dsimp only); exact HL5.out.rowD.2.1
   clear hK K
   (try simp only [Act.put, sA, sB, sC])
   refine tk 12 ?_
   (try simp only [Act.put, sA, sB, sC])
   refine wpAnyH_ready (rs := [13]) (by kernel_rfl) (by simp) ?_
   refine AllReadyH.cons (o := ?o15) ?g15 (fun K hK => ?j15) AllReadyH.nil
   case g15 => (simp only [gA, gB, gC]; rfl)
   refine step_append_rowsM rfl (.tmp 32) (.tmp 43) 52 rfl w2.heap.size 33 i1 (.agg #[.int .i64 0, .string ⟨#[]⟩, .slice none 0 0, .slice none 0 0]) 4 72 Try.underlying52 hj hy0 hy1 hy2 rfl (by decide) (.slice (some ⟨w2.heap.size, 0, none⟩) 0 0) 0 [] rfl HE5.out (.slice (cutA AV cV k) (qs.length - k) (cV - k)) (qs.length - k) ((qs.drop k).flatMap kbC) rfl (own_cut HL5.out.row rfl hkq) (kbC_one _) (by unfold maxLen; omega) (by omega) (by simp) ?_
   intro v6 w6 hown6 hg6 ho6
   rw [Nat.zero_add, List.nil_append] at hown6
   obtain ⟨A6, c6, rfl⟩ := own_slice hown6
   have HO6 := Lib.hid hown6
   have HB6 := Lib.hid (show Below w2.heap.size w2 w6 from (alloc1B w2 (.cells #[] 33)).drew.grown hg6 (by simp) (by intro i h; injection h with h; simp only at h; omega))
   have HH6 := Lib.hid (heapB (HL.out _ HB2.out).head HB6.out)
   clear hown6 hg6 ho6
   obtain ⟨m0, m1, m2, m3, m4⟩ := rows4 HH6.out
   refine hK.out _ _ ?_ (fun hHeld => ?_)
   · (try dsimp only); exact (rows4 HH6.out).2.1
   clear hK K
   (try simp only [Act.put, sA, sB, sC])
   refine tk 14 ?_
   (try simp only [Act.put, sA, sB, sC])
   refine tk 15 ?_
   (try simp only [Act.put, sA, sB, sC])
   refine wpAnyH_ready (rs := [16]) (by kernel_rfl) (by simp) ?_
   refine AllReadyH.cons (o := ?o18) ?g18 (fun K hK => ?j18) AllReadyH.nil
   case g18 => (simp only [gA, gB, gC]; rfl)
   go_simp
   refine hK.out _ _ ?_ (fun hHeld => ?_)
   · (try dsimp only); exact (rows4 (set_cells (i := 3) HH6.out)).2.1
   clear hK K
   (try simp only [Act.put, sA, sB, sC])
   refine wpAnyH_done (by kernel_rfl) ?_ _
   go_wp2
   go_ret
   have hL2 := HL.out _ HB2.out
   have hgl := hL2.at_g.1
   have hz2 := HB2.out.size
   have hz6 := HB6.out.size
   have hdl : (qs.drop k).length = qs.length - k := List.length_drop
   have hL := HL.out w (Below.refl _ _)
   refine ⟨.slice A6 (qs.length - k) c6, qs.drop k, rfl, LgR.cutoff hL HS.out (by simp; omega) (fun i hi hne => ?_) ?_ ?_ HLB.out.symm, ((((Off.of_below HB2.out).trans (Off.of_below HB6.out)).trans (off_set hL.at_g.2)).trans (off_set hL.at_g.2)).trans (off_set hL.at_g.2)⟩
   · rw [Go.Deep.blk_setCell_other _ _ _ _ hne, Go.Deep.blk_setCell_other _ _ _ _ hne, Go.Deep.blk_setCell_other _ _ _ _ hne, HB6.out.block i (by omega), HB2.out.block i hi]
   · rw [hdl]
     refine own_keep (own_leL HO6.out (by omega)) fun i hi => ?_
     have hne : i ≠ g := by have := (HO6.out.lt i hi).1; omega
     rw [Go.Deep.blk_setCell_other _ _ _ _ hne, Go.Deep.blk_setCell_other _ _ _ _ hne, Go.Deep.blk_setCell_other _ _ _ _ hne]
   · rw [set_cells (set_cells (set_cells HH6.out))]
     rfl
  ·
   go_simp
   refine hK.out _ _ ?_ (fun hHeld => ?_)
   · (try dsimp only); exact (HL.out _ HB2.out.drew).rowD.2.1
   clear hK K
   (try simp only [Act.put, sA, sB, sC])
   refine tk 12 ?_
   (try simp only [Act.put, sA, sB, sC])
   refine wpAnyH_ready (rs := [1]) (by kernel_rfl) (by simp) ?_
   refine AllReadyH.cons (o := ?o20) ?g20 (fun K hK => ?j20) AllReadyH.nil
   case g20 => (simp only [gA, gB, gC]; rfl)
   go_simp
   refine hK.out _ _ ?_ (fun hHeld => ?_)
   · (try dsimp only); exact HL5.out.rowD.2.1
   clear hK K
   (try simp only [Act.put, sA, sB, sC])
   refine wpAnyH_ready (rs := [13]) (by kernel_rfl) (by simp) ?_
   refine AllReadyH.cons (o := ?o21) ?g21 (fun K hK => ?j21) AllReadyH.nil
   case g21 => (simp only [gA, gB, gC]; rfl)
   refine step_append_rowsM rfl (.tmp 32) (.tmp 43) 52 rfl w2.heap.size 33 i1 (.agg #[.int .i64 0, .string ⟨#[]⟩, .slice none 0 0, .slice none 0 0]) 4 72 Try.underlying52 hj hy0 hy1 hy2 rfl (by decide) (.slice (some ⟨w2.heap.size, 0, none⟩) 0 0) 0 [] rfl HE5.out (.slice (cutA AV cV k) (qs.length - k) (cV - k)) (qs.length - k) ((qs.drop k).flatMap kbC) rfl (own_cut HL5.out.row rfl hkq) (kbC_one _) (by unfold maxLen; omega) (by omega) (by simp) ?_
   intro v6 w6 hown6 hg6 ho6
   rw [Nat.zero_add, List.nil_append] at hown6
   obtain ⟨A6, c6, rfl⟩ := own_slice hown6
   have HO6 := Lib.hid hown6
   have HB6 := Lib.hid (show Below w2.heap.size w2 w6 from (alloc1B w2 (.cells #[] 33)).drew.grown hg6 (by simp) (by intro i h; injection h with h; simp only at h; omega))
   have HH6 := Lib.hid (heapB (HL.out _ HB2.out).head HB6.out)
   clear hown6 hg6 ho6
   obtain ⟨m0, m1, m2, m3, m4⟩ := rows4 HH6.out
   refine hK.out _ _ ?_ (fun hHeld => ?_)
   · (try dsimp only); exact (rows4 HH6.out).2.1
   clear hK K
   (try simp only [Act.put, sA, sB, sC])
   refine tk 14 ?_
   (try simp only [Act.put, sA, sB, sC])
   refine tk 15 ?_
   (try simp only [Act.put, sA, sB, sC])
   refine wpAnyH_ready (rs := [16]) (by kernel_rfl) (by simp) ?_
   refine AllReadyH.cons (o := ?o24) ?g24 (fun K hK => ?j24) AllReadyH.nil
   case g24 => (simp only [gA, gB, gC]; rfl)
   go_simp
   refine hK.out _ _ ?_ (fun hHeld => ?_)
   · (try dsimp only); exact (rows4 (set_cells (i := 3) HH6.out)).2.1
   clear hK K
   (try simp only [Act.put, sA, sB, sC])
   refine wpAnyH_done (by kernel_rfl) ?_ _
   go_wp2
   go_ret
   have hL2 := HL.out _ HB2.out
   have hgl := hL2.at_g.1
   have hz2 := HB2.out.size
   have hz6 := HB6.out.size
   have hdl : (qs.drop k).length = qs.length - k := List.length_drop
   have hL := HL.out w (Below.refl _ _)
   refine ⟨.slice A6 (qs.length - k) c6, qs.drop k, rfl, LgR.cutoff hL HS.out (by simp; omega) (fun i hi hne => ?_) ?_ ?_ HLB.out.symm, ((((Off.of_below HB2.out).trans (Off.of_below HB6.out)).trans (off_set hL.at_g.2)).trans (off_set hL.at_g.2)).trans (off_set hL.at_g.2)⟩
   · rw [Go.Deep.blk_setCell_other _ _ _ _ hne, Go.Deep.blk_setCell_other _ _ _ _ hne, Go.Deep.blk_setCell_other _ _ _ _ hne, HB6.out.block i (by omega), HB2.out.block i hi]
   · rw [hdl]
     refine own_keep (own_leL HO6.out (by omega)) fun i hi => ?_
     have hne : i ≠ g := by have := (HO6.out.lt i hi).1; omega
     rw [Go.Deep.blk_setCell_other _ _ _ _ hne, Go.Deep.blk_setCell_other _ _ _ _ hne, Go.Deep.blk_setCell_other _ _ _ _ hne]
   · rw [set_cells (set_cells (set_cells HH6.out))]
     rfl

theorem off_below {S : Nat → Prop} {w w' : World} {B : Nat} (h : Off S w w') (hB : B ≤ w.heap.size) (hS : ∀ k, S k → B ≤ k) : Below B w w' := ⟨h.os, h.tape, h.output, h.size, fun k hk => h.block k (by omega) (fun hs => by have := hS k hs; omega)⟩
def bA : Blk := ⟨1, firstL, [], []⟩
def L1 : Ldg := ⟨0, firstL, [bA]⟩
def hdA : List UInt8 := hdrL bA
def L2 : Ldg := ⟨1, hdA, []⟩
theorem bA_few : FewQ bA := ⟨by simp [bA], by simp [bA], by simp [bA]⟩
theorem bA_ok : OkB bA := ⟨by show in64B 1; unfold in64B; omega, by simp [bA], by simp [bA]⟩
theorem bA_check : checkB bA = 0 := by
  unfold checkB
  rw [if_neg (by show ¬ ((1 : Int) < 1 ∨ 1099511627776 < (1 : Int)); omega), if_neg (by simp [bA])]
theorem topL0 : topL L0 = 0 := rfl
theorem topL1 : topL L1 = 1 := rfl
theorem app_one : appE L0 bA = 0 ∧ appL L0 bA = L1 := by
  have h : appE L0 bA = 0 := by
    unfold appE
    rw [if_neg (by rw [bA_check]; decide), if_neg (by rw [topL0]; show ¬ ((1 : Int) ≠ 0 + 1); decide), if_neg (fun h => h rfl)]
  exact ⟨h, by rw [appL_yes h]; rfl⟩
theorem app_two : appE L1 bA = 100 ∧ appL L1 bA = L1 := by
  have h : appE L1 bA = 100 := by
    unfold appE
    rw [if_neg (by rw [bA_check]; decide), if_pos (by rw [topL1]; show ((1 : Int) ≠ 1 + 1); decide)]
  exact ⟨h, appL_no (by rw [h]; decide)⟩
theorem good_one : GoodL 26000 L1 := by
  have h := L0_good.app bA_few bA_ok
  rw [app_one.2] at h
  exact h
theorem cut_one : cutE L1 1 = 0 ∧ cutL L1 1 = L2 := by
  have h : cutE L1 1 = 0 := if_neg (by rw [topL1]; show ¬ ((1 : Int) < 0 ∨ 1 < (1 : Int)); omega)
  refine ⟨h, ?_⟩
  unfold cutL
  rw [if_pos h]
  rfl
theorem good_two : GoodL 26000 L2 := by
  have h := good_one.cut 1
  rw [cut_one.2] at h
  exact h
theorem blk_two : blkE L2 1 = 4 ∧ blkL L2 1 = blk0 := blkE_one (.inl (by show (1 : Int) ≤ 1; omega))
set_option maxHeartbeats 2000000 in
theorem awake11_any (w : World) : Calls Try.prog 14 #[] w (Yes w) := by
  have hk0 : ∀ W, BlkK W bA none 0 none 0 := fun W => ⟨RowM.none _ _ _, RowM.none _ _ _⟩
  have HN := Lib.hid (fun W => lNew_any W)
  have HF := Lib.hid (fun W => rFirst_any W)
  have HA1 := Lib.hid (fun (S : Nat → Prop) (W : World) (g : Nat) (v : Value) (qs : List KB) (h : LgP S W g L0 v qs) (hS : ∀ k, W.heap.size ≤ k → S k) => show Calls Try.prog 21 #[.pointer (some ⟨g, 0, none⟩), .agg #[.int .i64 1, .string (strB firstL), .slice none 0 0, .slice none 0 0]] W (ApP 0 L1 g S W) by
    have := lAppend_any h L0_good (by omega) bA none 0 none 0 (hk0 W) bA_few hS
    rw [app_one.1, app_one.2] at this
    exact this)
  have HA2 := Lib.hid (fun (S : Nat → Prop) (W : World) (g : Nat) (v : Value) (qs : List KB) (h : LgP S W g L1 v qs) (hS : ∀ k, W.heap.size ≤ k → S k) => show Calls Try.prog 21 #[.pointer (some ⟨g, 0, none⟩), .agg #[.int .i64 1, .string (strB firstL), .slice none 0 0, .slice none 0 0]] W (ApP 100 L1 g S W) by
    have := lAppend_any h good_one (by omega) bA none 0 none 0 (hk0 W) bA_few hS
    rw [app_two.1, app_two.2] at this
    exact this)
  have HHT := Lib.hid (fun (S : Nat → Prop) (W : World) (g : Nat) (v : Value) (qs : List KB) (h : LgP S W g L1 v qs) => show Calls Try.prog 18 #[.pointer (some ⟨g, 0, none⟩)] W (TellL (.int .i64 1) W) from lHeight_any h good_one)
  have HCT := Lib.hid (fun (S : Nat → Prop) (W : World) (g : Nat) (v : Value) (qs : List KB) (h : LgP S W g L1 v qs) (hS : ∀ k, W.heap.size ≤ k → S k) => show Calls Try.prog 20 #[.pointer (some ⟨g, 0, none⟩), .int .i64 1] W (ApP 0 L2 g S W) by
    have := lCut_any h good_one (by omega) 1 hS
    rw [cut_one.1, cut_one.2] at this
    exact this)
  have HBS := Lib.hid (fun (S : Nat → Prop) (W : World) (g : Nat) (v : Value) (qs : List KB) (h : LgP S W g L2 v qs) => show Calls Try.prog 22 #[.pointer (some ⟨g, 0, none⟩)] W (TellL (.tuple #[.int .i64 1, .string (strB hdA)]) W) from lBase_any h)
  have HBK := Lib.hid (fun (S : Nat → Prop) (W : World) (g : Nat) (v : Value) (qs : List KB) (h : LgP S W g L2 v qs) => show Calls Try.prog 24 #[.pointer (some ⟨g, 0, none⟩), .int .i64 1] W (BlT blk0 4 W) by
    have := lBlock_any h good_two 1
    rw [blk_two.1, blk_two.2] at this
    exact this)
  have HHD := Lib.hid (fun (S : Nat → Prop) (W : World) (g : Nat) (v : Value) (qs : List KB) (h : LgP S W g L2 v qs) => show Calls Try.prog 19 #[.pointer (some ⟨g, 0, none⟩)] W (TellL (.string (strB hdA)) W) from lHead_any h good_two (by omega))
  clear hk0
  generalize L1 = M1 at *
  generalize L2 = M2 at *
  generalize hdA = hd at *
  generalize L0 = M0 at *
  generalize firstL = fl at *
  go_enter Try.func14, Try.ntmps14
  go_upto_region 3 with (first
    | (go_at_call 10; refine (HN.out _).mono ?_; rintro e w1 ⟨g, rfl, hg1, hb1⟩; have HB1 := Lib.hid hb1; have HG1 := Lib.hid hg1; clear hb1 hg1)
    | (go_at_call 35; refine (HF.out _).mono ?_; rintro e w2 ⟨rfl, hb2⟩; have HB2 := Lib.hid hb2; clear hb2))
  have hz1 := HB1.out.size
  have hz2 := HB2.out.size
  have hx3 := heap_alloc_new w2 (.cells #[.int .i64 1, .string (strB fl), .slice none 0 0, .slice none 0 0] 33)
  have hb3 := alloc1B w2 (.cells #[.int .i64 1, .string (strB fl), .slice none 0 0, .slice none 0 0] 33)
  have hz3 : (w2.alloc (.cells #[.int .i64 1, .string (strB fl), .slice none 0 0, .slice none 0 0] 33)).heap.size = w2.heap.size + 1 := World.size_alloc _ _
  generalize w2.alloc (.cells #[.int .i64 1, .string (strB fl), .slice none 0 0, .slice none 0 0] 33) = w3 at *
  have hg3 : LgP (fun k => (w.heap.size ≤ k ∧ k < w1.heap.size) ∨ w3.heap.size ≤ k) w3.drew g M0 (.slice none 0 0) [] := ((LgR.mono HG1.out (S' := fun k => (w.heap.size ≤ k ∧ k < w1.heap.size) ∨ w3.heap.size ≤ k) fun k h1 h2 => .inl ⟨h2, h1⟩).below HB2.out).below (bel2M hb3 ((Below.refl _ _).drew))
  have HG3 := Lib.hid hg3
  have HX3 := Lib.hid hx3
  have HZ := Lib.hid (And.intro hz1 (And.intro hz2 hz3))
  have HB3 := Lib.hid (bel2M (bel2M HB1.out HB2.out) hb3)
  have HS3 := Lib.hid (show ∀ k, (fun k => (w.heap.size ≤ k ∧ k < w1.heap.size) ∨ w3.heap.size ≤ k) k → w.heap.size ≤ k from fun k hk => by rcases hk with hk | hk <;> omega)
  have HNS := Lib.hid (show ¬ (fun k => (w.heap.size ≤ k ∧ k < w1.heap.size) ∨ w3.heap.size ≤ k) w2.heap.size from fun hk => by rcases hk with hk | hk <;> omega)
  have HNZ := Lib.hid (show w2.heap.size < w3.heap.size by omega)
  have HUP := Lib.hid (show ∀ k, w3.heap.size ≤ k → (fun k => (w.heap.size ≤ k ∧ k < w1.heap.size) ∨ w3.heap.size ≤ k) k from fun k hk => .inr hk)
  generalize (fun k => (w.heap.size ≤ k ∧ k < w1.heap.size) ∨ w3.heap.size ≤ k) = S at *
  clear hz1 hz2 hz3 hx3 hb3 hg3 HG1
  have hbox : ∀ W, Off S w3 W → W.cell? ⟨w2.heap.size, 0, none⟩ = some (.int .i64 1) ∧ W.cell? ⟨w2.heap.size, 1, none⟩ = some (.string (strB fl)) ∧ W.cell? ⟨w2.heap.size, 2, none⟩ = some (.slice none 0 0) ∧ W.cell? ⟨w2.heap.size, 3, none⟩ = some (.slice none 0 0) := fun W hW => by
    obtain ⟨e0, e1, e2, e3, -⟩ := rows4 ((hW.block _ HNZ.out HNS.out).trans HX3.out)
    exact ⟨e0, e1, e2, e3⟩
  have HBOX := Lib.hid hbox
  have HO3 := Lib.hid (show Off S w3 w3.drew from Off.of_below ((Below.refl _ _).drew))
  clear hbox
  go_region_held3 (fun W => W.cell? ⟨w2.heap.size, 0, none⟩ = some (.int .i64 1) ∧ W.cell? ⟨w2.heap.size, 1, none⟩ = some (.string (strB fl)) ∧ W.cell? ⟨w2.heap.size, 2, none⟩ = some (.slice none 0 0) ∧ W.cell? ⟨w2.heap.size, 3, none⟩ = some (.slice none 0 0)) (first | exact HBOX.out _ HO5.out | exact HBOX.out _ HO4.out | exact HBOX.out _ HO3.out) (first
    | (go_at_call 21; refine (HA1.out S _ g _ _ HG3.out (fun k hk => HUP.out k (Nat.le_trans HO3.out.size hk))).mono ?_; rintro e w4 ⟨v4, q4, rfl, hg4, ho4⟩; have HG4 := Lib.hid hg4; have HO4 := Lib.hid (HO3.out.trans ho4); clear hg4 ho4 HG3)
    | (go_at_call 21; refine (HA2.out S _ g _ _ HG4.out (fun k hk => HUP.out k (Nat.le_trans HO4.out.size hk))).mono ?_; rintro e w5 ⟨v5, q5, rfl, hg5, ho5⟩; have HG5 := Lib.hid hg5; have HO5 := Lib.hid (HO4.out.trans ho5); clear hg5 ho5 HG4))
  go_wp2_with (first
    | (go_at_call 18; refine (HHT.out S _ g _ _ HG5.out).mono ?_; rintro e w6 ⟨rfl, hb6⟩; have HG6 := Lib.hid (HG5.out.below hb6); have HO6 := Lib.hid (HO5.out.trans (Off.of_below hb6)); clear hb6)
    | (go_at_call 20; refine (HCT.out S _ g _ _ HG6.out (fun k hk => HUP.out k (Nat.le_trans HO6.out.size hk))).mono ?_; rintro e w7 ⟨v7, q7, rfl, hg7, ho7⟩; have HG7 := Lib.hid hg7; have HO7 := Lib.hid (HO6.out.trans ho7); clear hg7 ho7)
    | (go_at_call 22; refine (HBS.out S _ g _ _ HG7.out).mono ?_; rintro e w8 ⟨rfl, hb8⟩; have HG8 := Lib.hid (HG7.out.below hb8); have HO8 := Lib.hid (HO7.out.trans (Off.of_below hb8)); clear hb8)
    | (go_at_call 24; refine (HBK.out S _ g _ _ HG8.out).mono ?_; rintro e w9 ⟨A9, c9, D9, d9, rfl, -, hb9⟩; have HB9 := Lib.hid (bel2M hb9 (alloc1B w9 (.cells #[.int .i64 blk0.h, .string (strB blk0.prev), .slice A9 blk0.reqs.length c9, .slice D9 blk0.ress.length d9] 33))); have HG9 := Lib.hid (HG8.out.below HB9.out); have HO9 := Lib.hid (HO8.out.trans (Off.of_below HB9.out)); clear hb9)
    | (go_at_call 19; refine (HHD.out S _ g _ _ HG9.out).mono ?_; rintro e wA ⟨rfl, hbA⟩; have HOA := Lib.hid (HO9.out.trans (Off.of_below hbA)); clear hbA))
  go_ret
  refine ⟨rfl, HB3.out.trans (off_below HOA.out HB3.out.size HS3.out)⟩

def fewBB (b : Blk) : Bool := decide (b.reqs.length ≤ 20) && decide (b.ress.length ≤ 20) && decide (b.prev.length ≤ 5000) && b.reqs.all fun e => decide (e.2.length ≤ 500)
theorem fewBB_iff {b : Blk} : fewBB b = true ↔ FewB b := by
  constructor
  · intro h
    simp [fewBB] at h
    exact ⟨h.1.1.1, h.1.1.2, h.1.2, fun e he => h.2 e.1 e.2 he⟩
  · intro h
    simp [fewBB]
    exact ⟨⟨⟨h.q, h.r⟩, h.p⟩, fun a c hc => h.d (a, c) hc⟩
def AskB (x : Bool) (w : World) (e : Ending) (w' : World) : Prop := e = .returned (.bool x) ∧ Below w.heap.size w w'
set_option maxHeartbeats 1000000 in
theorem few10_any (b : Blk) (A : Option Addr) (c : Nat) (D : Option Addr) (d : Nat) (w : World) (h : BlkK w b A c D d) : Calls Try.prog 23 #[agB b A c D d] w (AskB (fewBB b) w) := by
  have key : ∀ x, fewBB b = x → Calls Try.prog 23 #[agB b A c D d] w (AskB x w) → Calls Try.prog 23 #[agB b A c D d] w (AskB (fewBB b) w) := fun x h hc => by rw [h]; exact hc
  have HB := Lib.hid (alloc1B w (.cells #[.int .i64 b.h, .string (strB b.prev), .slice A b.reqs.length c, .slice D b.ress.length d] 33))
  have hsz := strB_size b.prev
  have hm1 : b.reqs.length ≤ maxLen := Nat.le_trans h.q.1 h.q.2.1
  have hm2 : b.ress.length ≤ maxLen := Nat.le_trans h.r.1 h.r.2.1
  unfold maxLen at hm1 hm2
  by_cases h1 : b.reqs.length ≤ 20
  case neg =>
    have e1 : decide ((20 : Int) < (b.reqs.length : Int)) = true := by simp; omega
    refine key false (by rw [← Bool.not_eq_true, fewBB_iff]; exact fun h => h1 h.q) ?_
    clear h h1
    go_enter Try.func23, Try.ntmps23
    go_wp2
    go_ret
    exact ⟨rfl, HB.out⟩
  have e1 : decide ((20 : Int) < (b.reqs.length : Int)) = false := by simp; omega
  by_cases h2 : b.ress.length ≤ 20
  case neg =>
    have e2 : decide ((20 : Int) < (b.ress.length : Int)) = true := by simp; omega
    refine key false (by rw [← Bool.not_eq_true, fewBB_iff]; exact fun h => h2 h.r) ?_
    clear h h1 h2
    go_enter Try.func23, Try.ntmps23
    go_wp2
    go_ret
    exact ⟨rfl, HB.out⟩
  have e2 : decide ((20 : Int) < (b.ress.length : Int)) = false := by simp; omega
  by_cases h3 : b.prev.length ≤ 5000
  case neg =>
    have e3 : decide ((5000 : Int) < (b.prev.length : Int)) = true := by simp; omega
    refine key false (by rw [← Bool.not_eq_true, fewBB_iff]; exact fun h => h3 h.p) ?_
    clear h h1 h2 h3
    go_enter Try.func23, Try.ntmps23
    go_wp2
    go_ret
    exact ⟨rfl, HB.out⟩
  have e3 : decide ((5000 : Int) < (b.prev.length : Int)) = false := by simp; omega
  have HX := Lib.hid h.q.2.2.2
  have HKN := Lib.hid (fun (hall : (b.reqs.all fun e => decide (e.2.length ≤ 500)) = true) => show fewBB b = true by unfold fewBB; rw [hall]; simp; omega)
  have HKF := Lib.hid (fun (k : Nat) (hk : k < b.reqs.length) (hb : ¬ b.reqs[k].2.length ≤ 500) => show fewBB b = false by rw [← Bool.not_eq_true, fewBB_iff]; exact fun h => hb (h.d _ (List.getElem_mem hk)))
  clear key h h1 h2 h3
  generalize fewBB b = res at *
  go_enter Try.func23, Try.ntmps23
  go_wp2
  clear e1 e2 e3
  go_loop [3] (fun i => ∃ k : Nat, k ≤ b.reqs.length ∧ (b.reqs.take k).all (fun e => decide (e.2.length ≤ 500)) = true ∧ i = .int .i64 k) (fun i => b.reqs.length - (intOf i).toNat)
  case atStart => exact ⟨0, Nat.zero_le _, rfl, rfl⟩
  case round =>
    obtain ⟨k, hk, hall, rfl⟩ := hrel
    by_cases hlt : k < b.reqs.length
    · have hltI : (k : Int) < (b.reqs.length : Int) := by omega
      obtain ⟨ad, rfl, hbl, hc0, bv, hc1, hbv⟩ := HX.out k hlt
      have g1 := cellB hc1 HB.out
      obtain ⟨A2, c2, rfl, -, -, -, -⟩ := hbv.open
      have HA := Lib.hid hall
      clear hall hc0 hc1 hbv
      by_cases hb : b.reqs[k].2.length ≤ 500
      · have hbt : (b.reqs.take (k + 1)).all (fun e => decide (e.2.length ≤ 500)) = true := by
          rw [List.take_succ_eq_append_getElem hlt, List.all_append, HA.out]; simpa using hb
        have HBT := Lib.hid hbt
        have hbI : ¬ (500 : Int) < ((b.reqs[k].2.length : Nat) : Int) := by omega
        clear hbt hb
        generalize b.reqs[k] = rq at *
        go_wp2
        go_round
        case rel => exact ⟨k + 1, by omega, HBT.out, by go_num⟩
        case measure => simp [intOf]; omega
      · have HF := Lib.hid (HKF.out k hlt hb)
        have hbI : (500 : Int) < ((b.reqs[k].2.length : Nat) : Int) := by omega
        clear hb HKF HA
        generalize b.reqs[k] = rq at *
        go_wp2
        go_ret
        exact ⟨by rw [HF.out]; rfl, HB.out⟩
    · obtain rfl : k = b.reqs.length := by omega
      have hltI : ¬ ((b.reqs.length : Nat) : Int) < (b.reqs.length : Int) := by omega
      rw [List.take_length] at hall
      have HF := Lib.hid (HKN.out hall)
      clear hall HX HKF
      go_wp2
      go_ret
      exact ⟨by rw [HF.out]; rfl, HB.out⟩

end Go.Proofs.Ytggbopgchlgidaa

namespace Go.Proofs.Ytggbopgchlgidaa
open Go.RowKit Go.ChangeShapes Go.WideShapes Go.ChangeAt
set_option linter.unusedVariables false
set_option linter.unusedSimpArgs false
set_option maxRecDepth 20000

theorem rSame3_any (e f : Int × List UInt8) (bv cv : Value) (w : World) (hb : Bs w bv e.2) (hc : Bs w cv f.2) : Calls Try.prog 74 #[agE e.1 bv, agE f.1 cv] w (AskB (decide (e = f)) w) := by
  obtain ⟨A, c, rfl, -⟩ := hb.open
  obtain ⟨D, d, rfl, -⟩ := hc.open
  obtain ⟨s, l⟩ := e
  obtain ⟨t, m⟩ := f
  simp only at hb hc ⊢
  obtain ⟨x1, x2, x3⟩ := box2B w #[.int .i64 s, .slice A l.length c] #[.int .i64 t, .slice D m.length d] 82 82
  have HS := Lib.hid (fun W (h : Below w.heap.size w W) => Same_any _ _ l m W (hb.below h (Nat.le_refl _)) (hc.below h (Nat.le_refl _)))
  have HB := Lib.hid x3
  have HX1 := Lib.hid x1
  have HX2 := Lib.hid x2
  clear x1 x2 x3 hb hc
  by_cases hst : s = t
  · have e1 : (s == t) = true := by simpa using hst
    have hd : decide ((s, l) = (t, m)) = decide (l = m) := by simp [hst]
    rw [hd]
    have HE := Lib.hid (show (l == m) = decide (l = m) by rw [Bool.eq_iff_iff]; simp)
    clear hst hd
    go_enter Try.func74, Try.ntmps74
    go_wp2_with (go_at_call 29; refine (HS.out _ HB.out).mono ?_; rintro e w1 ⟨rfl, rfl⟩)
    go_ret
    exact ⟨by rw [← HE.out]; rfl, HB.out⟩
  · have e1 : (s == t) = false := by simpa using hst
    have hd : decide ((s, l) = (t, m)) = false := by simp [hst]
    rw [hd]
    clear hst hd
    go_enter Try.func74, Try.ntmps74
    go_wp2
    go_ret
    exact ⟨rfl, HB.out⟩
abbrev SA4 (p1 p2 p3 p4 : Addr) (v1 v2 v3 v4 : Value) : World → Prop := fun W => W.cell? p1 = some v1 ∧ W.cell? p2 = some v2 ∧ W.cell? p3 = some v3 ∧ W.cell? p4 = some v4
theorem SA4.below {p1 p2 p3 p4 : Addr} {v1 v2 v3 v4 : Value} {W W' : World} (h : SA4 p1 p2 p3 p4 v1 v2 v3 v4 W) (hb : Below W.heap.size W W') : SA4 p1 p2 p3 p4 v1 v2 v3 v4 W' := ⟨cellB h.1 hb, cellB h.2.1 hb, cellB h.2.2.1 hb, cellB h.2.2.2 hb⟩
set_option maxHeartbeats 1000000 in
theorem rAll3_any (ls ms : List (Int × List UInt8)) (A : Option Addr) (c : Nat) (D : Option Addr) (d : Nat) (w : World) (hl : EnvK w A c ls) (hm : EnvK w D d ms) : Calls Try.prog 48 #[.slice A ls.length c, .slice D ms.length d] w (AskB (decide (ls = ms)) w) := by
  have key : ∀ x, decide (ls = ms) = x → Calls Try.prog 48 #[.slice A ls.length c, .slice D ms.length d] w (AskB x w) → Calls Try.prog 48 #[.slice A ls.length c, .slice D ms.length d] w (AskB (decide (ls = ms)) w) := fun x h hc => by rw [h]; exact hc
  have hm1 : ls.length ≤ maxLen := Nat.le_trans hl.1 hl.2.1
  unfold maxLen at hm1
  by_cases hn : ls.length = ms.length
  case neg =>
    have e1 : ((ls.length : Int) != (ms.length : Int)) = true := by simp; omega
    refine key false (by simp; intro h; exact hn (by rw [h])) ?_
    clear hn hl hm key
    go_enter Try.func48, Try.ntmps48
    go_wp2
    go_ret
    exact ⟨rfl, Below.refl _ _⟩
  have e1 : ((ls.length : Int) != (ms.length : Int)) = false := by simp; omega
  have HL := Lib.hid hl.2.2.2
  have HM := Lib.hid hm.2.2.2
  have HY := Lib.hid (fun (h : ls.take ls.length = ms.take ls.length) => show decide (ls = ms) = true by rw [List.take_length, hn, List.take_length] at h; simpa using h)
  have HN := Lib.hid (fun (k : Nat) (h1 : k < ls.length) (h2 : k < ms.length) (h : ls[k] ≠ ms[k]) => show decide (ls = ms) = false by simp; rintro rfl; exact h rfl)
  have HT := Lib.hid (fun (k : Nat) (h1 : k < ls.length) (h2 : k < ms.length) (h : ls[k] = ms[k]) (ht : ls.take k = ms.take k) => show ls.take (k + 1) = ms.take (k + 1) by rw [List.take_succ_eq_append_getElem h1, List.take_succ_eq_append_getElem h2, h, ht])
  have HNL := Lib.hid hn
  clear key hl hm hn
  generalize decide (ls = ms) = res at *
  go_enter Try.func48, Try.ntmps48
  go_wp2
  clear e1
  go_loopw [5] (fun i wr => ∃ k : Nat, k ≤ ls.length ∧ i = .int .i64 k ∧ ls.take k = ms.take k ∧ Below w.heap.size w wr) (fun i _ => ls.length - (intOf i).toNat)
  case atStart => exact ⟨0, Nat.zero_le _, rfl, rfl, Below.refl _ _⟩
  case round =>
    obtain ⟨k, hk, rfl, htk, hbel⟩ := hrel
    have HTK := Lib.hid htk
    have HBE := Lib.hid hbel
    clear htk hbel
    by_cases hlt : k < ls.length
    · have hlt2 : k < ms.length := by have := HNL.out; omega
      have hltI : (k : Int) < (ls.length : Int) := by omega
      have hltJ : (k : Int) < (ms.length : Int) := by omega
      obtain ⟨ad, rfl, hbl, hq⟩ := HL.out k hlt
      obtain ⟨ae, rfl, hbe, hr⟩ := HM.out k hlt2
      obtain ⟨c1, bv, c2, hbv⟩ := hq.below HBE.out (by rw [block_add]; exact hbl)
      obtain ⟨c3, bw, c4, hbw⟩ := hr.below HBE.out (by rw [block_add]; exact hbe)
      have HT1 := Lib.hid (HT.out k hlt hlt2)
      have HN1 := Lib.hid (HN.out k hlt hlt2)
      clear hq hr
      generalize ls[k] = x at *
      generalize ms[k] = y at *
      have HS := Lib.hid (show SA4 (ad.add (k * 2)) ⟨(ad.add (k * 2)).block, (ad.add (k * 2)).off + 1, none⟩ (ae.add (k * 2)) ⟨(ae.add (k * 2)).block, (ae.add (k * 2)).off + 1, none⟩ (.int .i64 x.1) bv (.int .i64 y.1) bw wr from ⟨c1, c2, c3, c4⟩)
      have HC := Lib.hid (fun W (h : Below wr.heap.size wr W) => rSame3_any x y bv bw W (hbv.below h (Nat.le_refl _)) (hbw.below h (Nat.le_refl _)))
      have HDR := Lib.hid (show Below wr.heap.size wr wr.drew from (Below.refl _ _).drew)
      clear c1 c2 c3 c4 hbv hbw
      by_cases hxy : x = y
      · rw [decide_eq_true hxy] at HC
        have HXY := Lib.hid hxy
        clear hxy
        go_upto_region 6 with fail
        go_region_held3 (SA4 (ad.add (k * 2)) ⟨(ad.add (k * 2)).block, (ad.add (k * 2)).off + 1, none⟩ (ae.add (k * 2)) ⟨(ae.add (k * 2)).block, (ae.add (k * 2)).off + 1, none⟩ (.int .i64 x.1) bv (.int .i64 y.1) bw) (first | exact HS.out.below HDR.out | exact HS.out.below HB2.out) (first
          | (go_at_call 74; refine (HC.out _ HDR.out).mono ?_; rintro e w2 ⟨rfl, hb2⟩; have HB2 := Lib.hid (bel2M HDR.out hb2); clear hb2))
        go_wp2
        go_roundw
        case rel => exact ⟨k + 1, by omega, by go_num, HT1.out HXY.out HTK.out, bel2M HBE.out HB2.out⟩
        case measure => simp [intOf]; omega
      · rw [decide_eq_false hxy] at HC
        have HF := Lib.hid (HN1.out hxy)
        clear hxy
        go_upto_region 6 with fail
        go_region_held3 (SA4 (ad.add (k * 2)) ⟨(ad.add (k * 2)).block, (ad.add (k * 2)).off + 1, none⟩ (ae.add (k * 2)) ⟨(ae.add (k * 2)).block, (ae.add (k * 2)).off + 1, none⟩ (.int .i64 x.1) bv (.int .i64 y.1) bw) (first | exact HS.out.below HDR.out | exact HS.out.below HB2.out) (first
          | (go_at_call 74; refine (HC.out _ HDR.out).mono ?_; rintro e w2 ⟨rfl, hb2⟩; have HB2 := Lib.hid (bel2M HDR.out hb2); clear hb2))
        go_wp2
        go_ret
        exact ⟨by rw [HF.out]; rfl, bel2M HBE.out HB2.out⟩
    · obtain rfl : k = ls.length := by omega
      have hltI : ¬ ((ls.length : Nat) : Int) < (ls.length : Int) := by omega
      have HF := Lib.hid (HY.out HTK.out)
      go_wp2
      go_ret
      exact ⟨by rw [HF.out]; rfl, HBE.out⟩
def sameB (a b : Blk) : Bool := decide (a.h = b.h ∧ a.prev = b.prev ∧ a.reqs = b.reqs ∧ a.ress = b.ress)
theorem sameB_iff (a b : Blk) : sameB a b = true ↔ a = b := by
  obtain ⟨_, _, _, _⟩ := a
  obtain ⟨_, _, _, _⟩ := b
  simp [sameB]
set_option maxHeartbeats 2000000 in
theorem rSameB_any (a b : Blk) (A : Option Addr) (c : Nat) (D : Option Addr) (d : Nat) (A2 : Option Addr) (c2 : Nat) (D2 : Option Addr) (d2 : Nat) (w : World) (ha : BlkK w a A c D d) (hb : BlkK w b A2 c2 D2 d2) : Calls Try.prog 25 #[agB a A c D d, agB b A2 c2 D2 d2] w (AskB (sameB a b) w) := by
  obtain ⟨x1, x2, x3⟩ := box2B w #[.int .i64 a.h, .string (strB a.prev), .slice A a.reqs.length c, .slice D a.ress.length d] #[.int .i64 b.h, .string (strB b.prev), .slice A2 b.reqs.length c2, .slice D2 b.ress.length d2] 33 33
  have HQ := Lib.hid (fun W (h : Below w.heap.size w W) => rAll3_any a.reqs b.reqs A c A2 c2 W (ha.q.below h) (hb.q.below h))
  have HL := Lib.hid ha.r.2.2.2
  have HM := Lib.hid hb.r.2.2.2
  have hm1 : a.ress.length ≤ maxLen := Nat.le_trans ha.r.1 ha.r.2.1
  unfold maxLen at hm1
  have HB := Lib.hid x3
  have HX1 := Lib.hid x1
  have HX2 := Lib.hid x2
  clear ha hb x1 x2 x3
  obtain ⟨ah, ap, aq, ar⟩ := a
  obtain ⟨bh, bp, bq, br⟩ := b
  simp only at *
  have hsb : sameB ⟨ah, ap, aq, ar⟩ ⟨bh, bp, bq, br⟩ = decide (ah = bh ∧ ap = bp ∧ aq = bq ∧ ar = br) := rfl
  by_cases h1 : ah = bh
  case neg =>
    have e1 : (ah != bh) = true := by simpa using h1
    rw [hsb, decide_eq_false (fun h => h1 h.1)]
    clear h1 hsb
    go_enter Try.func25, Try.ntmps25
    go_wp2
    go_ret
    exact ⟨rfl, HB.out⟩
  subst h1
  by_cases h2 : ap = bp
  case neg =>
    have e2 := strB_ne h2
    rw [hsb, decide_eq_false (fun h => h2 h.2.1)]
    clear h2 hsb
    go_enter Try.func25, Try.ntmps25
    go_wp2
    go_ret
    exact ⟨rfl, HB.out⟩
  subst h2
  by_cases h3 : aq = bq
  case neg =>
    rw [hsb, decide_eq_false (fun h => h3 h.2.2.1)]
    rw [decide_eq_false h3] at HQ
    clear h3 hsb
    go_enter Try.func25, Try.ntmps25
    go_wp2_with (go_at_call 48; refine (HQ.out _ HB.out).mono ?_; rintro e w1 ⟨rfl, hb1⟩; have HB1 := Lib.hid (bel2M HB.out hb1))
    go_ret
    exact ⟨rfl, HB1.out⟩
  rw [decide_eq_true h3] at HQ
  by_cases h4 : ar.length = br.length
  case neg =>
    have e4 : ((ar.length : Int) != (br.length : Int)) = true := by simp; omega
    rw [hsb, decide_eq_false (fun h => h4 (by rw [h.2.2.2]))]
    clear h3 h4 hsb
    go_enter Try.func25, Try.ntmps25
    go_wp2_with (go_at_call 48; refine (HQ.out _ HB.out).mono ?_; rintro e w1 ⟨rfl, hb1⟩; have HB1 := Lib.hid (bel2M HB.out hb1); have y1 := heapB HX1.out hb1; have y2 := heapB HX2.out hb1; have g1 := rowCell y1 3 _ rfl; have g2 := rowCell y2 3 _ rfl; clear hb1 y1 y2)
    go_ret
    exact ⟨rfl, HB1.out⟩
  have e4 : ((ar.length : Int) != (br.length : Int)) = false := by simp; omega
  have HY := Lib.hid (fun (h : ar.take ar.length = br.take ar.length) => show sameB ⟨ah, ap, aq, ar⟩ ⟨ah, ap, bq, br⟩ = true by rw [hsb]; rw [List.take_length, h4, List.take_length] at h; simpa using ⟨h3, h⟩)
  have HN := Lib.hid (fun (k : Nat) (h1 : k < ar.length) (h2 : k < br.length) (h : ar[k] ≠ br[k]) => show sameB ⟨ah, ap, aq, ar⟩ ⟨ah, ap, bq, br⟩ = false by rw [hsb]; simp; intro _ e; subst e; exact h rfl)
  have HT := Lib.hid (fun (k : Nat) (h1 : k < ar.length) (h2 : k < br.length) (h : ar[k] = br[k]) (ht : ar.take k = br.take k) => show ar.take (k + 1) = br.take (k + 1) by rw [List.take_succ_eq_append_getElem h1, List.take_succ_eq_append_getElem h2, h, ht])
  have HNL := Lib.hid h4
  clear h3 h4 hsb
  generalize sameB ⟨ah, ap, aq, ar⟩ ⟨ah, ap, bq, br⟩ = res at *
  go_enter Try.func25, Try.ntmps25
  go_wp2_with (go_at_call 48; refine (HQ.out _ HB.out).mono ?_; rintro e w1 ⟨rfl, hb1⟩; have HB1 := Lib.hid (bel2M HB.out hb1); have HY1 := Lib.hid (heapB HX1.out hb1); have HY2 := Lib.hid (heapB HX2.out hb1); have g1 := rowCell HY1.out 3 _ rfl; have g2 := rowCell HY2.out 3 _ rfl; clear hb1)
  clear e4 g1 g2
  go_loopw [5] (fun i wr => ∃ k : Nat, k ≤ ar.length ∧ i = .int .i64 k ∧ ar.take k = br.take k ∧ Below w1.heap.size w1 wr) (fun i _ => ar.length - (intOf i).toNat)
  case atStart => exact ⟨0, Nat.zero_le _, rfl, rfl, Below.refl _ _⟩
  case round =>
    obtain ⟨k, hk, rfl, htk, hbel⟩ := hrel
    have HTK := Lib.hid htk
    have HBE := Lib.hid hbel
    have z1 := heapB HY1.out hbel
    have z2 := heapB HY2.out hbel
    have g1 := rowCell z1 3 _ rfl
    have g2 := rowCell z2 3 _ rfl
    clear htk hbel z1 z2
    by_cases hlt : k < ar.length
    · have hlt2 : k < br.length := by have := HNL.out; omega
      have hltI : (k : Int) < (ar.length : Int) := by omega
      have hltJ : (k : Int) < (br.length : Int) := by omega
      obtain ⟨ad, rfl, hbl, hq⟩ := HL.out k hlt
      obtain ⟨ae, rfl, hbe, hr⟩ := HM.out k hlt2
      have c1 := cellM (bel2M HB1.out HBE.out) (by rw [block_add]; exact hbl) hq.1
      have c2 := cellM (p := ⟨(ad.add (k * 2)).block, (ad.add (k * 2)).off + 1, none⟩) (bel2M HB1.out HBE.out) (by rw [block_add]; exact hbl) hq.2
      have c3 := cellM (bel2M HB1.out HBE.out) (by rw [block_add]; exact hbe) hr.1
      have c4 := cellM (p := ⟨(ae.add (k * 2)).block, (ae.add (k * 2)).off + 1, none⟩) (bel2M HB1.out HBE.out) (by rw [block_add]; exact hbe) hr.2
      have HT1 := Lib.hid (HT.out k hlt hlt2)
      have HN1 := Lib.hid (HN.out k hlt hlt2)
      clear hq hr
      generalize ar[k] = x at *
      generalize br[k] = y at *
      obtain ⟨x1, x2⟩ := x
      obtain ⟨y1, y2⟩ := y
      simp only at c1 c2 c3 c4
      have HS := Lib.hid (show (SRw ⟨w.heap.size, 3, none⟩ ⟨w.heap.size + 1, 3, none⟩ (ad.add (k * 2)) ⟨(ad.add (k * 2)).block, (ad.add (k * 2)).off + 1, none⟩ (ae.add (k * 2)) ⟨(ae.add (k * 2)).block, (ae.add (k * 2)).off + 1, none⟩ (.slice (some ad) ar.length d) (.slice (some ae) br.length d2) (.int .i64 x1) (.int .i64 x2) (.int .i64 y1) (.int .i64 y2)) wr from ⟨g1, g2, c1, c2, c3, c4⟩)
      have HDR := Lib.hid (show Below wr.heap.size wr wr.drew from (Below.refl _ _).drew)
      clear c1 c2 c3 c4
      by_cases hxy : (x1, x2) = (y1, y2)
      · have HXY := Lib.hid hxy
        injection hxy with e1 e2
        subst e1 e2
        go_upto_region 6 with fail
        go_region_held3 (SRw ⟨w.heap.size, 3, none⟩ ⟨w.heap.size + 1, 3, none⟩ (ad.add (k * 2)) ⟨(ad.add (k * 2)).block, (ad.add (k * 2)).off + 1, none⟩ (ae.add (k * 2)) ⟨(ae.add (k * 2)).block, (ae.add (k * 2)).off + 1, none⟩ (.slice (some ad) ar.length d) (.slice (some ae) br.length d2) (.int .i64 x1) (.int .i64 x2) (.int .i64 x1) (.int .i64 x2)) (first | exact HS.out.below HDR.out) (first | fail)
        go_wp2
        go_roundw
        case rel => exact ⟨k + 1, by omega, by go_num, HT1.out HXY.out HTK.out, HBE.out.drew⟩
        case measure => simp [intOf]; omega
      · have HF := Lib.hid (HN1.out hxy)
        by_cases h1 : x1 = y1
        · subst h1
          have e2 : (x2 == y2) = false := by simpa using hxy
          clear hxy
          go_upto_region 6 with fail
          go_region_held3 (SRw ⟨w.heap.size, 3, none⟩ ⟨w.heap.size + 1, 3, none⟩ (ad.add (k * 2)) ⟨(ad.add (k * 2)).block, (ad.add (k * 2)).off + 1, none⟩ (ae.add (k * 2)) ⟨(ae.add (k * 2)).block, (ae.add (k * 2)).off + 1, none⟩ (.slice (some ad) ar.length d) (.slice (some ae) br.length d2) (.int .i64 x1) (.int .i64 x2) (.int .i64 x1) (.int .i64 y2)) (first | exact HS.out.below HDR.out) (first | fail)
          go_wp2
          go_ret
          exact ⟨by rw [HF.out]; rfl, bel2M HB1.out HBE.out.drew⟩
        · have e1 : (x1 == y1) = false := by simpa using h1
          clear hxy h1
          go_upto_region 6 with fail
          go_region_held3 (SRw ⟨w.heap.size, 3, none⟩ ⟨w.heap.size + 1, 3, none⟩ (ad.add (k * 2)) ⟨(ad.add (k * 2)).block, (ad.add (k * 2)).off + 1, none⟩ (ae.add (k * 2)) ⟨(ae.add (k * 2)).block, (ae.add (k * 2)).off + 1, none⟩ (.slice (some ad) ar.length d) (.slice (some ae) br.length d2) (.int .i64 x1) (.int .i64 x2) (.int .i64 y1) (.int .i64 y2)) (first | exact HS.out.below HDR.out) (first | fail)
          go_wp2
          go_ret
          exact ⟨by rw [HF.out]; rfl, bel2M HB1.out HBE.out.drew⟩
    · obtain rfl : k = ar.length := by omega
      have hltI : ¬ ((ar.length : Nat) : Int) < (ar.length : Int) := by omega
      have HF := Lib.hid (HY.out HTK.out)
      go_wp2
      go_ret
      exact ⟨by rw [HF.out]; rfl, bel2M HB1.out HBE.out⟩
end Go.Proofs.Ytggbopgchlgidaa

namespace Go.Proofs.Ytggbopgchlgidaa
open Go.RowKit
set_option linter.unusedVariables false
set_option linter.unusedSimpArgs false
set_option maxRecDepth 20000

def Two11 (ca : Ldg → Value → Array Value) (ta : TypeId) (cb : Ldg → Value → Array Value) (tb : TypeId) (F : Nat → Prop) (w : World) (a b : Nat) (La Lb : Ldg) : Prop :=
  ∃ (Sa Sb : Nat → Prop) (va : Value) (qa : List KB) (vb : Value) (qb : List KB), LgR ca ta Sa w a La va qa ∧ LgR cb tb Sb w b Lb vb qb ∧ (∀ k, Sa k → k < w.heap.size ∧ ¬ F k ∧ ¬ Sb k) ∧ (∀ k, Sb k → k < w.heap.size ∧ ¬ F k) ∧ ∀ k, F k → k < w.heap.size
def Goes (ca : Ldg → Value → Array Value) (ta : TypeId) (x : Int) (L : Ldg) (g : Nat) (S : Nat → Prop) (w : World) (e : Ending) (w' : World) : Prop := ∃ v qs, e = .returned (.int .i64 x) ∧ LgR ca ta S w' g L v qs ∧ Off S w w'
abbrev Kpt (F : Nat → Prop) (w w' : World) : Prop := Off (fun k => ¬ F k) w w'
section
variable {ca cb : Ldg → Value → Array Value} {ta tb : TypeId} {F : Nat → Prop} {w w' : World} {a b : Nat} {La Lb : Ldg}
theorem Two11.swap (h : Two11 ca ta cb tb F w a b La Lb) : Two11 cb tb ca ta F w b a Lb La := by
  obtain ⟨Sa, Sb, va, qa, vb, qb, h1, h2, h3, h4, h5⟩ := h
  exact ⟨Sb, Sa, vb, qb, va, qa, h2, h1, fun k hk => ⟨(h4 k hk).1, (h4 k hk).2, fun hs => (h3 k hs).2.2 hk⟩, fun k hk => ⟨(h3 k hk).1, (h3 k hk).2.1⟩, h5⟩
theorem Two11.below (h : Two11 ca ta cb tb F w a b La Lb) (hb : Below w.heap.size w w') : Two11 ca ta cb tb F w' a b La Lb := by
  obtain ⟨Sa, Sb, va, qa, vb, qb, h1, h2, h3, h4, h5⟩ := h
  have hz := hb.size
  exact ⟨Sa, Sb, va, qa, vb, qb, h1.below hb, h2.below hb, fun k hk => ⟨by have := (h3 k hk).1; omega, (h3 k hk).2⟩, fun k hk => ⟨by have := (h4 k hk).1; omega, (h4 k hk).2⟩, fun k hk => by have := h5 k hk; omega⟩
theorem Two11.more (h : Two11 ca ta cb tb F w a b La Lb) (hb : Below w.heap.size w w') : Two11 ca ta cb tb (fun k => F k ∨ (w.heap.size ≤ k ∧ k < w'.heap.size)) w' a b La Lb := by
  obtain ⟨Sa, Sb, va, qa, vb, qb, h1, h2, h3, h4, h5⟩ := h
  have hz := hb.size
  refine ⟨Sa, Sb, va, qa, vb, qb, h1.below hb, h2.below hb, fun k hk => ⟨by have := (h3 k hk).1; omega, fun hf => ?_, (h3 k hk).2.2⟩, fun k hk => ⟨by have := (h4 k hk).1; omega, fun hf => ?_⟩, fun k hk => ?_⟩
  · rcases hf with hf | hf
    · exact (h3 k hk).2.1 hf
    · have := (h3 k hk).1; omega
  · rcases hf with hf | hf
    · exact (h4 k hk).2 hf
    · have := (h4 k hk).1; omega
  · rcases hk with hk | hk
    · have := h5 k hk; omega
    · exact hk.2
theorem Two11.less {G : Nat → Prop} (h : Two11 ca ta cb tb F w a b La Lb) (hG : ∀ k, G k → F k) : Two11 ca ta cb tb G w a b La Lb := by
  obtain ⟨Sa, Sb, va, qa, vb, qb, h1, h2, h3, h4, h5⟩ := h
  exact ⟨Sa, Sb, va, qa, vb, qb, h1, h2, fun k hk => ⟨(h3 k hk).1, fun hf => (h3 k hk).2.1 (hG k hf), (h3 k hk).2.2⟩, fun k hk => ⟨(h4 k hk).1, fun hf => (h4 k hk).2 (hG k hf)⟩, fun k hk => h5 k (hG k hk)⟩
theorem Two11.opA {P : Program} {f : Nat} {args : Array Value} {x : Int} {La' : Ldg} (h : Two11 ca ta cb tb F w a b La Lb)
    (op : ∀ v qs (S : Nat → Prop), LgR ca ta S w a La v qs → (∀ k, w.heap.size ≤ k → S k) → Calls P f args w (Goes ca ta x La' a S w)) :
    Calls P f args w (fun e w' => e = .returned (.int .i64 x) ∧ Two11 ca ta cb tb F w' a b La' Lb ∧ Kpt F w w') := by
  obtain ⟨Sa, Sb, va, qa, vb, qb, h1, h2, h3, h4, h5⟩ := h
  refine (op va qa (fun k => Sa k ∨ w.heap.size ≤ k) (h1.mono fun k _ hk => .inl hk) (fun k hk => .inr hk)).mono ?_
  rintro e w' ⟨v, qs, rfl, g1, g2⟩
  have hz := g2.size
  refine ⟨rfl, ⟨fun k => (Sa k ∨ w.heap.size ≤ k) ∧ k < w'.heap.size, Sb, v, qs, vb, qb, g1.mono fun k hl hk => ⟨hk, hl⟩, h2.keep hz fun k hk hs => ⟨g2.block k hk fun hS => ?_, hs⟩, fun k hk => ⟨hk.2, fun hf => ?_, fun hs => ?_⟩, fun k hk => ⟨by have := (h4 k hk).1; omega, (h4 k hk).2⟩, fun k hk => by have := h5 k hk; omega⟩, g2.os, g2.tape, g2.output, g2.size, fun k hk hn => g2.block k hk fun hS => ?_⟩
  · rcases hS with hS | hS
    · exact (h3 k hS).2.2 hs
    · omega
  · rcases hk.1 with hS | hS
    · exact (h3 k hS).2.1 hf
    · have := h5 k hf; omega
  · rcases hk.1 with hS | hS
    · exact (h3 k hS).2.2 hs
    · have := (h4 k hs).1; omega
  · rcases hS with hS | hS
    · exact hn (h3 k hS).2.1
    · omega
theorem Two11.opB {P : Program} {f : Nat} {args : Array Value} {x : Int} {Lb' : Ldg} (h : Two11 ca ta cb tb F w a b La Lb)
    (op : ∀ v qs (S : Nat → Prop), LgR cb tb S w b Lb v qs → (∀ k, w.heap.size ≤ k → S k) → Calls P f args w (Goes cb tb x Lb' b S w)) :
    Calls P f args w (fun e w' => e = .returned (.int .i64 x) ∧ Two11 ca ta cb tb F w' a b La Lb' ∧ Kpt F w w') :=
  (h.swap.opA op).mono fun _ _ ⟨h1, h2, h3⟩ => ⟨h1, h2.swap, h3⟩
theorem Two11.askA {P : Program} {f : Nat} {args : Array Value} {Q : Ending → World → Prop} (h : Two11 ca ta cb tb F w a b La Lb) (op : ∀ v qs (S : Nat → Prop), LgR ca ta S w a La v qs → Calls P f args w Q) : Calls P f args w Q := by
  obtain ⟨Sa, Sb, va, qa, vb, qb, h1, -⟩ := h
  exact op va qa Sa h1
theorem Two11.askB {P : Program} {f : Nat} {args : Array Value} {Q : Ending → World → Prop} (h : Two11 ca ta cb tb F w a b La Lb) (op : ∀ v qs (S : Nat → Prop), LgR cb tb S w b Lb v qs → Calls P f args w Q) : Calls P f args w Q := h.swap.askA op
theorem Two11.made {w1 : World} {va vb : Value} {qa qb : List KB} (h1 : LgR ca ta (fun k => w.heap.size ≤ k) w1 a La va qa) (hb : Below w1.heap.size w1 w') (h2 : LgR cb tb (fun k => w1.heap.size ≤ k) w' b Lb vb qb) (hz : w.heap.size ≤ w1.heap.size) : Two11 ca ta cb tb (fun k => k < w.heap.size) w' a b La Lb := by
  have hz2 := hb.size
  refine ⟨fun k => w.heap.size ≤ k ∧ k < w1.heap.size, fun k => w1.heap.size ≤ k ∧ k < w'.heap.size, va, qa, vb, qb, (h1.mono fun k hl hk => ⟨hk, hl⟩).below hb, h2.mono fun k hl hk => ⟨hk, hl⟩, fun k hk => ⟨?_, fun hf => ?_, fun hs => ?_⟩, fun k hk => ⟨hk.2, fun hf => ?_⟩, fun k hk => ?_⟩
  · have := hk.2; omega
  · have := hk.1; omega
  · have := hk.2; have := hs.1; omega
  · have h3 : k < w.heap.size := hf
    have := hk.1
    omega
  · have h3 : k < w.heap.size := hk
    omega
end
abbrev TwoPD : (Nat → Prop) → World → Nat → Nat → Ldg → Ldg → Prop := Two11 csLP 77 csLD 74
abbrev TwoPP : (Nat → Prop) → World → Nat → Nat → Ldg → Ldg → Prop := Two11 csLP 77 csLP 77
theorem Kpt.below {F : Nat → Prop} {w w' : World} {B : Nat} (h : Kpt F w w') (hB : B ≤ w.heap.size) (hF : ∀ k, k < B → F k) : Below B w w' := off_below h hB fun k hk => Nat.le_of_not_lt fun hl => hk (hF k hl)
theorem Kpt.block' {F : Nat → Prop} {w w' : World} (h : Kpt F w w') {k : Nat} {o : Obj} (hk : w.heap[k]? = some o) (hf : F k) : w'.heap[k]? = some o := (h.block k (Array.getElem?_eq_some_iff.1 hk).1 (fun hn => hn hf)).trans hk
def rightB (L : Ldg) (b : Blk) : Blk := ⟨topL L + 1, headL L, b.reqs, b.ress⟩
def actB (L : Ldg) (x : ActL) : Blk := if x.right then rightB L x.b else x.b
def actL (L : Ldg) (x : ActL) : Ldg := if x.cut then cutL L x.h else appL L (actB L x)
theorem actB_few {L : Ldg} {x : ActL} (h : FewB x.b) : FewQ (actB L x) := by
  unfold actB
  by_cases hr : x.right
  · rw [if_pos hr]; exact ⟨h.q, h.r, h.d⟩
  · rw [if_neg hr]; exact h.few
theorem actB_ok {L : Ldg} {K : Nat} {x : ActL} (hg : GoodL K L) (h : OkA x) : OkB (actB L x) := by
  unfold actB
  by_cases hr : x.right
  · rw [if_pos hr]
    have hb := hg.b
    refine ⟨?_, h.b.q, h.b.r⟩
    show in64B (topL L + 1)
    unfold topL at hb ⊢
    unfold in64B
    omega
  · rw [if_neg hr]; exact h.b
theorem actL_good {L : Ldg} {K : Nat} {x : ActL} (hg : GoodL K L) (h : OkA x) (hf : FewB x.b) : GoodL (K + 21000) (actL L x) := by
  unfold actL
  by_cases hc : x.cut
  · rw [if_pos hc]; exact (hg.cut _).mono (by omega)
  · rw [if_neg hc]; exact hg.app (actB_few hf) (actB_ok hg h)
def fewA (l : List ActL) : Bool := decide (l.length ≤ 30) && l.all fun a => fewBB a.b
theorem fewA_iff {l : List ActL} : fewA l = true ↔ l.length ≤ 30 ∧ ∀ a ∈ l, FewB a.b := by
  unfold fewA
  rw [Bool.and_eq_true, decide_eq_true_eq, List.all_eq_true]
  exact ⟨fun h => ⟨h.1, fun a ha => fewBB_iff.1 (h.2 a ha)⟩, fun h => ⟨h.1, fun a ha => fewBB_iff.2 (h.2 a ha)⟩⟩
set_option maxHeartbeats 1000000 in
theorem few11_any (A : Option Addr) (c : Nat) (l : List ActL) (w : World) (h : ActsK w A c l) : Calls Try.prog 9 #[.slice A l.length c] w (AskB (fewA l) w) := by
  have hm : l.length ≤ maxLen := Nat.le_trans h.1 h.2.1
  have HQ := Lib.hid h.2.2.2
  unfold maxLen at hm
  clear h
  by_cases h1 : 30 < l.length
  · have hf : fewA l = false := by rw [← Bool.not_eq_true, fewA_iff]; omega
    rw [hf]
    have h1I : (30 : Int) < (l.length : Int) := by omega
    go_enter Try.func9, Try.ntmps9
    go_wp2
    go_ret
    exact ⟨rfl, Below.refl _ _⟩
  have h1I : ¬ (30 : Int) < (l.length : Int) := by omega
  go_enter Try.func9, Try.ntmps9
  go_wp2
  go_loopw [3] (fun i wr => ∃ k : Nat, k ≤ l.length ∧ i = .int .i64 k ∧ ((l.take k).all fun a => fewBB a.b) = true ∧ Below w.heap.size w wr) (fun i _ => l.length - (intOf i).toNat)
  case atStart => exact ⟨0, Nat.zero_le _, rfl, rfl, Below.refl _ _⟩
  case round =>
    obtain ⟨k, hk, rfl, hall, hbel⟩ := hrel
    by_cases hlt : k < l.length
    · have hltI : (k : Int) < (l.length : Int) := by omega
      obtain ⟨ad, rfl, hbl, A1, c1, D1, d1, z0, z1, z2, z3, z4, z5, z6, hbk⟩ := HQ.out k hlt
      have hl7 : (ad.add (k * 7)).block < w.heap.size := by rw [block_add]; exact hbl
      have y3 := cellM (p := ⟨(ad.add (k * 7)).block, (ad.add (k * 7)).off + 3, none⟩) hbel hl7 z3
      have y4 := cellM (p := ⟨(ad.add (k * 7)).block, (ad.add (k * 7)).off + 4, none⟩) hbel hl7 z4
      have y5 := cellM (p := ⟨(ad.add (k * 7)).block, (ad.add (k * 7)).off + 5, none⟩) hbel hl7 z5
      have y6 := cellM (p := ⟨(ad.add (k * 7)).block, (ad.add (k * 7)).off + 6, none⟩) hbel hl7 z6
      have HF := Lib.hid (few10_any l[k].b A1 c1 D1 d1 wr (hbk.below hbel))
      have htk : ((l.take (k + 1)).all fun a => fewBB a.b) = fewBB l[k].b := by
        rw [List.take_succ_eq_append_getElem hlt, List.all_append, hall]
        simp
      have HBEL := Lib.hid hbel
      have hno : fewBB l[k].b = false → fewA l = false := fun h0 => by
        rw [← Bool.not_eq_true, fewA_iff]
        intro h2
        rw [fewBB_iff.2 (h2.2 _ (List.getElem_mem hlt))] at h0
        cases h0
      have HTK := Lib.hid htk
      have HNO := Lib.hid hno
      clear hbk z0 z1 z2 z3 z4 z5 z6 hbel hall htk hno
      generalize l[k].b = bk at *
      rcases hf : fewBB bk with _ | _
      · rw [hf] at HF
        have hfl := HNO.out hf
        rw [hfl]
        clear hf hfl HNO HTK
        go_wp2_with (go_at_call 23; refine HF.out.mono ?_; rintro e w1 ⟨rfl, hb1⟩; have HB1 := Lib.hid hb1; clear hb1)
        go_ret
        exact ⟨rfl, HBEL.out.trans (HB1.out.mono HBEL.out.size)⟩
      · rw [hf] at HF HTK
        clear hf HNO
        go_wp2_with (go_at_call 23; refine HF.out.mono ?_; rintro e w1 ⟨rfl, hb1⟩; have HB1 := Lib.hid hb1; clear hb1)
        go_roundw
        case rel => exact ⟨k + 1, by omega, by go_num, HTK.out, HBEL.out.trans (HB1.out.mono HBEL.out.size)⟩
        case measure => simp [intOf]; omega
    · obtain rfl : k = l.length := by omega
      have hltI : ¬ (l.length : Int) < (l.length : Int) := by omega
      rw [List.take_length] at hall
      have hf : fewA l = true := by
        unfold fewA
        rw [hall, decide_eq_true (by omega)]
        rfl
      have HFL := Lib.hid hf
      clear hall hf
      go_wp2
      go_ret
      exact ⟨by rw [HFL.out]; rfl, hbel⟩

theorem off_mono {S T : Nat → Prop} {w w' : World} (h : Off S w w') (hS : ∀ k, S k → T k) : Off T w w' := ⟨h.os, h.tape, h.output, h.size, fun k hk hn => h.block k hk fun hs => hn (hS k hs)⟩
section
variable {ca cb : Ldg → Value → Array Value} {ta tb : TypeId} {F : Nat → Prop} {w w' : World} {a b : Nat} {La Lb : Ldg}
theorem Two11.other (h : Two11 ca ta cb tb F w a b La Lb) (ho : Off F w w') : Two11 ca ta cb tb F w' a b La Lb := by
  obtain ⟨Sa, Sb, va, qa, vb, qb, h1, h2, h3, h4, h5⟩ := h
  have hz := ho.size
  exact ⟨Sa, Sb, va, qa, vb, qb, h1.keep hz fun k hk hs => ⟨ho.block k hk (h3 k hs).2.1, hs⟩, h2.keep hz fun k hk hs => ⟨ho.block k hk (h4 k hs).2, hs⟩, fun k hk => ⟨by have := (h3 k hk).1; omega, (h3 k hk).2⟩, fun k hk => ⟨by have := (h4 k hk).1; omega, (h4 k hk).2⟩, fun k hk => by have := h5 k hk; omega⟩
end
theorem two_rowB {F : Nat → Prop} {w : World} {a b : Nat} {La Lb : Ldg} (h : TwoPD F w a b La Lb) : w.cell? ⟨b, 1, none⟩ = some (.int .i64 Lb.base) ∧ w.cell? ⟨b, 2, none⟩ = some (.string (strB Lb.dig)) := by
  obtain ⟨Sa, Sb, va, qa, vb, qb, h1, h2, -⟩ := h
  obtain ⟨z0, z1, z2, z3, z4⟩ := LgR.rowD h2
  exact ⟨z1, z2⟩
abbrev agAct (x : ActL) (A : Option Addr) (c : Nat) (D : Option Addr) (d : Nat) : Value := .agg #[.bool x.cut, .bool x.right, .int .i64 x.h, .int .i64 x.b.h, .string (strB x.b.prev), .slice A x.b.reqs.length c, .slice D x.b.ress.length d]
def StpQ (F : Nat → Prop) (a b : Nat) (L : Ldg) (w : World) (e : Ending) (w' : World) : Prop := e = .returned (.bool true) ∧ TwoPD F w' a b L L ∧ Kpt F w w'
theorem row7 {W : World} {N : Nat} {x0 x1 x2 x3 x4 x5 x6 : Value} {t : TypeId} (h : W.heap[N]? = some (.cells #[x0, x1, x2, x3, x4, x5, x6] t (0, 0))) : W.cell? ⟨N, 0, none⟩ = some x0 ∧ W.cell? ⟨N, 1, none⟩ = some x1 ∧ W.cell? ⟨N, 2, none⟩ = some x2 ∧ W.cell? ⟨N, 3, none⟩ = some x3 ∧ W.cell? ⟨N, 4, none⟩ = some x4 ∧ W.cell? ⟨N, 5, none⟩ = some x5 ∧ W.cell? ⟨N, 6, none⟩ = some x6 :=
  ⟨rowCell h 0 _ rfl, rowCell h 1 _ rfl, rowCell h 2 _ rfl, rowCell h 3 _ rfl, rowCell h 4 _ rfl, rowCell h 5 _ rfl, rowCell h 6 _ rfl⟩
set_option maxHeartbeats 4000000 in
theorem step11_any {F : Nat → Prop} {w : World} {a b : Nat} {L : Ldg} (ht : TwoPD F w a b L L) {K : Nat} (hg : GoodL K L) (hK : K ≤ 10000000) (x : ActL) (A : Option Addr) (c : Nat) (D : Option Addr) (d : Nat) {W0 : World} (hb : BlkK W0 x.b A c D d) (h0 : Below W0.heap.size W0 w) (hF : ∀ k, k < W0.heap.size → F k) (hf : FewB x.b) (ho : OkA x) : Calls Try.prog 12 #[.pointer (some ⟨a, 0, none⟩), .pointer (some ⟨b, 0, none⟩), agAct x A c D d] w (StpQ F a b (actL L x) w) := by
  have hB0 := alloc1B w (.cells #[.bool x.cut, .bool x.right, .int .i64 x.h, .int .i64 x.b.h, .string (strB x.b.prev), .slice A x.b.reqs.length c, .slice D x.b.ress.length d] 35)
  have hx0 := heap_alloc_new w (.cells #[.bool x.cut, .bool x.right, .int .i64 x.h, .int .i64 x.b.h, .string (strB x.b.prev), .slice A x.b.reqs.length c, .slice D x.b.ress.length d] 35)
  have ht0 := ht.more hB0
  have hz0 : (w.alloc (.cells #[.bool x.cut, .bool x.right, .int .i64 x.h, .int .i64 x.b.h, .string (strB x.b.prev), .slice A x.b.reqs.length c, .slice D x.b.ress.length d] 35)).heap.size = w.heap.size + 1 := World.size_alloc _ _
  have hFb : ∀ k, F k → k < w.heap.size := by obtain ⟨_, _, _, _, _, _, _, _, _, _, h⟩ := ht; exact h
  generalize hw0 : w.alloc (.cells #[.bool x.cut, .bool x.right, .int .i64 x.h, .int .i64 x.b.h, .string (strB x.b.prev), .slice A x.b.reqs.length c, .slice D x.b.ress.length d] 35) = w0 at *
  have HW0 := Lib.hid hw0
  have HB0 := Lib.hid hB0
  have HX0 := Lib.hid hx0
  have HT0 := Lib.hid ht0
  have HZ0 := Lib.hid hz0
  obtain ⟨p0, p1, p2, p3, p4, p5, p6⟩ := row7 hx0
  have HBK := Lib.hid (fun W (h : Below W0.heap.size W0 W) => hb.below h)
  have HE0 := Lib.hid h0
  have hfq := actB_few (L := L) hf
  have hok := actB_ok hg ho
  have HKF := Lib.hid (show ∀ (G : Nat → Prop) W, (∀ k, F k → G k) → Kpt G w0 W → Kpt F w W from fun G W hG hk => (Off.of_below hB0).trans (off_mono hk fun k hn hf => hn (hG k hf)))
  clear hB0 hx0 ht0 hz0 hw0 ht hb h0
  rcases hc : x.cut with _ | _
  · have hal : actL L x = appL L (actB L x) := by unfold actL; rw [hc]; rfl
    rw [hal]
    rw [hc] at p0
    have HAP := Lib.hid (fun (G : Nat → Prop) W (h : TwoPD G W a b L L) (hbl : BlkK W (actB L x) A c D d) => h.opA (fun v qs S hl hS => lAppend_any hl hg hK (actB L x) A c D d hbl hfq hS))
    have HAD := Lib.hid (fun (G : Nat → Prop) W (h : TwoPD G W a b (appL L (actB L x)) L) (hbl : BlkK W (actB L x) A c D d) => h.opB (fun v qs S hl hS => rlAppend_any hl hg hK (actB L x) A c D d hbl hfq hS))
    have hbx := alloc1B w0 (.cells #[.int .i64 x.b.h, .string (strB x.b.prev), .slice A x.b.reqs.length c, .slice D x.b.ress.length d] 33)
    have hxx := heap_alloc_new w0 (.cells #[.int .i64 x.b.h, .string (strB x.b.prev), .slice A x.b.reqs.length c, .slice D x.b.ress.length d] 33)
    have htt := HT0.out.more hbx
    have hzz : (w0.alloc (.cells #[.int .i64 x.b.h, .string (strB x.b.prev), .slice A x.b.reqs.length c, .slice D x.b.ress.length d] 33)).heap.size = w0.heap.size + 1 := World.size_alloc _ _
    have hq1 := cellB p1 hbx
    generalize hw1 : w0.alloc (.cells #[.int .i64 x.b.h, .string (strB x.b.prev), .slice A x.b.reqs.length c, .slice D x.b.ress.length d] 33) = w1 at *
    have HW1 := Lib.hid hw1
    have HBX := Lib.hid hbx
    have HXX := Lib.hid hxx
    obtain ⟨G, hG⟩ : ∃ G : Nat → Prop, G = fun k => (F k ∨ w.heap.size ≤ k ∧ k < w0.heap.size) ∨ w0.heap.size ≤ k ∧ k < w1.heap.size := ⟨_, rfl⟩
    rw [← hG] at htt
    have hGF : ∀ k, F k → G k := fun k hk => by rw [hG]; exact .inl (.inl hk)
    have hGN : G w0.heap.size := by rw [hG]; exact .inr ⟨Nat.le_refl _, by omega⟩
    have HGF := Lib.hid hGF
    have HGN := Lib.hid hGN
    have HTT := Lib.hid htt
    have HLF := Lib.hid (show ∀ k, k < W0.heap.size → G k from fun k hk => hGF k (hF k hk))
    clear hbx hxx htt hzz hw1 hGF hGN hG hal
    rcases hr : x.right with _ | _
    · have hab : actB L x = x.b := by unfold actB; rw [hr]; rfl
      rw [hr] at hq1
      rw [hab] at HAP HAD ⊢
      clear hc hr hab hfq hok hg
      obtain ⟨r0, r1, r2, r3, r4⟩ := rows4 HXX.out
      go_enter Try.func12, Try.ntmps12
      go_upto_region 1 with fail
      rw [HW0.out]
      go_upto_region 4 with fail
      rw [HW1.out]
      go_upto_region 7 with fail
      have HTC := Lib.hid (HTT.out.below ((Below.refl _ _).drew))
      have HKC := Lib.hid (show Kpt G w1 w1.drew from Off.of_below ((Below.refl _ _).drew))
      have HKB := Lib.hid (HBX.out)
      have HEK := Lib.hid (show Below W0.heap.size W0 w1 from HE0.out.trans ((HB0.out.trans (HKB.out.mono HB0.out.size)).mono HE0.out.size))
      go_region_held3 (fun W => W.cell? ⟨w0.heap.size, 0, none⟩ = some (.int .i64 x.b.h) ∧ W.cell? ⟨w0.heap.size, 1, none⟩ = some (.string (strB x.b.prev)) ∧ W.cell? ⟨w0.heap.size, 2, none⟩ = some (.slice A x.b.reqs.length c) ∧ W.cell? ⟨w0.heap.size, 3, none⟩ = some (.slice D x.b.ress.length d)) (first | (obtain ⟨e0, e1, e2, e3, -⟩ := rows4 (Kpt.block' HKC.out HXX.out HGN.out); exact ⟨e0, e1, e2, e3⟩)) (first
        | (go_at_call 21; refine (HAP.out G _ HTC.out (HBK.out _ HEK.out.drew)).mono ?_; rintro e wa ⟨rfl, ha1, hk1⟩; have HA1 := Lib.hid ha1; replace HKC := Lib.hid (HKC.out.trans hk1); clear ha1 hk1 HTC)
        | (go_at_call 39; refine (HAD.out G _ HA1.out (HBK.out _ (HEK.out.trans (Kpt.below HKC.out HEK.out.size HLF.out)))).mono ?_; rintro e wb ⟨rfl, ha2, hk2⟩; have HA2 := Lib.hid ha2; replace HKC := Lib.hid (HKC.out.trans hk2); clear ha2 hk2 HA1))
      go_wp2
      go_ret
      exact ⟨rfl, HA2.out.less HGF.out, HKF.out G _ HGF.out ((off_mono (Off.of_below (S := fun _ => False) HKB.out) (fun k h => h.elim)).trans HKC.out)⟩
    · have hab : actB L x = rightB L x.b := by unfold actB; rw [hr]; rfl
      rw [hr] at hq1
      rw [hab] at HAP HAD ⊢
      have HHT := Lib.hid (fun W (h : TwoPD G W a b L L) => h.askB (fun v qs S hl => rlHeight_any hl hg))
      have HHD := Lib.hid (fun W (h : TwoPD G W a b L L) => h.askB (fun v qs S hl => rlHead_any hl hg hK))
      have hbnd := hg.b
      have hsum : IntKind.i64.wrap (topL L + 1) = topL L + 1 := by rw [IntKind.wrap_i64]; unfold topL at hbnd ⊢; omega
      rw [show agB (rightB L x.b) A c D d = .agg #[.int .i64 (topL L + 1), .string (strB (headL L)), .slice A x.b.reqs.length c, .slice D x.b.ress.length d] from rfl] at HAP HAD
      have HBR := Lib.hid (fun W (h : BlkK W x.b A c D d) => show BlkK W (rightB L x.b) A c D d from ⟨h.q, h.r⟩)
      clear hc hr hab hfq hok hg hbnd
      generalize rightB L x.b = rb at *
      generalize topL L = tp at *
      generalize headL L = hd at *
      obtain ⟨r0, r1, r2, r3, r4⟩ := rows4 HXX.out
      go_enter Try.func12, Try.ntmps12
      go_upto_region 1 with fail
      rw [HW0.out]
      go_upto_region 4 with fail
      rw [HW1.out]
      go_upto_region 6 with (go_at_call 37; refine (HHT.out _ HTT.out).mono ?_; rintro e w2 ⟨rfl, hb2⟩; have HB2 := Lib.hid hb2; have HT2 := Lib.hid (HTT.out.below hb2); have HX2 := Lib.hid (heapB HXX.out hb2); clear hb2; obtain ⟨s0, s1, s2, s3, s4⟩ := rows4 HX2.out)
      have hx3 := set_cells (i := 0) (u := .int .i64 (tp + 1)) HX2.out
      have ho3 : Off G w2 (w2.setCell ⟨w0.heap.size, 0, none⟩ (.int .i64 (tp + 1))) := off_set HGN.out
      have ht3 := HT2.out.other ho3
      have hk3 : Below w0.heap.size w0 (w2.setCell ⟨w0.heap.size, 0, none⟩ (.int .i64 (tp + 1))) := ((bel2M HBX.out HB2.out)).setCell (p := ⟨w0.heap.size, 0, none⟩) (Nat.le_refl _) _
      generalize w2.setCell ⟨w0.heap.size, 0, none⟩ (.int .i64 (tp + 1)) = w3 at *
      have HX3 := Lib.hid (show w3.heap[w0.heap.size]? = some (.cells #[.int .i64 (tp + 1), .string (strB x.b.prev), .slice A x.b.reqs.length c, .slice D x.b.ress.length d] 33 (0, 0)) from hx3)
      have HT3 := Lib.hid ht3
      have HK3 := Lib.hid hk3
      clear hx3 ho3 ht3 hk3 s0 s1 s2 s3 s4 r0 r1 r2 r3 r4 HT2
      go_upto_region 7 with (go_at_call 38; refine (HHD.out _ HT3.out).mono ?_; rintro e w4 ⟨rfl, hb4⟩; have HB4 := Lib.hid hb4; have HT4 := Lib.hid (HT3.out.below hb4); have HX4 := Lib.hid (heapB HX3.out hb4); clear hb4; obtain ⟨s0, s1, s2, s3, s4⟩ := rows4 HX4.out)
      have hx5 := set_cells (i := 1) (u := .string (strB hd)) HX4.out
      have ho5 : Off G w4 (w4.setCell ⟨w0.heap.size, 1, none⟩ (.string (strB hd))) := off_set HGN.out
      have ht5 := HT4.out.other ho5
      have hk5 : Below w0.heap.size w0 (w4.setCell ⟨w0.heap.size, 1, none⟩ (.string (strB hd))) := ((HK3.out.trans (HB4.out.mono HK3.out.size))).setCell (p := ⟨w0.heap.size, 1, none⟩) (Nat.le_refl _) _
      generalize w4.setCell ⟨w0.heap.size, 1, none⟩ (.string (strB hd)) = w5 at *
      have HX5 := Lib.hid (show w5.heap[w0.heap.size]? = some (.cells #[.int .i64 (tp + 1), .string (strB hd), .slice A x.b.reqs.length c, .slice D x.b.ress.length d] 33 (0, 0)) from hx5)
      have HT5 := Lib.hid ht5
      have HK5 := Lib.hid hk5
      clear hx5 ho5 ht5 hk5 s0 s1 s2 s3 s4 HT4
      have HTC := Lib.hid (HT5.out.below ((Below.refl _ _).drew))
      have HKC := Lib.hid (show Kpt G w5 w5.drew from Off.of_below ((Below.refl _ _).drew))
      have HKB := Lib.hid (HK5.out)
      have HEK := Lib.hid (show Below W0.heap.size W0 w5 from HE0.out.trans ((HB0.out.trans (HKB.out.mono HB0.out.size)).mono HE0.out.size))
      go_region_held3 (fun W => W.cell? ⟨w0.heap.size, 0, none⟩ = some (.int .i64 (tp + 1)) ∧ W.cell? ⟨w0.heap.size, 1, none⟩ = some (.string (strB hd)) ∧ W.cell? ⟨w0.heap.size, 2, none⟩ = some (.slice A x.b.reqs.length c) ∧ W.cell? ⟨w0.heap.size, 3, none⟩ = some (.slice D x.b.ress.length d)) (first | (obtain ⟨e0, e1, e2, e3, -⟩ := rows4 (Kpt.block' HKC.out HX5.out HGN.out); exact ⟨e0, e1, e2, e3⟩)) (first
        | (go_at_call 21; refine (HAP.out G _ HTC.out (HBR.out _ (HBK.out _ HEK.out.drew))).mono ?_; rintro e wa ⟨rfl, ha1, hk1⟩; have HA1 := Lib.hid ha1; replace HKC := Lib.hid (HKC.out.trans hk1); clear ha1 hk1 HTC)
        | (go_at_call 39; refine (HAD.out G _ HA1.out (HBR.out _ (HBK.out _ (HEK.out.trans (Kpt.below HKC.out HEK.out.size HLF.out))))).mono ?_; rintro e wb ⟨rfl, ha2, hk2⟩; have HA2 := Lib.hid ha2; replace HKC := Lib.hid (HKC.out.trans hk2); clear ha2 hk2 HA1))
      go_wp2
      go_ret
      exact ⟨rfl, HA2.out.less HGF.out, HKF.out G _ HGF.out ((off_mono (Off.of_below (S := fun _ => False) HKB.out) (fun k h => h.elim)).trans HKC.out)⟩
  · have hal : actL L x = cutL L x.h := by unfold actL; rw [hc]; rfl
    rw [hal]
    rw [hc] at p0
    have HCP := Lib.hid (fun (G : Nat → Prop) W (h : TwoPD G W a b L L) => h.opA (fun v qs S hl hS => lCut_any hl hg hK x.h hS))
    have HCD := Lib.hid (fun (G : Nat → Prop) W (h : TwoPD G W a b (cutL L x.h) L) => h.opB (fun v qs S hl hS => rlCut_any hl hg hK x.h hS))
    obtain ⟨G, hG⟩ : ∃ G : Nat → Prop, G = fun k => F k ∨ w.heap.size ≤ k ∧ k < w0.heap.size := ⟨_, rfl⟩
    rw [← hG] at HT0
    have hGF : ∀ k, F k → G k := fun k hk => by rw [hG]; exact .inl hk
    have hGN : G w.heap.size := by rw [hG]; exact .inr ⟨Nat.le_refl _, by have := HZ0.out; omega⟩
    have HGF := Lib.hid hGF
    have HGN := Lib.hid hGN
    clear hc hal hfq hok hg hGF hGN hG p1 p3 p4 p5 p6
    generalize cutL L x.h = L2 at *
    generalize cutE L x.h = ce at *
    go_enter Try.func12, Try.ntmps12
    go_upto_region 1 with fail
    rw [HW0.out]
    go_upto_region 2 with fail
    have HTC := Lib.hid (HT0.out.below ((Below.refl _ _).drew))
    have HKC := Lib.hid (show Kpt G w0 w0.drew from Off.of_below ((Below.refl _ _).drew))
    go_region_held3 (fun W => W.cell? ⟨w.heap.size, 2, none⟩ = some (.int .i64 x.h)) (first | exact rowCell (Kpt.block' HKC.out HX0.out HGN.out) 2 _ rfl) (first
      | (go_at_call 20; refine (HCP.out G _ HTC.out).mono ?_; rintro e w1 ⟨rfl, ht1, hk1⟩; have HT1 := Lib.hid ht1; replace HKC := Lib.hid (HKC.out.trans hk1); clear ht1 hk1 HTC)
      | (go_at_call 36; refine (HCD.out G _ HT1.out).mono ?_; rintro e w2 ⟨rfl, ht2, hk2⟩; have HT2 := Lib.hid ht2; replace HKC := Lib.hid (HKC.out.trans hk2); clear ht2 hk2 HT1))
    go_wp2
    go_ret
    exact ⟨rfl, HT2.out.less HGF.out, HKF.out G _ HGF.out HKC.out⟩
set_option maxHeartbeats 4000000 in
theorem same11_any {F : Nat → Prop} {w : World} {a b : Nat} {L : Ldg} (ht : TwoPD F w a b L L) {K : Nat} (hg : GoodL K L) (hK : K ≤ 10000000) (x : Int) : Calls Try.prog 13 #[.pointer (some ⟨a, 0, none⟩), .pointer (some ⟨b, 0, none⟩), .int .i64 x] w (Yes w) := by
  have HT := Lib.hid ht
  have HBS := Lib.hid (fun W (h : TwoPD F W a b L L) => h.askA (fun v qs S hl => lBase_any hl))
  have HBK := Lib.hid (fun W (h : TwoPD F W a b L L) => h.askA (fun v qs S hl => lBlock_any hl hg x))
  have HBD := Lib.hid (fun W (h : TwoPD F W a b L L) => h.askB (fun v qs S hl => rlBlock_any hl hg x))
  have HHA := Lib.hid (fun W (h : TwoPD F W a b L L) => h.askA (fun v qs S hl => lHeight_any hl hg))
  have HHB := Lib.hid (fun W (h : TwoPD F W a b L L) => h.askB (fun v qs S hl => rlHeight_any hl hg))
  have HDA := Lib.hid (fun W (h : TwoPD F W a b L L) => h.askA (fun v qs S hl => lHead_any hl hg hK))
  have HDB := Lib.hid (fun W (h : TwoPD F W a b L L) => h.askB (fun v qs S hl => rlHead_any hl hg hK))
  have HRB := Lib.hid (fun W (h : TwoPD F W a b L L) => two_rowB h)
  have HSB := Lib.hid (fun (y : Blk) A c D d A2 c2 D2 d2 W (h1 : BlkK W y A c D d) (h2 : BlkK W y A2 c2 D2 d2) => show Calls Try.prog 25 #[agB y A c D d, agB y A2 c2 D2 d2] W (AskB true W) from by
    have h3 := rSameB_any y y A c D d A2 c2 D2 d2 W h1 h2
    rw [(sameB_iff y y).2 rfl] at h3
    exact h3)
  clear ht hg
  generalize blkL L x = bk at *
  generalize blkE L x = be at *
  generalize topL L = tp at *
  generalize headL L = hd at *
  go_enter Try.func13, Try.ntmps13
  go_wp2_with (first
    | (go_at_call 22; refine (HBS.out _ HT.out).mono ?_; rintro e w1 ⟨rfl, hb1⟩; have HB1 := Lib.hid hb1; have HT1 := Lib.hid (HT.out.below hb1); clear hb1)
    | (go_at_call 24; refine (HBK.out _ HT1.out).mono ?_; rintro e w2 ⟨A2, c2, D2, d2, rfl, hk2, hb2⟩; have HC2 := Lib.hid (bel2M hb2 (alloc1B w2 (.cells #[.int .i64 bk.h, .string (strB bk.prev), .slice A2 bk.reqs.length c2, .slice D2 bk.ress.length d2] 33))); have HB2 := Lib.hid (bel2M HB1.out HC2.out); have HT2 := Lib.hid (HT1.out.below HC2.out); have HK2 := Lib.hid (hk2.below (alloc1B w2 (.cells #[.int .i64 bk.h, .string (strB bk.prev), .slice A2 bk.reqs.length c2, .slice D2 bk.ress.length d2] 33))); have HX2 := Lib.hid (heap_alloc_new w2 (.cells #[.int .i64 bk.h, .string (strB bk.prev), .slice A2 bk.reqs.length c2, .slice D2 bk.ress.length d2] 33)); clear hk2 hb2)
    | (go_at_call 40; refine (HBD.out _ HT2.out).mono ?_; rintro e w3 ⟨A3, c3, D3, d3, rfl, hk3, hb3⟩; have HC3 := Lib.hid (bel2M hb3 (alloc1B w3 (.cells #[.int .i64 bk.h, .string (strB bk.prev), .slice A3 bk.reqs.length c3, .slice D3 bk.ress.length d3] 33))); have HB3 := Lib.hid (bel2M HB2.out HC3.out); have HT3 := Lib.hid (HT2.out.below HC3.out); have HK3 := Lib.hid (hk3.below (alloc1B w3 (.cells #[.int .i64 bk.h, .string (strB bk.prev), .slice A3 bk.reqs.length c3, .slice D3 bk.ress.length d3] 33))); have HX3 := Lib.hid (heap_alloc_new w3 (.cells #[.int .i64 bk.h, .string (strB bk.prev), .slice A3 bk.reqs.length c3, .slice D3 bk.ress.length d3] 33)); have HY3 := Lib.hid (heapB HX2.out HC3.out); have HL3 := Lib.hid (HK2.out.below HC3.out); clear hk3 hb3; obtain ⟨rb1, rb2⟩ := HRB.out _ HT3.out)
    | (go_at_call 18; refine (HHA.out _ HT3.out).mono ?_; rintro e w4 ⟨rfl, hb4⟩; have HC4 := Lib.hid hb4; have HT4 := Lib.hid (HT3.out.below hb4); clear hb4)
    | (go_at_call 37; refine (HHB.out _ HT4.out).mono ?_; rintro e w5 ⟨rfl, hb5⟩; have HC5 := Lib.hid (bel2M HC4.out hb5); have HT5 := Lib.hid (HT4.out.below hb5); clear hb5)
    | (go_at_call 19; refine (HDA.out _ HT5.out).mono ?_; rintro e w6 ⟨rfl, hb6⟩; have HC6 := Lib.hid (bel2M HC5.out hb6); have HT6 := Lib.hid (HT5.out.below hb6); clear hb6)
    | (go_at_call 38; refine (HDB.out _ HT6.out).mono ?_; rintro e w7 ⟨rfl, hb7⟩; have HC7 := Lib.hid (bel2M HC6.out hb7); clear hb7; obtain ⟨u0, u1, u2, u3, -⟩ := rows4 (heapB HY3.out HC7.out); obtain ⟨q0, q1, q2, q3, -⟩ := rows4 (heapB HX3.out HC7.out))
    | (go_at_call 25; refine (HSB.out bk _ _ _ _ _ _ _ _ _ (HL3.out.below HC7.out) (HK3.out.below HC7.out)).mono ?_; rintro e w8 ⟨rfl, hb8⟩; have HC8 := Lib.hid (bel2M HC7.out hb8); clear hb8))
  go_ret
  exact ⟨rfl, bel2M HB3.out HC8.out⟩

set_option maxHeartbeats 8000000 in
theorem LedgerPlays_any (l : List ActL) (A : Option Addr) (c : Nat) (y : Int) (w : World) (h : ActsK w A c l) (ok : ∀ a ∈ l, OkA a) : Calls Try.prog 3 #[.slice A l.length c, .int .i64 y] w (Yes w) := by
  have HFE := Lib.hid (few11_any A c l w h)
  have HQ := Lib.hid h.2.2.2
  have HOK := Lib.hid ok
  have HW := Lib.hid (fun W => awake11_any W)
  have HNA := Lib.hid (fun W => lNew_any W)
  have HND := Lib.hid (fun W => rlNew_any W)
  clear h ok
  rcases hf : fewA l with _ | _
  · rw [hf] at HFE
    go_enter Try.func3, Try.ntmps3
    go_wp2_with (go_at_call 9; refine HFE.out.mono ?_; rintro e w1 ⟨rfl, hb1⟩; have HB1 := Lib.hid hb1; clear hb1)
    go_ret
    exact ⟨rfl, HB1.out⟩
  rw [hf] at HFE
  obtain ⟨hl30, hfw⟩ := fewA_iff.1 hf
  have HFW := Lib.hid hfw
  clear hf hfw
  go_enter Try.func3, Try.ntmps3
  go_wp2_with (first
    | (go_at_call 9; refine HFE.out.mono ?_; rintro e w1 ⟨rfl, hb1⟩; have HB1 := Lib.hid hb1; clear hb1)
    | (go_at_call 10; refine (HNA.out _).mono ?_; rintro e w2 ⟨a, rfl, hg2, hb2⟩; have HG2 := Lib.hid hg2; have HB2 := Lib.hid hb2; clear hg2 hb2)
    | (go_at_call 11; refine (HND.out _).mono ?_; rintro e w3 ⟨b, rfl, hg3, hb3⟩; have HG3 := Lib.hid hg3; have HB3 := Lib.hid hb3; clear hg3 hb3))
  obtain ⟨F, hF⟩ : ∃ F : Nat → Prop, F = fun k => k < w.heap.size := ⟨_, rfl⟩
  have HFF := Lib.hid (show ∀ k, k < w.heap.size → F k from fun k hk => by rw [hF]; exact hk)
  have HTW := Lib.hid (show TwoPD F w3 a b L0 L0 from (Two11.made HG2.out HB3.out HG3.out HB2.out.size).less fun k hk => by rw [hF] at hk; exact Nat.lt_of_lt_of_le hk HB1.out.size)
  have HBB := Lib.hid (show Below w.heap.size w w3 from bel2M HB1.out (bel2M HB2.out HB3.out))
  clear hF
  go_loopw [7] (fun i wr => ∃ (k : Nat) (L : Ldg), k ≤ l.length ∧ i = .int .i64 k ∧ TwoPD F wr a b L L ∧ GoodL (5000 + 21000 * k) L ∧ Below w.heap.size w wr) (fun i _ => l.length - (intOf i).toNat)
  case atStart => exact ⟨0, L0, Nat.zero_le _, rfl, HTW.out, L0_good, HBB.out⟩
  case round =>
    obtain ⟨k, L, hk, rfl, htw, hgd, hbel⟩ := hrel
    by_cases hlt : k < l.length
    · have hltI : (k : Int) < (l.length : Int) := by omega
      obtain ⟨ad, rfl, hbl, A1, c1, D1, d1, z0, z1, z2, z3, z4, z5, z6, hbk⟩ := HQ.out k hlt
      have hl7 : (ad.add (k * 7)).block < w.heap.size := by rw [block_add]; exact hbl
      have hfk := HFW.out _ (List.getElem_mem hlt)
      have hok := HOK.out _ (List.getElem_mem hlt)
      have hK : 5000 + 21000 * k ≤ 10000000 := by omega
      have hK1 : 5000 + 21000 * k + 21000 ≤ 10000000 := by omega
      have hgd1 := actL_good hgd hok hfk
      have HST := Lib.hid (step11_any htw hgd hK l[k] A1 c1 D1 d1 hbk hbel HFF.out hfk hok)
      have HSM := Lib.hid (fun y W (h : TwoPD F W a b (actL L l[k]) (actL L l[k])) => same11_any h hgd1 hK1 y)
      have HG1 := Lib.hid (show GoodL (5000 + 21000 * (k + 1)) (actL L l[k]) from by rw [Nat.mul_add, Nat.mul_one, ← Nat.add_assoc]; exact hgd1)
      have HBEL := Lib.hid hbel
      have HY := Lib.hid (show ∀ W, Below w.heap.size w W → W.cell? (ad.add (k * 7)) = some (.bool l[k].cut) ∧ W.cell? ⟨(ad.add (k * 7)).block, (ad.add (k * 7)).off + 1, none⟩ = some (.bool l[k].right) ∧ W.cell? ⟨(ad.add (k * 7)).block, (ad.add (k * 7)).off + 2, none⟩ = some (.int .i64 l[k].h) ∧ W.cell? ⟨(ad.add (k * 7)).block, (ad.add (k * 7)).off + 3, none⟩ = some (.int .i64 l[k].b.h) ∧ W.cell? ⟨(ad.add (k * 7)).block, (ad.add (k * 7)).off + 4, none⟩ = some (.string (strB l[k].b.prev)) ∧ W.cell? ⟨(ad.add (k * 7)).block, (ad.add (k * 7)).off + 5, none⟩ = some (.slice A1 l[k].b.reqs.length c1) ∧ W.cell? ⟨(ad.add (k * 7)).block, (ad.add (k * 7)).off + 6, none⟩ = some (.slice D1 l[k].b.ress.length d1) from fun W hW => ⟨cellM hW hl7 z0, cellM (p := ⟨_, _, none⟩) hW hl7 z1, cellM (p := ⟨_, _, none⟩) hW hl7 z2, cellM (p := ⟨_, _, none⟩) hW hl7 z3, cellM (p := ⟨_, _, none⟩) hW hl7 z4, cellM (p := ⟨_, _, none⟩) hW hl7 z5, cellM (p := ⟨_, _, none⟩) hW hl7 z6⟩)
      clear z0 z1 z2 z3 z4 z5 z6 hbk hfk hok hgd1 htw hgd hbel
      obtain ⟨z0, z1, z2, z3, z4, z5, z6⟩ := HY.out _ HBEL.out
      generalize actL L l[k] = L' at *
      generalize l[k] = x at *
      go_wp2_with (first
        | (go_at_call 12; refine HST.out.mono ?_; rintro e w1 ⟨rfl, ht1, hk1⟩; have HT1 := Lib.hid ht1; have HB1 := Lib.hid (HBEL.out.trans (Kpt.below hk1 HBEL.out.size HFF.out)); clear ht1 hk1 z0 z1 z2 z3 z4 z5 z6; obtain ⟨z0, z1, z2, z3, z4, z5, z6⟩ := HY.out _ HB1.out)
        | (go_at_call 13; refine (HSM.out y _ HT1.out).mono ?_; rintro e w4 ⟨rfl, hb4⟩; have HT4 := Lib.hid (HT1.out.below hb4); have HB4 := Lib.hid (HB1.out.trans (hb4.mono HB1.out.size)); clear hb4 z0 z1 z2 z3 z4 z5 z6 HT1; obtain ⟨z0, z1, z2, z3, z4, z5, z6⟩ := HY.out _ HB4.out)
        | (go_at_call 13; refine (HSM.out x.h _ HT4.out).mono ?_; rintro e w5 ⟨rfl, hb5⟩; have HT5 := Lib.hid (HT4.out.below hb5); have HB5 := Lib.hid (HB4.out.trans (hb5.mono HB4.out.size)); clear hb5 z0 z1 z2 z3 z4 z5 z6 HT4; obtain ⟨z0, z1, z2, z3, z4, z5, z6⟩ := HY.out _ HB5.out)
        )
      go_roundw
      case rel => exact ⟨k + 1, L', by omega, by go_num, HT5.out, HG1.out, HB5.out⟩
      case measure => simp [intOf]; omega
    · obtain rfl : k = l.length := by omega
      have hltI : ¬ (l.length : Int) < (l.length : Int) := by omega
      have HBEL := Lib.hid hbel
      go_wp2_with (go_at_call 14; refine (HW.out _).mono ?_; rintro e wz ⟨rfl, hbz⟩; have HBZ := Lib.hid (HBEL.out.trans (hbz.mono HBEL.out.size)); clear hbz)
      go_ret
      exact ⟨rfl, HBZ.out⟩

set_option maxHeartbeats 8000000 in
theorem LedgerFrom_any (y : Int) (d : List UInt8) (l : List ActL) (A : Option Addr) (c : Nat) (w : World) (h : ActsK w A c l) (ok : ∀ a ∈ l, OkA a) : Calls Try.prog 4 #[.int .i64 y, .string (strB d), .slice A l.length c] w (Yes w) := by
  have hsz := strB_size d
  have HFE := Lib.hid (few11_any A c l w h)
  have HQ := Lib.hid h.2.2.2
  have HOK := Lib.hid ok
  have HW := Lib.hid (fun W => awake11_any W)
  have HNA := Lib.hid (fun W => lFrom_any y d W)
  have HND := Lib.hid (fun W => rlFrom_any y d W)
  clear h ok
  rcases hf : fewA l with _ | _
  · rw [hf] at HFE
    go_enter Try.func4, Try.ntmps4
    go_wp2_with (go_at_call 9; refine HFE.out.mono ?_; rintro e w1 ⟨rfl, hb1⟩; have HB1 := Lib.hid hb1; clear hb1)
    go_ret
    exact ⟨rfl, HB1.out⟩
  rw [hf] at HFE
  obtain ⟨hl30, hfw⟩ := fewA_iff.1 hf
  have HFW := Lib.hid hfw
  clear hf hfw
  by_cases hd : 5000 < d.length
  · have hdI : (5000 : Int) < (d.length : Int) := by omega
    go_enter Try.func4, Try.ntmps4
    go_wp2_with (go_at_call 9; refine HFE.out.mono ?_; rintro e w1 ⟨rfl, hb1⟩; have HB1 := Lib.hid hb1; clear hb1)
    go_ret
    exact ⟨rfl, HB1.out⟩
  have hdI : ¬ (5000 : Int) < (d.length : Int) := by omega
  by_cases hfr : frE y = 0
  case neg =>
    have HNA2 := Lib.hid (fun W => show Calls Try.prog 15 #[.int .i64 y, .string (strB d)] W (TellL (.tuple #[.pointer none, .int .i64 100]) W) from (HNA.out W).mono fun e w' ⟨_, h2, h3⟩ => ⟨h2 hfr, h3⟩)
    have HND2 := Lib.hid (fun W => show Calls Try.prog 16 #[.int .i64 y, .string (strB d)] W (TellL (.tuple #[.pointer none, .int .i64 100]) W) from (HND.out W).mono fun e w' ⟨_, h2, h3⟩ => ⟨h2 hfr, h3⟩)
    clear hfr HNA HND
    go_enter Try.func4, Try.ntmps4
    go_wp2_with (first
      | (go_at_call 9; refine HFE.out.mono ?_; rintro e w1 ⟨rfl, hb1⟩; have HB1 := Lib.hid hb1; clear hb1)
      | (go_at_call 15; refine (HNA2.out _).mono ?_; rintro e w2 ⟨rfl, hb2⟩; have HB2 := Lib.hid (bel2M HB1.out hb2); clear hb2)
      | (go_at_call 16; refine (HND2.out _).mono ?_; rintro e w3 ⟨rfl, hb3⟩; have HB3 := Lib.hid (bel2M HB2.out hb3); clear hb3)
      | (go_at_call 14; refine (HW.out _).mono ?_; rintro e wz ⟨rfl, hbz⟩; have HBZ := Lib.hid (bel2M HB3.out hbz); clear hbz))
    go_ret
    exact ⟨rfl, HBZ.out⟩
  have hrng : 0 ≤ y ∧ y ≤ 1099511627776 := by
    unfold frE at hfr
    by_cases h0 : y < 0 ∨ 1099511627776 < y
    · rw [if_pos h0] at hfr; exact absurd hfr (by decide)
    · omega
  have hg0 := mark_good (d := d) hrng.1 hrng.2 (by omega)
  have HG0 := Lib.hid hg0
  have HNA2 := Lib.hid (fun W => show Calls Try.prog 15 #[.int .i64 y, .string (strB d)] W (fun e w' => ∃ g, e = .returned (.tuple #[.pointer (some ⟨g, 0, none⟩), .int .i64 0]) ∧ LgP (fun k => W.heap.size ≤ k) w' g ⟨y, d, []⟩ (.slice none 0 0) [] ∧ Below W.heap.size W w') from (HNA.out W).mono fun e w' ⟨h1, _, h3⟩ => by obtain ⟨g, e1, e2⟩ := h1 hfr; exact ⟨g, e1, e2, h3⟩)
  have HND2 := Lib.hid (fun W => show Calls Try.prog 16 #[.int .i64 y, .string (strB d)] W (fun e w' => ∃ g, e = .returned (.tuple #[.pointer (some ⟨g, 0, none⟩), .int .i64 0]) ∧ LgD (fun k => W.heap.size ≤ k) w' g ⟨y, d, []⟩ (.slice none 0 0) [] ∧ Below W.heap.size W w') from (HND.out W).mono fun e w' ⟨h1, _, h3⟩ => by obtain ⟨g, e1, e2⟩ := h1 hfr; exact ⟨g, e1, e2, h3⟩)
  clear hfr hrng hg0 HNA HND
  generalize (⟨y, d, []⟩ : Ldg) = M0 at *
  go_enter Try.func4, Try.ntmps4
  go_wp2_with (first
    | (go_at_call 9; refine HFE.out.mono ?_; rintro e w1 ⟨rfl, hb1⟩; have HB1 := Lib.hid hb1; clear hb1)
    | (go_at_call 15; refine (HNA2.out _).mono ?_; rintro e w2 ⟨a, rfl, hg2, hb2⟩; have HG2 := Lib.hid hg2; have HB2 := Lib.hid hb2; clear hg2 hb2)
    | (go_at_call 16; refine (HND2.out _).mono ?_; rintro e w3 ⟨b, rfl, hg3, hb3⟩; have HG3 := Lib.hid hg3; have HB3 := Lib.hid hb3; clear hg3 hb3))
  obtain ⟨F, hF⟩ : ∃ F : Nat → Prop, F = fun k => k < w.heap.size := ⟨_, rfl⟩
  have HFF := Lib.hid (show ∀ k, k < w.heap.size → F k from fun k hk => by rw [hF]; exact hk)
  have HTW := Lib.hid (show TwoPD F w3 a b M0 M0 from (Two11.made HG2.out HB3.out HG3.out HB2.out.size).less fun k hk => by rw [hF] at hk; exact Nat.lt_of_lt_of_le hk HB1.out.size)
  have HBB := Lib.hid (show Below w.heap.size w w3 from bel2M HB1.out (bel2M HB2.out HB3.out))
  clear hF
  go_loopw [11] (fun i wr => ∃ (k : Nat) (L : Ldg), k ≤ l.length ∧ i = .int .i64 k ∧ TwoPD F wr a b L L ∧ GoodL (5000 + 21000 * k) L ∧ Below w.heap.size w wr) (fun i _ => l.length - (intOf i).toNat)
  case atStart => exact ⟨0, M0, Nat.zero_le _, rfl, HTW.out, HG0.out, HBB.out⟩
  case round =>
    obtain ⟨k, L, hk, rfl, htw, hgd, hbel⟩ := hrel
    by_cases hlt : k < l.length
    · have hltI : (k : Int) < (l.length : Int) := by omega
      obtain ⟨ad, rfl, hbl, A1, c1, D1, d1, z0, z1, z2, z3, z4, z5, z6, hbk⟩ := HQ.out k hlt
      have hl7 : (ad.add (k * 7)).block < w.heap.size := by rw [block_add]; exact hbl
      have hfk := HFW.out _ (List.getElem_mem hlt)
      have hok := HOK.out _ (List.getElem_mem hlt)
      have hK : 5000 + 21000 * k ≤ 10000000 := by omega
      have hK1 : 5000 + 21000 * k + 21000 ≤ 10000000 := by omega
      have hgd1 := actL_good hgd hok hfk
      have HST := Lib.hid (step11_any htw hgd hK l[k] A1 c1 D1 d1 hbk hbel HFF.out hfk hok)
      have HSM := Lib.hid (fun y W (h : TwoPD F W a b (actL L l[k]) (actL L l[k])) => same11_any h hgd1 hK1 y)
      have HG1 := Lib.hid (show GoodL (5000 + 21000 * (k + 1)) (actL L l[k]) from by rw [Nat.mul_add, Nat.mul_one, ← Nat.add_assoc]; exact hgd1)
      have HBEL := Lib.hid hbel
      have HY := Lib.hid (show ∀ W, Below w.heap.size w W → W.cell? (ad.add (k * 7)) = some (.bool l[k].cut) ∧ W.cell? ⟨(ad.add (k * 7)).block, (ad.add (k * 7)).off + 1, none⟩ = some (.bool l[k].right) ∧ W.cell? ⟨(ad.add (k * 7)).block, (ad.add (k * 7)).off + 2, none⟩ = some (.int .i64 l[k].h) ∧ W.cell? ⟨(ad.add (k * 7)).block, (ad.add (k * 7)).off + 3, none⟩ = some (.int .i64 l[k].b.h) ∧ W.cell? ⟨(ad.add (k * 7)).block, (ad.add (k * 7)).off + 4, none⟩ = some (.string (strB l[k].b.prev)) ∧ W.cell? ⟨(ad.add (k * 7)).block, (ad.add (k * 7)).off + 5, none⟩ = some (.slice A1 l[k].b.reqs.length c1) ∧ W.cell? ⟨(ad.add (k * 7)).block, (ad.add (k * 7)).off + 6, none⟩ = some (.slice D1 l[k].b.ress.length d1) from fun W hW => ⟨cellM hW hl7 z0, cellM (p := ⟨_, _, none⟩) hW hl7 z1, cellM (p := ⟨_, _, none⟩) hW hl7 z2, cellM (p := ⟨_, _, none⟩) hW hl7 z3, cellM (p := ⟨_, _, none⟩) hW hl7 z4, cellM (p := ⟨_, _, none⟩) hW hl7 z5, cellM (p := ⟨_, _, none⟩) hW hl7 z6⟩)
      clear z0 z1 z2 z3 z4 z5 z6 hbk hfk hok hgd1 htw hgd hbel
      obtain ⟨z0, z1, z2, z3, z4, z5, z6⟩ := HY.out _ HBEL.out
      generalize actL L l[k] = L' at *
      generalize l[k] = x at *
      go_wp2_with (first
        | (go_at_call 12; refine HST.out.mono ?_; rintro e w1 ⟨rfl, ht1, hk1⟩; have HT1 := Lib.hid ht1; have HB1 := Lib.hid (HBEL.out.trans (Kpt.below hk1 HBEL.out.size HFF.out)); clear ht1 hk1 z0 z1 z2 z3 z4 z5 z6; obtain ⟨z0, z1, z2, z3, z4, z5, z6⟩ := HY.out _ HB1.out)
        | (go_at_call 13; refine (HSM.out x.h _ HT1.out).mono ?_; rintro e w4 ⟨rfl, hb4⟩; have HT4 := Lib.hid (HT1.out.below hb4); have HB4 := Lib.hid (HB1.out.trans (hb4.mono HB1.out.size)); clear hb4 z0 z1 z2 z3 z4 z5 z6 HT1; obtain ⟨z0, z1, z2, z3, z4, z5, z6⟩ := HY.out _ HB4.out)
        )
      go_roundw
      case rel => exact ⟨k + 1, L', by omega, by go_num, HT4.out, HG1.out, HB4.out⟩
      case measure => simp [intOf]; omega
    · obtain rfl : k = l.length := by omega
      have hltI : ¬ (l.length : Int) < (l.length : Int) := by omega
      have HBEL := Lib.hid hbel
      have HSL := Lib.hid (same11_any htw hgd (by omega) y)
      go_wp2_with (first
        | (go_at_call 13; refine HSL.out.mono ?_; rintro e w5 ⟨rfl, hb5⟩; have HB5 := Lib.hid (HBEL.out.trans (hb5.mono HBEL.out.size)); clear hb5)
        | (go_at_call 14; refine (HW.out _).mono ?_; rintro e wz ⟨rfl, hbz⟩; have HBZ := Lib.hid (HB5.out.trans (hbz.mono HB5.out.size)); clear hbz))
      go_ret
      exact ⟨rfl, HBZ.out⟩

set_option maxHeartbeats 8000000 in
theorem lClone_any {S : Nat → Prop} {w : World} {g : Nat} {L : Ldg} {v : Value} {qs : List KB} (h : LgP S w g L v qs) {K : Nat} (hg : GoodL K L) (hK : K ≤ 10000000) : Calls Try.prog 17 #[.pointer (some ⟨g, 0, none⟩)] w (fun e w' => ∃ g' v' qs', e = .returned (.pointer (some ⟨g', 0, none⟩)) ∧ LgP (fun k => w.heap.size ≤ k) w' g' L v' qs' ∧ Below w.heap.size w w') := by
  obtain ⟨i1, hj, hy0, hy1, hy2⟩ := info_parts infoBk
  obtain ⟨z0, z1, z2, z3, z4⟩ := h.rowP
  obtain ⟨A, cp, rfl, -, -, hx⟩ := h.open
  have HX := Lib.hid hx
  have hlen := h.len
  have hn1 := hg.n
  have hq1000 : qs.length ≤ 1000000 := by omega
  have HLEN := Lib.hid hlen
  have HFW := Lib.hid (show ∀ j (hj : j < qs.length), FewQ qs[j].b ∧ L.bl.take (j + 1) = L.bl.take j ++ [qs[j].b] from fun j hj => by
    obtain ⟨h', e⟩ := h.at hj
    rw [e]
    exact ⟨(hg.q _ (List.getElem_mem h')).1, List.take_succ_eq_append_getElem h'⟩)
  have hbn := alloc1B w (.cells #[.int .i64 L.base, .string (strB L.dig), .slice none 0 0, .bool true] 77)
  have hnn := heap_alloc_new w (.cells #[.int .i64 L.base, .string (strB L.dig), .slice none 0 0, .bool true] 77)
  have HBN := Lib.hid hbn
  have HNN := Lib.hid (show LgP (fun k => w.heap.size ≤ k) (w.alloc (.cells #[.int .i64 L.base, .string (strB L.dig), .slice none 0 0, .bool true] 77)).drew w.heap.size ⟨L.base, L.dig, []⟩ (.slice none 0 0) [] from (LgR.fresh (cs := csLP) (L := ⟨L.base, L.dig, []⟩) hnn rfl (Nat.le_refl _)).below ((Below.refl _ _).drew))
  have hrow : ∀ W, Below w.heap.size w W → W.cell? ⟨g, 2, none⟩ = some (.slice A qs.length cp) := fun W hW => cellB z2 hW
  have HROW := Lib.hid hrow
  clear h hg hx hlen hn1 hbn hnn hrow
  go_enter Try.func17, Try.ntmps17
  go_upto_region 3 with fail
  go_cut [3] from 8 to 17 (fun s3 wx => s3 = .pointer (some ⟨w.heap.size, 0, none⟩) ∧ wx = (w.alloc (.cells #[.int .i64 L.base, .string (strB L.dig), .slice none 0 0, .bool true] 77)).drew)
  case first =>
    go_region_with fail
    all_goals
      go_wp2_with fail
      go_meet
      exact ⟨rfl, rfl⟩
  case rest =>
    obtain ⟨rfl, hwc⟩ := hcut
    have HBW := Lib.hid (show Below w.heap.size w wc from hwc ▸ HBN.out.drew)
    have HNW := Lib.hid (show LgP (fun k => w.heap.size ≤ k) wc w.heap.size ⟨L.base, L.dig, []⟩ (.slice none 0 0) [] from hwc ▸ HNN.out)
    clear hwc z0 z1 z2 z3 z4
    have z2 := HROW.out _ HBW.out
    go_wp2
    go_loopw [23] (fun i wr => ∃ (k : Nat) (vk : Value) (qk : List KB), k ≤ qs.length ∧ i = .int .i64 k ∧ LgP (fun j => w.heap.size ≤ j) wr w.heap.size ⟨L.base, L.dig, L.bl.take k⟩ vk qk ∧ Below w.heap.size w wr) (fun i _ => qs.length - (intOf i).toNat)
    case atStart => exact ⟨0, _, [], Nat.zero_le _, rfl, HNW.out, HBW.out⟩
    case round =>
      obtain ⟨k, vk, qk, hk, rfl, hlg, hbel⟩ := hrel
      by_cases hlt : k < qs.length
      · have hltI : (k : Int) < (qs.length : Int) := by omega
        obtain ⟨ad, rfl, c0, c1, c2, c3, hbk⟩ := HX.out k hlt
        obtain ⟨hfq, htk⟩ := HFW.out k hlt
        have hqk : qk.length ≤ 1000000 := by have := hlg.len; rw [this, List.length_take]; have := HLEN.out; omega
        generalize qs[k] = q at *
        have y0 := cellB c0 hbel
        have y1 := cellB c1 hbel
        have y2 := cellB c2 hbel
        have y3 := cellB c3 hbel
        obtain ⟨AV, cV, rfl⟩ := own_slice hlg.row
        have HBEL := Lib.hid hbel
        have HTK := Lib.hid htk
        have HB := Lib.hid (fun W (hW : Below wr.heap.size wr W) => cloneB_any q.b q.A q.c q.D q.d W ((hbk.below hbel).below (hW.mono hbel.size |> fun h => bel2M (Below.refl _ _) hW)) hfq)
        have hl2 := LgR.mono hlg (S' := fun i => i < wr.heap.size ∧ w.heap.size ≤ i) fun i hi hs => ⟨hi, hs⟩
        have HL := Lib.hid (fun W (hW : Below wr.heap.size wr W) => LgR.below hl2 hW)
        have HGL := Lib.hid (show w.heap.size < wr.heap.size from hlg.lt)
        have HX0 := Lib.hid (heap_alloc_new wr (.cells #[.int .i64 q.b.h, .string (strB q.b.prev), .slice q.A q.b.reqs.length q.c, .slice q.D q.b.ress.length q.d] 33))
        have HB0 := Lib.hid (alloc1B wr (.cells #[.int .i64 q.b.h, .string (strB q.b.prev), .slice q.A q.b.reqs.length q.c, .slice q.D q.b.ress.length q.d] 33))
        go_upto_region 7 with fail
        clear hlg hbel hbk c0 c1 c2 c3 y0 y1 y2 y3 hl2 htk hfq
        generalize wr.alloc (.cells #[.int .i64 q.b.h, .string (strB q.b.prev), .slice q.A q.b.reqs.length q.c, .slice q.D q.b.ress.length q.d] 33) = w0 at *
        have HKS := Lib.hid (show ∀ W, Below w0.heap.size w0 W → (fun W => W.cell? ⟨wr.heap.size, 0, none⟩ = some (.int .i64 q.b.h) ∧ W.cell? ⟨wr.heap.size, 1, none⟩ = some (.string (strB q.b.prev)) ∧ W.cell? ⟨wr.heap.size, 2, none⟩ = some (.slice q.A q.b.reqs.length q.c) ∧ W.cell? ⟨wr.heap.size, 3, none⟩ = some (.slice q.D q.b.ress.length q.d)) W from fun W hW => by obtain ⟨e0, e1, e2, e3, -⟩ := rows4 (heapB HX0.out hW); exact ⟨e0, e1, e2, e3⟩)
        have HBC := Lib.hid (show Below w0.heap.size w0 w0.drew from (Below.refl _ _).drew)
        obtain ⟨z0, z1, z2, z3, z4⟩ := (HL.out _ (bel2M HB0.out HBC.out)).rowP
        refine wp_region_held_drew (S := (fun W => W.cell? ⟨wr.heap.size, 0, none⟩ = some (.int .i64 q.b.h) ∧ W.cell? ⟨wr.heap.size, 1, none⟩ = some (.string (strB q.b.prev)) ∧ W.cell? ⟨wr.heap.size, 2, none⟩ = some (.slice q.A q.b.reqs.length q.c) ∧ W.cell? ⟨wr.heap.size, 3, none⟩ = some (.slice q.D q.b.ress.length q.d))) (by kernel_rfl) (HKS.out _ HBC.out) (fun hHeld => ?_)
        refine tk 0 ?_
        (try simp only [Act.put, sA, sB, sC])
        refine tk 1 ?_
        (try simp only [Act.put, sA, sB, sC])
        refine tk 2 ?_
        (try simp only [Act.put, sA, sB, sC])
        refine tk 3 ?_
        (try simp only [Act.put, sA, sB, sC])
        refine tk 5 ?_
        (try simp only [Act.put, sA, sB, sC])
        refine wpAnyH_ready (rs := [4, 6]) (by kernel_rfl) (by simp) ?_
        refine AllReadyH.cons (o := ?o6) ?g6 (fun K hK => ?j6) (AllReadyH.cons (o := ?o7) ?g7 (fun K hK => ?j7) AllReadyH.nil)
        case g6 => (simp only [gA, gB, gC]; rfl)
        case g7 => (simp only [gA, gB, gC]; rfl)
        ·
         go_simp
         refine hK.out _ _ ?_ (fun hHeld => ?_)
         · (try dsimp only); exact HKS.out _ HBC.out
         clear hK K
         (try simp only [Act.put, sA, sB, sC])
         refine wpAnyH_ready (rs := [6]) (by kernel_rfl) (by simp) ?_
         refine AllReadyH.cons (o := ?o8) ?g8 (fun K hK => ?j8) AllReadyH.nil
         case g8 => (simp only [gA, gB, gC]; rfl)
         go_simp
         (go_at_call 42; refine (HB.out _ (bel2M HB0.out HBC.out)).mono ?_)
         rintro e w4 ⟨A4, c4, D4, d4, rfl, hk4, hb4⟩
         have HK4 := Lib.hid hk4
         have HZ4 := Lib.hid HBC.out.size
         replace HBC := Lib.hid (bel2M HBC.out hb4)
         clear hk4 hb4
         obtain ⟨z0, z1, z2, z3, z4⟩ := (HL.out _ (bel2M HB0.out HBC.out)).rowP
         have HB5 := Lib.hid (alloc1B w4 (.cells #[.int .i64 q.b.h, .string (strB q.b.prev), .slice A4 q.b.reqs.length c4, .slice D4 q.b.ress.length d4] 33))
         have HX5 := Lib.hid (heap_alloc_new w4 (.cells #[.int .i64 q.b.h, .string (strB q.b.prev), .slice A4 q.b.reqs.length c4, .slice D4 q.b.ress.length d4] 33))
         have HL5 := Lib.hid (HL.out _ (bel2M HB0.out (bel2M HBC.out HB5.out)))
         obtain ⟨k0, k1, k2, k3, k4⟩ := HL5.out.rowP
         refine hK.out _ _ ?_ (fun hHeld => ?_)
         · (try dsimp only); exact HKS.out _ HBC.out
         clear hK K
         (try simp only [Act.put, sA, sB, sC])
         refine wpAnyH_ready (rs := [7]) (by kernel_rfl) (by simp) ?_
         refine AllReadyH.cons (o := ?o9) ?g9 (fun K hK => ?j9) AllReadyH.nil
         case g9 => (simp only [gA, gB, gC]; rfl)
         go_simp
         refine hK.out _ _ ?_ (fun hHeld => ?_)
         · (try dsimp only); exact HKS.out _ (bel2M HBC.out HB5.out)
         clear hK K
         (try simp only [Act.put, sA, sB, sC])
         refine wpAnyH_ready (rs := [8]) (by kernel_rfl) (by simp) ?_
         refine AllReadyH.cons (o := ?o10) ?g10 (fun K hK => ?j10) AllReadyH.nil
         case g10 => (simp only [gA, gB, gC]; rfl)
         refine step_append_rowsM rfl (.tmp 31) (.tmp 34) 52 rfl 0 33 i1 (.agg #[.int .i64 0, .string ⟨#[]⟩, .slice none 0 0, .slice none 0 0]) 4 72 Try.underlying52 hj hy0 hy1 hy2 rfl (by decide) (.slice AV qk.length cV) qk.length (qk.flatMap kbC) rfl HL5.out.row (.slice (some ⟨w4.heap.size, 0, none⟩) 1 1) 1 (kbC ⟨q.b, A4, c4, D4, d4⟩) rfl (built4 (q := ⟨q.b, A4, c4, D4, d4⟩) HX5.out) (kbC_one1 _) (by unfold maxLen; omega) (by omega) (Nat.zero_le _) ?_
         intro v6 w6 hown6 hg6 ho6
         obtain ⟨A6, c6, rfl⟩ := own_slice hown6
         have HO6 := Lib.hid hown6
         have HG6 := Lib.hid hg6
         have HR6 := Lib.hid ho6
         have HH6 := Lib.hid ((hg6.block w.heap.size HL5.out.lt (fun e => (HL5.out.at_v w.heap.size e.symm).2 rfl)).trans HL5.out.head)
         have HX6 := Lib.hid ((hg6.block wr.heap.size (Nat.lt_of_lt_of_le (Array.getElem?_eq_some_iff.1 HX0.out).1 (bel2M HBC.out HB5.out).size) (fun e => Nat.lt_irrefl _ (HL5.out.at_v _ e.symm).1.1)).trans (heapB HX0.out (bel2M HBC.out HB5.out)))
         clear hown6 hg6 ho6
         obtain ⟨m0, m1, m2, m3, m4⟩ := rows4 HH6.out
         refine hK.out _ _ ?_ (fun hHeld => ?_)
         · (try dsimp only); (obtain ⟨e0, e1, e2, e3, -⟩ := rows4 HX6.out; exact ⟨e0, e1, e2, e3⟩)
         clear hK K
         (try simp only [Act.put, sA, sB, sC])
         refine tk 9 ?_
         (try simp only [Act.put, sA, sB, sC])
         refine tk 10 ?_
         (try simp only [Act.put, sA, sB, sC])
         refine wpAnyH_ready (rs := [11]) (by kernel_rfl) (by simp) ?_
         refine AllReadyH.cons (o := ?o13) ?g13 (fun K hK => ?j13) AllReadyH.nil
         case g13 => (simp only [gA, gB, gC]; rfl)
         go_simp
         refine hK.out _ _ ?_ (fun hHeld => ?_)
         · (try dsimp only); (obtain ⟨e0, e1, e2, e3, -⟩ := rows4 HX6.out; exact ⟨setOtherB e0 (Nat.ne_of_gt HGL.out), setOtherB e1 (Nat.ne_of_gt HGL.out), setOtherB e2 (Nat.ne_of_gt HGL.out), setOtherB e3 (Nat.ne_of_gt HGL.out)⟩)
         clear hK K
         (try simp only [Act.put, sA, sB, sC])
         refine wpAnyH_done (by kernel_rfl) ?_ _
         go_wp2
         go_roundw
         case rel =>
           have hz0 := HB0.out.size
           have hz4 := HZ4.out
           have hz5 := HB5.out.size
           have hz6 := HBC.out.size
           have hzw := HBEL.out.size
           refine ⟨k + 1, _, _, by omega, by go_num, LgR.push (w := wr) HL5.out (fun i hi => Nat.le_trans hzw hi) (by omega) ((HK4.out.keep hz5 (C' := fun i => wr.heap.size ≤ i) fun i hi hc => ⟨HB5.out.block i hi, by have h1 : _ ≤ i := hc; omega⟩)) HO6.out HG6.out HR6.out rfl HTK.out, ?_⟩
           refine ((((HBEL.out.trans ((bel2M HB0.out (bel2M HBC.out HB5.out)).mono hzw)).grown HG6.out (by omega) (fun i hi => (HL5.out.at_v i hi).1.2)))).setCell (p := ⟨w.heap.size, 2, none⟩) (Nat.le_refl _) _
         case measure => simp [intOf]; omega
        ·
         go_simp
         (go_at_call 42; refine (HB.out _ (bel2M HB0.out HBC.out)).mono ?_)
         rintro e w4 ⟨A4, c4, D4, d4, rfl, hk4, hb4⟩
         have HK4 := Lib.hid hk4
         have HZ4 := Lib.hid HBC.out.size
         replace HBC := Lib.hid (bel2M HBC.out hb4)
         clear hk4 hb4
         obtain ⟨z0, z1, z2, z3, z4⟩ := (HL.out _ (bel2M HB0.out HBC.out)).rowP
         have HB5 := Lib.hid (alloc1B w4 (.cells #[.int .i64 q.b.h, .string (strB q.b.prev), .slice A4 q.b.reqs.length c4, .slice D4 q.b.ress.length d4] 33))
         have HX5 := Lib.hid (heap_alloc_new w4 (.cells #[.int .i64 q.b.h, .string (strB q.b.prev), .slice A4 q.b.reqs.length c4, .slice D4 q.b.ress.length d4] 33))
         have HL5 := Lib.hid (HL.out _ (bel2M HB0.out (bel2M HBC.out HB5.out)))
         obtain ⟨k0, k1, k2, k3, k4⟩ := HL5.out.rowP
         refine hK.out _ _ ?_ (fun hHeld => ?_)
         · (try dsimp only); exact HKS.out _ HBC.out
         clear hK K
         (try simp only [Act.put, sA, sB, sC])
         refine wpAnyH_ready (rs := [4, 7]) (by kernel_rfl) (by simp) ?_
         refine AllReadyH.cons (o := ?o14) ?g14 (fun K hK => ?j14) (AllReadyH.cons (o := ?o15) ?g15 (fun K hK => ?j15) AllReadyH.nil)
         case g14 => (simp only [gA, gB, gC]; rfl)
         case g15 => (simp only [gA, gB, gC]; rfl)
         ·
          go_simp
          refine hK.out _ _ ?_ (fun hHeld => ?_)
          · (try dsimp only); exact HKS.out _ HBC.out
          clear hK K
          (try simp only [Act.put, sA, sB, sC])
          refine wpAnyH_ready (rs := [7]) (by kernel_rfl) (by simp) ?_
          refine AllReadyH.cons (o := ?o16) ?g16 (fun K hK => ?j16) AllReadyH.nil
          case g16 => (simp only [gA, gB, gC]; rfl)
          go_simp
          refine hK.out _ _ ?_ (fun hHeld => ?_)
          · (try dsimp only); exact HKS.out _ (bel2M HBC.out HB5.out)
          clear hK K
          (try simp only [Act.put, sA, sB, sC])
          refine wpAnyH_ready (rs := [8]) (by kernel_rfl) (by simp) ?_
          refine AllReadyH.cons (o := ?o17) ?g17 (fun K hK => ?j17) AllReadyH.nil
          case g17 => (simp only [gA, gB, gC]; rfl)
          refine step_append_rowsM rfl (.tmp 31) (.tmp 34) 52 rfl 0 33 i1 (.agg #[.int .i64 0, .string ⟨#[]⟩, .slice none 0 0, .slice none 0 0]) 4 72 Try.underlying52 hj hy0 hy1 hy2 rfl (by decide) (.slice AV qk.length cV) qk.length (qk.flatMap kbC) rfl HL5.out.row (.slice (some ⟨w4.heap.size, 0, none⟩) 1 1) 1 (kbC ⟨q.b, A4, c4, D4, d4⟩) rfl (built4 (q := ⟨q.b, A4, c4, D4, d4⟩) HX5.out) (kbC_one1 _) (by unfold maxLen; omega) (by omega) (Nat.zero_le _) ?_
          intro v6 w6 hown6 hg6 ho6
          obtain ⟨A6, c6, rfl⟩ := own_slice hown6
          have HO6 := Lib.hid hown6
          have HG6 := Lib.hid hg6
          have HR6 := Lib.hid ho6
          have HH6 := Lib.hid ((hg6.block w.heap.size HL5.out.lt (fun e => (HL5.out.at_v w.heap.size e.symm).2 rfl)).trans HL5.out.head)
          have HX6 := Lib.hid ((hg6.block wr.heap.size (Nat.lt_of_lt_of_le (Array.getElem?_eq_some_iff.1 HX0.out).1 (bel2M HBC.out HB5.out).size) (fun e => Nat.lt_irrefl _ (HL5.out.at_v _ e.symm).1.1)).trans (heapB HX0.out (bel2M HBC.out HB5.out)))
          clear hown6 hg6 ho6
          obtain ⟨m0, m1, m2, m3, m4⟩ := rows4 HH6.out
          refine hK.out _ _ ?_ (fun hHeld => ?_)
          · (try dsimp only); (obtain ⟨e0, e1, e2, e3, -⟩ := rows4 HX6.out; exact ⟨e0, e1, e2, e3⟩)
          clear hK K
          (try simp only [Act.put, sA, sB, sC])
          refine tk 9 ?_
          (try simp only [Act.put, sA, sB, sC])
          refine tk 10 ?_
          (try simp only [Act.put, sA, sB, sC])
          refine wpAnyH_ready (rs := [11]) (by kernel_rfl) (by simp) ?_
          refine AllReadyH.cons (o := ?o20) ?g20 (fun K hK => ?j20) AllReadyH.nil
          case g20 => (simp only [gA, gB, gC]; rfl)
          go_simp
          refine hK.out _ _ ?_ (fun hHeld => ?_)
          · (try dsimp only); (obtain ⟨e0, e1, e2, e3, -⟩ := rows4 HX6.out; exact ⟨setOtherB e0 (Nat.ne_of_gt HGL.out), setOtherB e1 (Nat.ne_of_gt HGL.out), setOtherB e2 (Nat.ne_of_gt HGL.out), setOtherB e3 (Nat.ne_of_gt HGL.out)⟩)
          clear hK K
          (try simp only [Act.put, sA, sB, sC])
          refine wpAnyH_done (by kernel_rfl) ?_ _
          go_wp2
          go_roundw
          case rel =>
            have hz0 := HB0.out.size
            have hz4 := HZ4.out
            have hz5 := HB5.out.size
            have hz6 := HBC.out.size
            have hzw := HBEL.out.size
            refine ⟨k + 1, _, _, by omega, by go_num, LgR.push (w := wr) HL5.out (fun i hi => Nat.le_trans hzw hi) (by omega) ((HK4.out.keep hz5 (C' := fun i => wr.heap.size ≤ i) fun i hi hc => ⟨HB5.out.block i hi, by have h1 : _ ≤ i := hc; omega⟩)) HO6.out HG6.out HR6.out rfl HTK.out, ?_⟩
            refine ((((HBEL.out.trans ((bel2M HB0.out (bel2M HBC.out HB5.out)).mono hzw)).grown HG6.out (by omega) (fun i hi => (HL5.out.at_v i hi).1.2)))).setCell (p := ⟨w.heap.size, 2, none⟩) (Nat.le_refl _) _
          case measure => simp [intOf]; omega
         ·
          go_simp
          refine hK.out _ _ ?_ (fun hHeld => ?_)
          · (try dsimp only); exact HKS.out _ (bel2M HBC.out HB5.out)
          clear hK K
          (try simp only [Act.put, sA, sB, sC])
          refine wpAnyH_ready (rs := [4]) (by kernel_rfl) (by simp) ?_
          refine AllReadyH.cons (o := ?o21) ?g21 (fun K hK => ?j21) AllReadyH.nil
          case g21 => (simp only [gA, gB, gC]; rfl)
          go_simp
          refine hK.out _ _ ?_ (fun hHeld => ?_)
          · (try dsimp only); exact HKS.out _ (bel2M HBC.out HB5.out)
          clear hK K
          (try simp only [Act.put, sA, sB, sC])
          refine wpAnyH_ready (rs := [8]) (by kernel_rfl) (by simp) ?_
          refine AllReadyH.cons (o := ?o22) ?g22 (fun K hK => ?j22) AllReadyH.nil
          case g22 => (simp only [gA, gB, gC]; rfl)
          refine step_append_rowsM rfl (.tmp 31) (.tmp 34) 52 rfl 0 33 i1 (.agg #[.int .i64 0, .string ⟨#[]⟩, .slice none 0 0, .slice none 0 0]) 4 72 Try.underlying52 hj hy0 hy1 hy2 rfl (by decide) (.slice AV qk.length cV) qk.length (qk.flatMap kbC) rfl HL5.out.row (.slice (some ⟨w4.heap.size, 0, none⟩) 1 1) 1 (kbC ⟨q.b, A4, c4, D4, d4⟩) rfl (built4 (q := ⟨q.b, A4, c4, D4, d4⟩) HX5.out) (kbC_one1 _) (by unfold maxLen; omega) (by omega) (Nat.zero_le _) ?_
          intro v6 w6 hown6 hg6 ho6
          obtain ⟨A6, c6, rfl⟩ := own_slice hown6
          have HO6 := Lib.hid hown6
          have HG6 := Lib.hid hg6
          have HR6 := Lib.hid ho6
          have HH6 := Lib.hid ((hg6.block w.heap.size HL5.out.lt (fun e => (HL5.out.at_v w.heap.size e.symm).2 rfl)).trans HL5.out.head)
          have HX6 := Lib.hid ((hg6.block wr.heap.size (Nat.lt_of_lt_of_le (Array.getElem?_eq_some_iff.1 HX0.out).1 (bel2M HBC.out HB5.out).size) (fun e => Nat.lt_irrefl _ (HL5.out.at_v _ e.symm).1.1)).trans (heapB HX0.out (bel2M HBC.out HB5.out)))
          clear hown6 hg6 ho6
          obtain ⟨m0, m1, m2, m3, m4⟩ := rows4 HH6.out
          refine hK.out _ _ ?_ (fun hHeld => ?_)
          · (try dsimp only); (obtain ⟨e0, e1, e2, e3, -⟩ := rows4 HX6.out; exact ⟨e0, e1, e2, e3⟩)
          clear hK K
          (try simp only [Act.put, sA, sB, sC])
          refine tk 9 ?_
          (try simp only [Act.put, sA, sB, sC])
          refine tk 10 ?_
          (try simp only [Act.put, sA, sB, sC])
          refine wpAnyH_ready (rs := [11]) (by kernel_rfl) (by simp) ?_
          refine AllReadyH.cons (o := ?o25) ?g25 (fun K hK => ?j25) AllReadyH.nil
          case g25 => (simp only [gA, gB, gC]; rfl)
          go_simp
          refine hK.out _ _ ?_ (fun hHeld => ?_)
          · (try dsimp only); (obtain ⟨e0, e1, e2, e3, -⟩ := rows4 HX6.out; exact ⟨setOtherB e0 (Nat.ne_of_gt HGL.out), setOtherB e1 (Nat.ne_of_gt HGL.out), setOtherB e2 (Nat.ne_of_gt HGL.out), setOtherB e3 (Nat.ne_of_gt HGL.out)⟩)
          clear hK K
          (try simp only [Act.put, sA, sB, sC])
          refine wpAnyH_done (by kernel_rfl) ?_ _
          go_wp2
          go_roundw
          case rel =>
            have hz0 := HB0.out.size
            have hz4 := HZ4.out
            have hz5 := HB5.out.size
            have hz6 := HBC.out.size
            have hzw := HBEL.out.size
            refine ⟨k + 1, _, _, by omega, by go_num, LgR.push (w := wr) HL5.out (fun i hi => Nat.le_trans hzw hi) (by omega) ((HK4.out.keep hz5 (C' := fun i => wr.heap.size ≤ i) fun i hi hc => ⟨HB5.out.block i hi, by have h1 : _ ≤ i := hc; omega⟩)) HO6.out HG6.out HR6.out rfl HTK.out, ?_⟩
            refine ((((HBEL.out.trans ((bel2M HB0.out (bel2M HBC.out HB5.out)).mono hzw)).grown HG6.out (by omega) (fun i hi => (HL5.out.at_v i hi).1.2)))).setCell (p := ⟨w.heap.size, 2, none⟩) (Nat.le_refl _) _
          case measure => simp [intOf]; omega
      · obtain rfl : k = qs.length := by omega
        have hltI : ¬ (qs.length : Int) < (qs.length : Int) := by omega
        have hbl : L.bl.take qs.length = L.bl := List.take_of_length_le (by have := HLEN.out; omega)
        rw [hbl] at hlg
        go_wp2
        go_ret
        exact ⟨w.heap.size, rfl, ⟨vk, qk, hlg⟩, hbel⟩

section
variable {ca cb cc : Ldg → Value → Array Value} {ta tb tc : TypeId} {F : Nat → Prop} {w w' : World} {a b c : Nat} {La Lb Lc : Ldg}
theorem Two11.cloned (h : Two11 ca ta cb tb F w a b La Lb) {v : Value} {qs : List KB} (h2 : LgR cc tc (fun k => w.heap.size ≤ k) w' c Lc v qs) (hb : Below w.heap.size w w') : Two11 ca ta cc tc F w' a c La Lc := by
  obtain ⟨Sa, Sb, va, qa, vb, qb, g1, g2, g3, g4, g5⟩ := h
  have hz := hb.size
  refine ⟨Sa, fun k => w.heap.size ≤ k ∧ k < w'.heap.size, va, qa, v, qs, g1.below hb, h2.mono fun k hl hk => ⟨hk, hl⟩, fun k hk => ⟨?_, (g3 k hk).2.1, fun hs => ?_⟩, fun k hk => ⟨hk.2, fun hf => ?_⟩, fun k hk => ?_⟩
  · have := (g3 k hk).1; omega
  · have := (g3 k hk).1; have := hs.1; omega
  · have := g5 k hf; have := hk.1; omega
  · have := g5 k hk; omega
end
theorem appL_base (L : Ldg) (b : Blk) : (appL L b).base = L.base := by
  unfold appL
  by_cases h : appE L b = 0
  · rw [if_pos h]
  · rw [if_neg h]
theorem cutL_base {L : Ldg} {x : Int} (h : cutE L x = 0) : (cutL L x).base = x := by
  obtain ⟨k, -, e1, e2⟩ := cutE_zero h
  rw [e2, e1]
set_option maxHeartbeats 16000000 in
theorem LedgerCuts_any (l1 : List ActL) (A : Option Addr) (c : Nat) (y : Int) (l2 : List ActL) (A2 : Option Addr) (c2 : Nat) (w : World) (h : ActsK w A c l1) (ok : ∀ a ∈ l1, OkA a) (h2 : ActsK w A2 c2 l2) (ok2 : ∀ a ∈ l2, OkA a) : Calls Try.prog 5 #[.slice A l1.length c, .int .i64 y, .slice A2 l2.length c2] w (Yes w) := by
  have HFE := Lib.hid (fun W (hb : Below w.heap.size w W) => few11_any A c l1 W (RowM.below (fun p x hl hx => by obtain ⟨A1, c1, D1, d1, e0, e1, e2, e3, e4, e5, e6, e7⟩ := hx; exact ⟨A1, c1, D1, d1, cellM hb hl e0, cellM (p := ⟨_, _, none⟩) hb hl e1, cellM (p := ⟨_, _, none⟩) hb hl e2, cellM (p := ⟨_, _, none⟩) hb hl e3, cellM (p := ⟨_, _, none⟩) hb hl e4, cellM (p := ⟨_, _, none⟩) hb hl e5, cellM (p := ⟨_, _, none⟩) hb hl e6, e7.below hb⟩) h hb.size))
  have HFM := Lib.hid (fun W (hb : Below w.heap.size w W) => few11_any A2 c2 l2 W (RowM.below (fun p x hl hx => by obtain ⟨A1, c1, D1, d1, e0, e1, e2, e3, e4, e5, e6, e7⟩ := hx; exact ⟨A1, c1, D1, d1, cellM hb hl e0, cellM (p := ⟨_, _, none⟩) hb hl e1, cellM (p := ⟨_, _, none⟩) hb hl e2, cellM (p := ⟨_, _, none⟩) hb hl e3, cellM (p := ⟨_, _, none⟩) hb hl e4, cellM (p := ⟨_, _, none⟩) hb hl e5, cellM (p := ⟨_, _, none⟩) hb hl e6, e7.below hb⟩) h2 hb.size))
  have HQ := Lib.hid h.2.2.2
  have HQ2 := Lib.hid h2.2.2.2
  have hmx1 : l1.length ≤ maxLen := Nat.le_trans h.1 h.2.1
  have hmx2 : l2.length ≤ maxLen := Nat.le_trans h2.1 h2.2.1
  have HOK := Lib.hid ok
  have HOK2 := Lib.hid ok2
  have HW := Lib.hid (fun W => awake11_any W)
  have HNA := Lib.hid (fun W => lNew_any W)
  have HND := Lib.hid (fun W => rlNew_any W)
  clear h ok h2 ok2 hmx1 hmx2
  rcases hf : fewA l1 with _ | _
  · rw [hf] at HFE
    clear HFM
    go_enter Try.func5, Try.ntmps5
    go_wp2_with (go_at_call 9; refine (HFE.out _ (Below.refl _ _)).mono ?_; rintro e w1 ⟨rfl, hb1⟩; have HB1 := Lib.hid hb1; clear hb1)
    go_ret
    exact ⟨rfl, HB1.out⟩
  rw [hf] at HFE
  rcases hf2 : fewA l2 with _ | _
  · rw [hf2] at HFM
    go_enter Try.func5, Try.ntmps5
    go_wp2_with (first
      | (go_at_call 9; refine (HFE.out _ (Below.refl _ _)).mono ?_; rintro e w1 ⟨rfl, hb1⟩; have HB1 := Lib.hid hb1; clear hb1 HFE)
      | (go_at_call 9; refine (HFM.out _ HB1.out).mono ?_; rintro e w2 ⟨rfl, hb2⟩; have HB2 := Lib.hid (bel2M HB1.out hb2); clear hb2))
    go_ret
    exact ⟨rfl, HB2.out⟩
  rw [hf2] at HFM
  obtain ⟨hl30, hfw⟩ := fewA_iff.1 hf
  obtain ⟨hm30, hfw2⟩ := fewA_iff.1 hf2
  have HFW := Lib.hid hfw
  have HFW2 := Lib.hid hfw2
  clear hf hfw hf2 hfw2
  go_enter Try.func5, Try.ntmps5
  go_wp2_with (first
    | (go_at_call 9; refine (HFE.out _ (Below.refl _ _)).mono ?_; rintro e w0 ⟨rfl, hb0⟩; have HB0 := Lib.hid hb0; clear hb0 HFE)
    | (go_at_call 9; refine (HFM.out _ HB0.out).mono ?_; rintro e w1 ⟨rfl, hb1⟩; have HB1 := Lib.hid (bel2M HB0.out hb1); clear hb1)
    | (go_at_call 10; refine (HNA.out _).mono ?_; rintro e w2 ⟨a, rfl, hg2, hb2⟩; have HG2 := Lib.hid hg2; have HB2 := Lib.hid hb2; clear hg2 hb2)
    | (go_at_call 11; refine (HND.out _).mono ?_; rintro e w3 ⟨b, rfl, hg3, hb3⟩; have HG3 := Lib.hid hg3; have HB3 := Lib.hid hb3; clear hg3 hb3))
  obtain ⟨F, hF⟩ : ∃ F : Nat → Prop, F = fun k => k < w.heap.size := ⟨_, rfl⟩
  have HFF := Lib.hid (show ∀ k, k < w.heap.size → F k from fun k hk => by rw [hF]; exact hk)
  have HTW := Lib.hid (show TwoPD F w3 a b L0 L0 from (Two11.made HG2.out HB3.out HG3.out HB2.out.size).less fun k hk => by rw [hF] at hk; exact Nat.lt_of_lt_of_le hk HB1.out.size)
  have HBB := Lib.hid (show Below w.heap.size w w3 from bel2M HB1.out (bel2M HB2.out HB3.out))
  clear hF
  go_loopw [9] (fun i wr => ∃ (k : Nat) (L : Ldg), k ≤ l1.length ∧ i = .int .i64 k ∧ TwoPD F wr a b L L ∧ GoodL (5000 + 21000 * k) L ∧ Below w.heap.size w wr) (fun i _ => l1.length - (intOf i).toNat)
  case atStart => exact ⟨0, L0, Nat.zero_le _, rfl, HTW.out, L0_good, HBB.out⟩
  case round =>
    obtain ⟨k, L, hk, rfl, htw, hgd, hbel⟩ := hrel
    by_cases hlt : k < l1.length
    · have hltI : (k : Int) < (l1.length : Int) := by omega
      obtain ⟨ad, rfl, hbl, A1, c1, D1, d1, z0, z1, z2, z3, z4, z5, z6, hbk⟩ := HQ.out k hlt
      have hl7 : (ad.add (k * 7)).block < w.heap.size := by rw [block_add]; exact hbl
      have hfk := HFW.out _ (List.getElem_mem hlt)
      have hok := HOK.out _ (List.getElem_mem hlt)
      have hgd1 := actL_good hgd hok hfk
      have HST := Lib.hid (step11_any htw hgd (by omega) l1[k] A1 c1 D1 d1 hbk hbel HFF.out hfk hok)
      have HG1 := Lib.hid (show GoodL (5000 + 21000 * (k + 1)) (actL L l1[k]) from by rw [Nat.mul_add, Nat.mul_one, ← Nat.add_assoc]; exact hgd1)
      have HBEL := Lib.hid hbel
      have HY := Lib.hid (show ∀ W, Below w.heap.size w W → W.cell? (ad.add (k * 7)) = some (.bool l1[k].cut) ∧ W.cell? ⟨(ad.add (k * 7)).block, (ad.add (k * 7)).off + 1, none⟩ = some (.bool l1[k].right) ∧ W.cell? ⟨(ad.add (k * 7)).block, (ad.add (k * 7)).off + 2, none⟩ = some (.int .i64 l1[k].h) ∧ W.cell? ⟨(ad.add (k * 7)).block, (ad.add (k * 7)).off + 3, none⟩ = some (.int .i64 l1[k].b.h) ∧ W.cell? ⟨(ad.add (k * 7)).block, (ad.add (k * 7)).off + 4, none⟩ = some (.string (strB l1[k].b.prev)) ∧ W.cell? ⟨(ad.add (k * 7)).block, (ad.add (k * 7)).off + 5, none⟩ = some (.slice A1 l1[k].b.reqs.length c1) ∧ W.cell? ⟨(ad.add (k * 7)).block, (ad.add (k * 7)).off + 6, none⟩ = some (.slice D1 l1[k].b.ress.length d1) from fun W hW => ⟨cellM hW hl7 z0, cellM (p := ⟨_, _, none⟩) hW hl7 z1, cellM (p := ⟨_, _, none⟩) hW hl7 z2, cellM (p := ⟨_, _, none⟩) hW hl7 z3, cellM (p := ⟨_, _, none⟩) hW hl7 z4, cellM (p := ⟨_, _, none⟩) hW hl7 z5, cellM (p := ⟨_, _, none⟩) hW hl7 z6⟩)
      clear z0 z1 z2 z3 z4 z5 z6 hbk hfk hok hgd1 htw hgd hbel
      obtain ⟨z0, z1, z2, z3, z4, z5, z6⟩ := HY.out _ HBEL.out
      generalize actL L l1[k] = L' at *
      generalize l1[k] = x at *
      go_wp2_with (first
        | (go_at_call 12; refine HST.out.mono ?_; rintro e w1 ⟨rfl, ht1, hk1⟩; have HT1 := Lib.hid ht1; have HB1 := Lib.hid (HBEL.out.trans (Kpt.below hk1 HBEL.out.size HFF.out)); clear ht1 hk1))
      go_roundw
      case rel => exact ⟨k + 1, L', by omega, by go_num, HT1.out, HG1.out, HB1.out⟩
      case measure => simp [intOf]; omega
    · obtain rfl : k = l1.length := by omega
      have hltI : ¬ (l1.length : Int) < (l1.length : Int) := by omega
      have hg0 : GoodL 635000 L := hgd.mono (by omega)
      have HBEL := Lib.hid hbel
      have HTW := Lib.hid htw
      have HCL := Lib.hid (htw.askA (fun v qs S hl => lClone_any hl hg0 (by omega)))
      have HTP := Lib.hid (show Below wr.heap.size w w → True from fun _ => trivial)
      have HHA := Lib.hid (fun W (g : Nat) M (h : TwoPP F W a g L M) => h.askA (fun v qs S hl => lHeight_any hl hg0))
      have HDA := Lib.hid (fun W (g : Nat) M (h : TwoPP F W a g L M) => h.askA (fun v qs S hl => lHead_any hl hg0 (by omega)))
      have HCT := Lib.hid (fun W (g : Nat) (h : TwoPP F W a g L L) => h.opB (fun v qs S hl hS => lCut_any hl hg0 (by omega) y hS))
      have hg2 := hg0.cut y
      have HHC := Lib.hid (fun W (g : Nat) (h : TwoPP F W a g L (cutL L y)) => h.askB (fun v qs S hl => lHeight_any hl hg2))
      have HDC := Lib.hid (fun W (g : Nat) (h : TwoPP F W a g L (cutL L y)) => h.askB (fun v qs S hl => lHead_any hl hg2 (by omega)))
      rw [topL_cut] at HHC
      rw [headL_cutL] at HDC
      have hst : topL L = topL (cutL L y) ∧ headL L = headL (cutL L y) := ⟨(topL_cut L y).symm, (headL_cutL L y).symm⟩
      have HST := Lib.hid hst
      have HCB := Lib.hid (fun h => cutL_base (L := L) (x := y) h)
      have HG0 := Lib.hid hg0
      have HG2 := Lib.hid hg2
      clear hgd htw hbel hg0 hg2 hst HTP
      generalize cutL L y = Lc at *
      generalize cutE L y = ce at *
      obtain ⟨tp, htp⟩ : ∃ tp, tp = topL L := ⟨_, rfl⟩
      obtain ⟨hd, hhd⟩ : ∃ hd, hd = headL L := ⟨_, rfl⟩
      rw [← htp] at HHA HHC
      rw [← hhd] at HDA HDC
      clear htp hhd
      go_wp2_with (first
        | (go_at_call 17; refine HCL.out.mono ?_; rintro e w1 ⟨g, v1, q1, rfl, hg1, hb1⟩; have HT1 := Lib.hid (Two11.cloned HTW.out hg1 hb1); have HB1 := Lib.hid (HBEL.out.trans (hb1.mono HBEL.out.size)); clear hg1 hb1)
        | (go_at_call 18; refine (HHA.out _ g _ HT1.out).mono ?_; rintro e w2 ⟨rfl, hb2⟩; have HT2 := Lib.hid (HT1.out.below hb2); have HB2 := Lib.hid (HB1.out.trans (hb2.mono HB1.out.size)); clear hb2 HT1)
        | (go_at_call 19; refine (HDA.out _ g _ HT2.out).mono ?_; rintro e w3 ⟨rfl, hb3⟩; have HT3 := Lib.hid (HT2.out.below hb3); have HB3 := Lib.hid (HB2.out.trans (hb3.mono HB2.out.size)); clear hb3 HT2)
        | (go_at_call 20; refine (HCT.out _ g HT3.out).mono ?_; rintro e w4 ⟨rfl, ht4, hk4⟩; have HT4 := Lib.hid ht4; have HB4 := Lib.hid (HB3.out.trans (Kpt.below hk4 HB3.out.size HFF.out)); clear ht4 hk4)
        | (go_at_call 18; refine (HHC.out _ g HT4.out).mono ?_; rintro e w5 ⟨rfl, hb5⟩; have HT5 := Lib.hid (HT4.out.below hb5); have HB5 := Lib.hid (HB4.out.trans (hb5.mono HB4.out.size)); clear hb5 HT4)
        | (go_at_call 19; refine (HDC.out _ g HT5.out).mono ?_; rintro e w6 ⟨rfl, hb6⟩; have HT6 := Lib.hid (HT5.out.below hb6); have HB6 := Lib.hid (HB5.out.trans (hb6.mono HB5.out.size)); clear hb6))
      clear HCL HHA HDA HCT HHC HDC HTW HBEL
      go_loopw [14] (fun i wr => ∃ (k : Nat) (M N : Ldg), k ≤ l2.length ∧ i = .int .i64 k ∧ TwoPP F wr a g M N ∧ GoodL (635000 + 21000 * k) M ∧ GoodL (635000 + 21000 * k) N ∧ (topL M = topL N ∧ headL M = headL N) ∧ N.base = Lc.base ∧ Below w.heap.size w wr) (fun i _ => l2.length - (intOf i).toNat)
      case atStart => exact ⟨0, L, Lc, Nat.zero_le _, rfl, HT6.out, HG0.out, HG2.out, HST.out, rfl, HB6.out⟩
      case round =>
        obtain ⟨k, M, N, hk, rfl, htw, hgm, hgn, hmn, hnb, hbel⟩ := hrel
        by_cases hlt : k < l2.length
        · have hltI : (k : Int) < (l2.length : Int) := by omega
          obtain ⟨ad, rfl, hbl, A1, c1, D1, d1, z0, z1, z2, z3, z4, z5, z6, hbk⟩ := HQ2.out k hlt
          have hl7 : (ad.add (k * 7)).block < w.heap.size := by rw [block_add]; exact hbl
          have hfk := HFW2.out _ (List.getElem_mem hlt)
          have hok := HOK2.out _ (List.getElem_mem hlt)
          have HBEL := Lib.hid hbel
          have HY := Lib.hid (show ∀ W, Below w.heap.size w W → W.cell? (ad.add (k * 7)) = some (.bool l2[k].cut) ∧ W.cell? ⟨(ad.add (k * 7)).block, (ad.add (k * 7)).off + 1, none⟩ = some (.bool l2[k].right) ∧ W.cell? ⟨(ad.add (k * 7)).block, (ad.add (k * 7)).off + 2, none⟩ = some (.int .i64 l2[k].h) ∧ W.cell? ⟨(ad.add (k * 7)).block, (ad.add (k * 7)).off + 3, none⟩ = some (.int .i64 l2[k].b.h) ∧ W.cell? ⟨(ad.add (k * 7)).block, (ad.add (k * 7)).off + 4, none⟩ = some (.string (strB l2[k].b.prev)) ∧ W.cell? ⟨(ad.add (k * 7)).block, (ad.add (k * 7)).off + 5, none⟩ = some (.slice A1 l2[k].b.reqs.length c1) ∧ W.cell? ⟨(ad.add (k * 7)).block, (ad.add (k * 7)).off + 6, none⟩ = some (.slice D1 l2[k].b.ress.length d1) from fun W hW => ⟨cellM hW hl7 z0, cellM (p := ⟨_, _, none⟩) hW hl7 z1, cellM (p := ⟨_, _, none⟩) hW hl7 z2, cellM (p := ⟨_, _, none⟩) hW hl7 z3, cellM (p := ⟨_, _, none⟩) hW hl7 z4, cellM (p := ⟨_, _, none⟩) hW hl7 z5, cellM (p := ⟨_, _, none⟩) hW hl7 z6⟩)
          clear z0 z1 z2 z3 z4 z5 z6
          obtain ⟨z0, z1, z2, z3, z4, z5, z6⟩ := HY.out _ HBEL.out
          generalize l2[k] = x at *
          have hKb : 635000 + 21000 * k ≤ 10000000 := by omega
          have hKc : 635000 + 21000 * k + 21000 ≤ 10000000 := by omega
          have hfq := actB_few (L := M) hfk
          have hok2 := actB_ok hgm hok
          have hgm1 := hgm.app hfq hok2
          have hgn1 := hgn.app hfq hok2
          have hlk := app_like hmn.1 hmn.2 (actB M x)
          have HAM := Lib.hid (fun (G : Nat → Prop) W (h : TwoPP G W a g M N) (hbl : BlkK W (actB M x) A1 c1 D1 d1) => h.opA (fun v qs S hl hS => lAppend_any hl hgm hKb (actB M x) A1 c1 D1 d1 hbl hfq hS))
          have HAN := Lib.hid (fun (G : Nat → Prop) W (h : TwoPP G W a g (appL M (actB M x)) N) (hbl : BlkK W (actB M x) A1 c1 D1 d1) => h.opB (fun v qs S hl hS => lAppend_any hl hgn hKb (actB M x) A1 c1 D1 d1 hbl hfq hS))
          rw [← appE_like hmn.1 hmn.2] at HAN
          have HDM := Lib.hid (fun (G : Nat → Prop) W (h : TwoPP G W a g (appL M (actB M x)) (appL N (actB M x))) => h.askA (fun v qs S hl => lHead_any hl hgm1 hKc))
          have HDN := Lib.hid (fun (G : Nat → Prop) W (h : TwoPP G W a g (appL M (actB M x)) (appL N (actB M x))) => h.askB (fun v qs S hl => lHead_any hl hgn1 hKc))
          rw [← hlk.2] at HDN
          have HNX := Lib.hid (show ∀ W, TwoPP F W a g (appL M (actB M x)) (appL N (actB M x)) → Below w.heap.size w W → ∃ (j : Nat) (M' N' : Ldg), j ≤ l2.length ∧ (.int .i64 ((k : Int) + 1) : Value) = .int .i64 j ∧ TwoPP F W a g M' N' ∧ GoodL (635000 + 21000 * j) M' ∧ GoodL (635000 + 21000 * j) N' ∧ (topL M' = topL N' ∧ headL M' = headL N') ∧ N'.base = Lc.base ∧ Below w.heap.size w W from fun W h1 h2 =>
            ⟨k + 1, _, _, by omega, by go_num, h1, by rw [Nat.mul_add, Nat.mul_one, ← Nat.add_assoc]; exact hgm1, by rw [Nat.mul_add, Nat.mul_one, ← Nat.add_assoc]; exact hgn1, hlk, by rw [appL_base]; exact hnb, h2⟩)
          have HHT := Lib.hid (fun (G : Nat → Prop) W (h : TwoPP G W a g M N) => h.askA (fun v qs S hl => lHeight_any hl hgm))
          have HHD := Lib.hid (fun (G : Nat → Prop) W (h : TwoPP G W a g M N) => h.askA (fun v qs S hl => lHead_any hl hgm hKb))
          have HBK := Lib.hid (fun W (h : Below w.heap.size w W) => hbk.below h)
          have hbnd := hgm.b
          have hsum : IntKind.i64.wrap (topL M + 1) = topL M + 1 := by rw [IntKind.wrap_i64]; unfold topL at hbnd ⊢; omega
          have hbx := alloc1B wr (.cells #[.int .i64 x.b.h, .string (strB x.b.prev), .slice A1 x.b.reqs.length c1, .slice D1 x.b.ress.length d1] 33)
          have hxx := heap_alloc_new wr (.cells #[.int .i64 x.b.h, .string (strB x.b.prev), .slice A1 x.b.reqs.length c1, .slice D1 x.b.ress.length d1] 33)
          have htt := htw.more hbx
          have hzz : (wr.alloc (.cells #[.int .i64 x.b.h, .string (strB x.b.prev), .slice A1 x.b.reqs.length c1, .slice D1 x.b.ress.length d1] 33)).heap.size = wr.heap.size + 1 := World.size_alloc _ _
          generalize hw1 : wr.alloc (.cells #[.int .i64 x.b.h, .string (strB x.b.prev), .slice A1 x.b.reqs.length c1, .slice D1 x.b.ress.length d1] 33) = w1 at *
          have HW1 := Lib.hid hw1
          have HBX := Lib.hid hbx
          have HXX := Lib.hid hxx
          obtain ⟨y0, y1, -, -, -, -, -⟩ := HY.out _ (HBEL.out.trans (hbx.mono HBEL.out.size))
          obtain ⟨G, hG⟩ : ∃ G : Nat → Prop, G = fun k => F k ∨ wr.heap.size ≤ k ∧ k < w1.heap.size := ⟨_, rfl⟩
          rw [← hG] at htt
          have HGF := Lib.hid (show ∀ k, F k → G k from fun k hk => by rw [hG]; exact .inl hk)
          have HGN := Lib.hid (show G wr.heap.size by rw [hG]; exact .inr ⟨Nat.le_refl _, by omega⟩)
          have HTT := Lib.hid htt
          have HLF := Lib.hid (show ∀ k, k < w.heap.size → G k from fun k hk => HGF.out k (HFF.out k hk))
          clear hbx hxx htt hzz hw1 hG htw hgm hgn hmn hnb hbel hfk hok hfq hok2 hgm1 hgn1 hlk hbk hbnd z2
          rcases hr : x.right with _ | _
          · have hab : actB M x = x.b := by unfold actB; rw [hr]; rfl
            rw [hr] at z1 y1
            rw [hab] at HAM HAN HDM HDN HNX
            clear hr hab
            generalize appL M x.b = M' at *
            generalize appL N x.b = N' at *
            generalize headL M' = hm' at *
            generalize topL M = tm at *
            generalize headL M = hm at *
            go_upto_region 20 with fail
            rw [HW1.out]
            go_upto_region 23 with fail
            have HTC := Lib.hid (HTT.out.below ((Below.refl _ _).drew))
            have HKC := Lib.hid (show Kpt G w1 w1.drew from Off.of_below ((Below.refl _ _).drew))
            have HKB := Lib.hid (HBX.out)
            have HEK := Lib.hid (show Below w.heap.size w w1 from HBEL.out.trans (HKB.out.mono HBEL.out.size))
            go_region_held3 (fun W => W.cell? ⟨wr.heap.size, 0, none⟩ = some (.int .i64 x.b.h) ∧ W.cell? ⟨wr.heap.size, 1, none⟩ = some (.string (strB x.b.prev)) ∧ W.cell? ⟨wr.heap.size, 2, none⟩ = some (.slice A1 x.b.reqs.length c1) ∧ W.cell? ⟨wr.heap.size, 3, none⟩ = some (.slice D1 x.b.ress.length d1)) (first | (obtain ⟨e0, e1, e2, e3, -⟩ := rows4 (Kpt.block' HKC.out HXX.out HGN.out); exact ⟨e0, e1, e2, e3⟩)) (first
              | (go_at_call 21; refine (HAM.out G _ HTC.out (HBK.out _ HEK.out.drew)).mono ?_; rintro e wa ⟨rfl, ha1, hk1⟩; have HA1 := Lib.hid ha1; replace HKC := Lib.hid (HKC.out.trans hk1); clear ha1 hk1 HTC)
              | (go_at_call 21; refine (HAN.out G _ HA1.out (HBK.out _ (HEK.out.trans (Kpt.below HKC.out HEK.out.size HLF.out)))).mono ?_; rintro e wb ⟨rfl, ha2, hk2⟩; have HA2 := Lib.hid ha2; replace HKC := Lib.hid (HKC.out.trans hk2); clear ha2 hk2 HA1)
              | (go_at_call 19; refine (HDM.out G _ HA2.out).mono ?_; rintro e wd ⟨rfl, hb8⟩; have HA3 := Lib.hid (HA2.out.below hb8); replace HKC := Lib.hid (HKC.out.trans (Off.of_below hb8)); clear hb8 HA2)
              | (go_at_call 19; refine (HDN.out G _ HA3.out).mono ?_; rintro e we ⟨rfl, hb9⟩; have HA4 := Lib.hid (HA3.out.below hb9); replace HKC := Lib.hid (HKC.out.trans (Off.of_below hb9)); clear hb9 HA3))
            go_wp2
            go_roundw
            case rel => exact HNX.out _ (HA4.out.less HGF.out) (HEK.out.trans (Kpt.below HKC.out HEK.out.size HLF.out))
            case measure => simp [intOf]; omega
          · have hab : actB M x = rightB M x.b := by unfold actB; rw [hr]; rfl
            rw [hr] at z1 y1
            rw [hab] at HAM HAN HDM HDN HNX
            have HBR := Lib.hid (fun W (h : BlkK W x.b A1 c1 D1 d1) => show BlkK W (rightB M x.b) A1 c1 D1 d1 from ⟨h.q, h.r⟩)
            rw [show agB (rightB M x.b) A1 c1 D1 d1 = .agg #[.int .i64 (topL M + 1), .string (strB (headL M)), .slice A1 x.b.reqs.length c1, .slice D1 x.b.ress.length d1] from rfl] at HAM HAN
            clear hr hab
            generalize rightB M x.b = rb at *
            generalize appL M rb = M' at *
            generalize appL N rb = N' at *
            generalize headL M' = hm' at *
            generalize topL M = tm at *
            generalize headL M = hm at *
            go_upto_region 20 with fail
            rw [HW1.out]
            obtain ⟨r0, r1, r2, r3, r4⟩ := rows4 HXX.out
            go_upto_region 22 with (go_at_call 18; refine (HHT.out G _ HTT.out).mono ?_; rintro e w2 ⟨rfl, hb2⟩; have HB2 := Lib.hid hb2; have HT2 := Lib.hid (HTT.out.below hb2); have HX2 := Lib.hid (heapB HXX.out hb2); clear hb2; obtain ⟨s0, s1, s2, s3, s4⟩ := rows4 HX2.out)
            have hx3 := set_cells (i := 0) (u := .int .i64 (tm + 1)) HX2.out
            have ho3 : Off G w2 (w2.setCell ⟨wr.heap.size, 0, none⟩ (.int .i64 (tm + 1))) := off_set HGN.out
            have ht3 := HT2.out.other ho3
            have hk3 : Below wr.heap.size wr (w2.setCell ⟨wr.heap.size, 0, none⟩ (.int .i64 (tm + 1))) := ((bel2M HBX.out HB2.out)).setCell (p := ⟨wr.heap.size, 0, none⟩) (Nat.le_refl _) _
            generalize w2.setCell ⟨wr.heap.size, 0, none⟩ (.int .i64 (tm + 1)) = w3 at *
            have HX3 := Lib.hid (show w3.heap[wr.heap.size]? = some (.cells #[.int .i64 (tm + 1), .string (strB x.b.prev), .slice A1 x.b.reqs.length c1, .slice D1 x.b.ress.length d1] 33 (0, 0)) from hx3)
            have HT3 := Lib.hid ht3
            have HK3 := Lib.hid hk3
            clear hx3 ho3 ht3 hk3 s0 s1 s2 s3 s4 r0 r1 r2 r3 r4 HT2
            go_upto_region 23 with (go_at_call 19; refine (HHD.out G _ HT3.out).mono ?_; rintro e w4 ⟨rfl, hb4⟩; have HB4 := Lib.hid hb4; have HT4 := Lib.hid (HT3.out.below hb4); have HX4 := Lib.hid (heapB HX3.out hb4); clear hb4; obtain ⟨s0, s1, s2, s3, s4⟩ := rows4 HX4.out)
            have hx5 := set_cells (i := 1) (u := .string (strB hm)) HX4.out
            have ho5 : Off G w4 (w4.setCell ⟨wr.heap.size, 1, none⟩ (.string (strB hm))) := off_set HGN.out
            have ht5 := HT4.out.other ho5
            have hk5 : Below wr.heap.size wr (w4.setCell ⟨wr.heap.size, 1, none⟩ (.string (strB hm))) := ((HK3.out.trans (HB4.out.mono HK3.out.size))).setCell (p := ⟨wr.heap.size, 1, none⟩) (Nat.le_refl _) _
            generalize w4.setCell ⟨wr.heap.size, 1, none⟩ (.string (strB hm)) = w5 at *
            have HX5 := Lib.hid (show w5.heap[wr.heap.size]? = some (.cells #[.int .i64 (tm + 1), .string (strB hm), .slice A1 x.b.reqs.length c1, .slice D1 x.b.ress.length d1] 33 (0, 0)) from hx5)
            have HT5 := Lib.hid ht5
            have HK5 := Lib.hid hk5
            clear hx5 ho5 ht5 hk5 s0 s1 s2 s3 s4 HT4
            have HTC := Lib.hid (HT5.out.below ((Below.refl _ _).drew))
            have HKC := Lib.hid (show Kpt G w5 w5.drew from Off.of_below ((Below.refl _ _).drew))
            have HKB := Lib.hid (HK5.out)
            have HEK := Lib.hid (show Below w.heap.size w w5 from HBEL.out.trans (HKB.out.mono HBEL.out.size))
            go_region_held3 (fun W => W.cell? ⟨wr.heap.size, 0, none⟩ = some (.int .i64 (tm + 1)) ∧ W.cell? ⟨wr.heap.size, 1, none⟩ = some (.string (strB hm)) ∧ W.cell? ⟨wr.heap.size, 2, none⟩ = some (.slice A1 x.b.reqs.length c1) ∧ W.cell? ⟨wr.heap.size, 3, none⟩ = some (.slice D1 x.b.ress.length d1)) (first | (obtain ⟨e0, e1, e2, e3, -⟩ := rows4 (Kpt.block' HKC.out HX5.out HGN.out); exact ⟨e0, e1, e2, e3⟩)) (first
              | (go_at_call 21; refine (HAM.out G _ HTC.out (HBR.out _ (HBK.out _ HEK.out.drew))).mono ?_; rintro e wa ⟨rfl, ha1, hk1⟩; have HA1 := Lib.hid ha1; replace HKC := Lib.hid (HKC.out.trans hk1); clear ha1 hk1 HTC)
              | (go_at_call 21; refine (HAN.out G _ HA1.out (HBR.out _ (HBK.out _ (HEK.out.trans (Kpt.below HKC.out HEK.out.size HLF.out))))).mono ?_; rintro e wb ⟨rfl, ha2, hk2⟩; have HA2 := Lib.hid ha2; replace HKC := Lib.hid (HKC.out.trans hk2); clear ha2 hk2 HA1)
              | (go_at_call 19; refine (HDM.out G _ HA2.out).mono ?_; rintro e wd ⟨rfl, hb8⟩; have HA3 := Lib.hid (HA2.out.below hb8); replace HKC := Lib.hid (HKC.out.trans (Off.of_below hb8)); clear hb8 HA2)
              | (go_at_call 19; refine (HDN.out G _ HA3.out).mono ?_; rintro e we ⟨rfl, hb9⟩; have HA4 := Lib.hid (HA3.out.below hb9); replace HKC := Lib.hid (HKC.out.trans (Off.of_below hb9)); clear hb9 HA3))
            go_wp2
            go_roundw
            case rel => exact HNX.out _ (HA4.out.less HGF.out) (HEK.out.trans (Kpt.below HKC.out HEK.out.size HLF.out))
            case measure => simp [intOf]; omega
        · obtain rfl : k = l2.length := by omega
          have hltI : ¬ (l2.length : Int) < (l2.length : Int) := by omega
          have HBEL := Lib.hid hbel
          have HBS := Lib.hid (htw.askB (fun v qs S hl => lBase_any hl))
          rw [hnb] at HBS
          by_cases hce : ce = 0
          · have hcb := HCB.out hce
            rw [hcb] at HBS
            subst hce
            clear htw hgm hgn hmn hnb hbel hcb HCB HST HG0 HG2
            go_wp2_with (first
              | (go_at_call 22; refine HBS.out.mono ?_; rintro e w7 ⟨rfl, hb7⟩; have HB7 := Lib.hid (HBEL.out.trans (hb7.mono HBEL.out.size)); clear hb7)
              | (go_at_call 14; refine (HW.out _).mono ?_; rintro e wz ⟨rfl, hbz⟩; have HBZ := Lib.hid (HB7.out.trans (hbz.mono HB7.out.size)); clear hbz))
            go_ret
            exact ⟨rfl, HBZ.out⟩
          · have hcn : (ce != 0) = true := by simpa using hce
            clear htw hgm hgn hmn hnb hbel hce HCB HST HG0 HG2
            go_wp2_with (first
              | (go_at_call 22; refine HBS.out.mono ?_; rintro e w7 ⟨rfl, hb7⟩; have HB7 := Lib.hid (HBEL.out.trans (hb7.mono HBEL.out.size)); clear hb7)
              | (go_at_call 14; refine (HW.out _).mono ?_; rintro e wz ⟨rfl, hbz⟩; have HBZ := Lib.hid (HB7.out.trans (hbz.mono HB7.out.size)); clear hbz))
            go_ret
            exact ⟨rfl, HBZ.out⟩

end Go.Proofs.Ytggbopgchlgidaa
