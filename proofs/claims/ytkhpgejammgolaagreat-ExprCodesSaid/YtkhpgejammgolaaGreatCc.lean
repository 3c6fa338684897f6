/- Cc: ETell4 ETell5 ETell3 ETell6 ETell7 ETell8 EFit ETell9 ELaw (made by shake.py). -/
import Derived.StillTailTactics
import Derived.Deep.RegionHeld3
import Derived.Test.YtkhpgejammgolaaGreatCb
/- Layer 5: what a part tells, by the program. (Made by gen/gentell.py.) -/
namespace Go.Proofs.YtkhpgejammgolaaGreat
open Go.RowKit
set_option linter.unusedVariables false
set_option linter.unusedSimpArgs false
set_option maxRecDepth 20000

set_option maxHeartbeats 600000 in
theorem tell_13 (FA : Option Addr) (fn FC : Nat) (VA : Option Addr) (vn VC : Nat) (ad : Addr) (n c : Nat) (nm : ByteArray) (v : Vl) (w : World) (A0 : Option Addr) (n0 c0 : Nat) (m0 : ByteArray) (y0 : Vl) (p0 : Int) (R0 : Vl × Int) (hq0 : ∀ W, Below w.heap.size w W → Kid W ad p0 A0 n0 c0 m0 y0) (h0 : ∀ W, Below w.heap.size w W → Calls Tryz.prog 148 #[agR FA fn FC VA vn VC, agX p0 A0 n0 c0 m0 y0] W (TellP R0 W)) (hv0 : R0.2 = 0 → okV R0.1) (A1 : Option Addr) (n1 c1 : Nat) (m1 : ByteArray) (y1 : Vl) (p1 : Int) (R1 : Vl × Int) (hq1 : ∀ W, Below w.heap.size w W → Kid W ⟨ad.block, ad.off + 8, none⟩ p1 A1 n1 c1 m1 y1) (h1 : ∀ W, Below w.heap.size w W → Calls Tryz.prog 148 #[agR FA fn FC VA vn VC, agX p1 A1 n1 c1 m1 y1] W (TellP R1 W)) (hv1 : R1.2 = 0 → okV R1.1) (A2 : Option Addr) (n2 c2 : Nat) (m2 : ByteArray) (y2 : Vl) (p2 : Int) (R2 : Vl × Int) (hq2 : ∀ W, Below w.heap.size w W → Kid W ⟨ad.block, ad.off + 16, none⟩ p2 A2 n2 c2 m2 y2) (h2 : ∀ W, Below w.heap.size w W → Calls Tryz.prog 148 #[agR FA fn FC VA vn VC, agX p2 A2 n2 c2 m2 y2] W (TellP R2 W)) (hv2 : R2.2 = 0 → okV R2.1) (hn : 2 < n) :
    Calls Tryz.prog 148 #[agR FA fn FC VA vn VC, agX 13 (some ad) n c nm v] w (TellP (if R0.2 ≠ 0 then (vZero, R0.2) else (if R0.1.b = true then R1 else R2)) w) := by
  have hi1 : (1 : Int) < (n : Int) := by omega
  have hn1 : 1 < n := by omega
  have hi2 : (2 : Int) < (n : Int) := by omega
  have hsf := fun (w : World) (a : Addr) (m : Mode) (b : Nat) => run_store Tryz.prog w a (.float .f64 b) m rfl
  have hi : (0 : Int) < (n : Int) := by omega
  have hn0 : 0 < n := by omega
  have HQ1 := Lib.hid hq1
  have H1 := Lib.hid h1
  clear hq1 h1 hv1
  have HQ2 := Lib.hid hq2
  have H2 := Lib.hid h2
  clear hq2 h2 hv2
  obtain ⟨r1, r2⟩ := R0
  have H0 := Lib.hid h0
  clear h0
  by_cases hz : r2 = 0
  · subst hz
    rw [if_neg (fun h => h rfl)]
    have h0 := fun W hb => (H0.out W hb).mono (fun e w' h => (⟨h.1.trans (if_pos rfl), h.2⟩ : e = .returned (agV r1) ∧ Below W.heap.size W w'))
    clear H0
    have H0 := Lib.hid h0
    clear h0 hv0
    rcases hb : r1.b with _ | _
    · rw [if_neg (by decide)]
      have HBB := Lib.hid hb
      clear hb
      have htb : TB w FA fn FC VA vn VC 13 (some ad) n c nm v (((w.alloc (.cells #[.slice FA fn FC, .slice VA vn VC] 126)).alloc (.cells #[.int .i64 13, .slice (some ad) n c, .string nm, .int .i64 v.k, .int .i64 v.i, .bool v.b, .string v.s, .float .f64 v.n] 27)).alloc (.cells #[.int .i64 0, .int .i64 0, .bool false, .string { data := #[] }, .float .f64 0] 25)) := TB_new w FA fn FC VA vn VC 13 (some ad) n c nm v
      have HHELD := Lib.hid (fun W (hb : TB w FA fn FC VA vn VC 13 (some ad) n c nm v W) => (show THeld w FA fn FC VA vn VC ad n c p0 A0 n0 c0 m0 y0 W from let q := hq0 W hb.1; ⟨hb.2.2.1, hb.2.2.2.1, hb.2.2.2.2.1.2.1, q.1, q.2.1, q.2.2.1, q.2.2.2.1, q.2.2.2.2.1, q.2.2.2.2.2.1, q.2.2.2.2.2.2.1, q.2.2.2.2.2.2.2⟩))
      clear hq0
      have HKP := Lib.hid (fun (W W' : World) (h : TB w FA fn FC VA vn VC 13 (some ad) n c nm v W ∧ THeld w FA fn FC VA vn VC ad n c p0 A0 n0 c0 m0 y0 W) (hb : Below W.heap.size W W') => And.intro (h.1.below hb) (HHELD.out _ (h.1.below hb)))
      have HKS := Lib.hid (fun (W : World) (b : Nat) (u0 u1 u2 u3 u4 : Value) (hge : w.heap.size + 3 ≤ b) (h : TB w FA fn FC VA vn VC 13 (some ad) n c nm v W ∧ THeld w FA fn FC VA vn VC ad n c p0 A0 n0 c0 m0 y0 W) => let hb := below_set5 (Below.refl (w.heap.size + 3) W) hge u0 u1 u2 u3 u4; And.intro (h.1.below3 hb) (HHELD.out _ (h.1.below3 hb)))
      go_enter Tryz.func148, Tryz.ntmps148
      go_upto_region 6 with fail
      generalize ((w.alloc (.cells #[.slice FA fn FC, .slice VA vn VC] 126)).alloc (.cells #[.int .i64 13, .slice (some ad) n c, .string nm, .int .i64 v.k, .int .i64 v.i, .bool v.b, .string v.s, .float .f64 v.n] 27)).alloc (.cells #[.int .i64 0, .int .i64 0, .bool false, .string { data := #[] }, .float .f64 0] 25) = wb at *
      go_cut [5] from 23 to 28 (fun s5 wx => ∃ b, s5 = .pointer (some ⟨b, 0, none⟩) ∧ w.heap.size + 3 ≤ b ∧ TB w FA fn FC VA vn VC 13 (some ad) n c nm v wx ∧ Bx wx b r1)
      case first =>
        have hS0 : TB w FA fn FC VA vn VC 13 (some ad) n c nm v wb.drew ∧ THeld w FA fn FC VA vn VC ad n c p0 A0 n0 c0 m0 y0 wb.drew := ⟨htb.below (Below.refl _ _).drew, HHELD.out _ (htb.below (Below.refl _ _).drew)⟩
        refine wp_region_held_drew (S := (fun W => TB w FA fn FC VA vn VC 13 (some ad) n c nm v W ∧ THeld w FA fn FC VA vn VC ad n c p0 A0 n0 c0 m0 y0 W)) (by kernel_rfl) (hS0) (fun hHeld => ?_)
        refine wpAnyH_take (i := 0) (oi := ?oi170) (v := ?v170) ?hi170 (by kernel_rfl) (by kernel_rfl) (by kernel_rfl) ?hQ170 (Or.inl ⟨?hw170, ?hy170⟩) (by assumption) ?rest170
        case hi170 => (simp only [gA, gB, gC]; rfl)
        case hQ170 => exact fun _ _ _ h => h
        case hw170 => rfl
        case hy170 => (intro w hSw; (try dsimp only at hSw); go_simp; try with_reducible rfl)
        (try simp only [Act.put, sA, sB, sC])
        refine wpAnyH_take (i := 1) (oi := ?oi171) (v := ?v171) ?hi171 (by kernel_rfl) (by kernel_rfl) (by kernel_rfl) ?hQ171 (Or.inl ⟨?hw171, ?hy171⟩) (by assumption) ?rest171
        case hi171 => (simp only [gA, gB, gC]; rfl)
        case hQ171 => exact fun _ _ _ h => h
        case hw171 => rfl
        case hy171 => (intro w hSw; (try dsimp only at hSw); go_simp; try with_reducible rfl)
        (try simp only [Act.put, sA, sB, sC])
        refine wpAnyH_take (i := 2) (oi := ?oi172) (v := ?v172) ?hi172 (by kernel_rfl) (by kernel_rfl) (by kernel_rfl) ?hQ172 (Or.inl ⟨?hw172, ?hy172⟩) (by assumption) ?rest172
        case hi172 => (simp only [gA, gB, gC]; rfl)
        case hQ172 => exact fun _ _ _ h => h
        case hw172 => rfl
        case hy172 => (intro w hSw; (try dsimp only at hSw); go_simp; try with_reducible rfl)
        (try simp only [Act.put, sA, sB, sC])
        refine wpAnyH_take (i := 3) (oi := ?oi173) (v := ?v173) ?hi173 (by kernel_rfl) (by kernel_rfl) (by kernel_rfl) ?hQ173 (Or.inl ⟨?hw173, ?hy173⟩) (by assumption) ?rest173
        case hi173 => (simp only [gA, gB, gC]; rfl)
        case hQ173 => exact fun _ _ _ h => h
        case hw173 => rfl
        case hy173 => (intro w hSw; (try dsimp only at hSw); go_simp; try with_reducible rfl)
        (try simp only [Act.put, sA, sB, sC])
        refine wpAnyH_take (i := 4) (oi := ?oi174) (v := ?v174) ?hi174 (by kernel_rfl) (by kernel_rfl) (by kernel_rfl) ?hQ174 (Or.inl ⟨?hw174, ?hy174⟩) (by assumption) ?rest174
        case hi174 => (simp only [gA, gB, gC]; rfl)
        case hQ174 => exact fun _ _ _ h => h
        case hw174 => rfl
        case hy174 => (intro w hSw; (try dsimp only at hSw); go_simp; try with_reducible rfl)
        (try simp only [Act.put, sA, sB, sC])
        refine wpAnyH_ready (rs := [5, 6]) (by kernel_rfl) (by simp) ?_
        refine AllReadyH.cons (o := ?o175) ?ho175 (fun K hK => ?st175) (AllReadyH.cons (o := ?o176) ?ho176 (fun K hK => ?st176) AllReadyH.nil)
        case ho175 => (simp only [gA, gB, gC]; rfl)
        case ho176 => (simp only [gA, gB, gC]; rfl)
        · go_simp
          refine (H0.out _ (And.left (And.left hHeld))).mono ?_; rintro e wA ⟨rfl, hbA⟩; have hSA := HKP.out _ _ hHeld hbA
          refine hK.out _ _ ?_ (fun hHeld => ?_)
          · (try dsimp only); exact hSA
          clear hK K
          (try simp only [Act.put, sA, sB, sC])
          refine wpAnyH_ready (rs := [6]) (by kernel_rfl) (by simp) ?_
          refine AllReadyH.cons (o := ?o177) ?ho177 (fun K hK => ?st177) AllReadyH.nil
          case ho177 => (simp only [gA, gB, gC]; rfl)
          go_simp
          refine hK.out _ _ ?_ (fun hHeld => ?_)
          · (try dsimp only); exact HKP.out _ _ hSA (alloc1 _ _)
          clear hK K
          (try simp only [Act.put, sA, sB, sC])
          refine wpAnyH_ready (rs := [7]) (by kernel_rfl) (by simp) ?_
          refine AllReadyH.cons (o := ?o178) ?ho178 (fun K hK => ?st178) AllReadyH.nil
          case ho178 => (simp only [gA, gB, gC]; rfl)
          go_simp
          refine hK.out _ _ ?_ (fun hHeld => ?_)
          · (try dsimp only); exact HKP.out _ _ hSA (alloc1 _ _)
          clear hK K
          (try simp only [Act.put, sA, sB, sC])
          refine wpAnyH_done (by kernel_rfl) ?_ _
          go_wp2_with fail
          go_meet
          exact ⟨_, rfl, hSA.1.2.1, hHeld.1, Bx.new _ r1⟩
        · go_simp
          refine hK.out _ _ ?_ (fun hHeld => ?_)
          · (try dsimp only); exact HKP.out _ _ hS0 (alloc1 _ _)
          clear hK K
          (try simp only [Act.put, sA, sB, sC])
          refine wpAnyH_ready (rs := [5]) (by kernel_rfl) (by simp) ?_
          refine AllReadyH.cons (o := ?o179) ?ho179 (fun K hK => ?st179) AllReadyH.nil
          case ho179 => (simp only [gA, gB, gC]; rfl)
          go_simp
          refine (H0.out _ (And.left (And.left hHeld))).mono ?_; rintro e wA ⟨rfl, hbA⟩; have hSA := HKP.out _ _ hHeld hbA; obtain ⟨e0, e1, e2, e3, e4, ef⟩ := newcells hbA
          refine hK.out _ _ ?_ (fun hHeld => ?_)
          · (try dsimp only); exact hSA
          clear hK K
          (try simp only [Act.put, sA, sB, sC])
          refine wpAnyH_ready (rs := [7]) (by kernel_rfl) (by simp) ?_
          refine AllReadyH.cons (o := ?o180) ?ho180 (fun K hK => ?st180) AllReadyH.nil
          case ho180 => (simp only [gA, gB, gC]; rfl)
          go_simp
          refine hK.out _ _ ?_ (fun hHeld => ?_)
          · (try dsimp only); exact HKS.out _ _ _ _ _ _ _ htb.2.1 hSA
          clear hK K
          (try simp only [Act.put, sA, sB, sC])
          refine wpAnyH_done (by kernel_rfl) ?_ _
          go_wp2_with fail
          go_meet
          exact ⟨_, rfl, htb.2.1, hHeld.1, bx_set e0 e1 e2 e3 e4⟩
      case rest =>
        clear htb HHELD HKP HKS
        obtain ⟨b, rfl, hbge, hTB, hx0, hx1, hx2, hx3, hx4⟩ := hcut
        obtain ⟨d0, d1, d2, d3, d4, d5, d6, d7⟩ := hTB.2.2.2.2.1
        have g0 := hTB.2.2.1
        have g1 := hTB.2.2.2.1
        have hb := HBB.out
        rw [hb] at hx2
        clear hb
        obtain ⟨s1, s2⟩ := R2
        by_cases hz2 : s2 = 0
        · subst hz2
          have h2 := fun W hb => (H2.out W hb).mono (fun e w' h => (⟨h.1.trans (if_pos rfl), h.2⟩ : e = .returned (agV s1) ∧ Below W.heap.size W w'))
          clear H2
          have H2 := Lib.hid h2
          clear h2
          have HT := Lib.hid (fun W (hb : TC w FA fn FC VA vn VC 13 (some ad) n c nm v W) => (show THeldK w FA fn FC VA vn VC 13 ad n c ⟨ad.block, ad.off + 16, none⟩ p2 A2 n2 c2 m2 y2 W from let q := HQ2.out W hb.1; ⟨hb.2.2.1, hb.2.2.2.1, hb.2.2.2.2.1, hb.2.2.2.2.2.1, q.1, q.2.1, q.2.2.1, q.2.2.2.1, q.2.2.2.2.1, q.2.2.2.2.2.1, q.2.2.2.2.2.2.1, q.2.2.2.2.2.2.2⟩))
          have HK1 := Lib.hid (fun (W W' : World) (h : (TC w FA fn FC VA vn VC 13 (some ad) n c nm v W ∧ THeldK w FA fn FC VA vn VC 13 ad n c ⟨ad.block, ad.off + 16, none⟩ p2 A2 n2 c2 m2 y2 W)) (hb : Below W.heap.size W W') => (show (TC w FA fn FC VA vn VC 13 (some ad) n c nm v W' ∧ THeldK w FA fn FC VA vn VC 13 ad n c ⟨ad.block, ad.off + 16, none⟩ p2 A2 n2 c2 m2 y2 W') from ⟨h.1.below2 (hb.mono h.1.2.1), HT.out _ (h.1.below2 (hb.mono h.1.2.1))⟩))
          have HKZ := Lib.hid (fun (W : World) (u0 u1 u2 u3 u4 : Value) (h : (TC w FA fn FC VA vn VC 13 (some ad) n c nm v W ∧ THeldK w FA fn FC VA vn VC 13 ad n c ⟨ad.block, ad.off + 16, none⟩ p2 A2 n2 c2 m2 y2 W)) => let hb := below_set5 (Below.refl (w.heap.size + 2) W) (show w.heap.size + 2 ≤ w.heap.size + 1 + 1 by omega) u0 u1 u2 u3 u4; (show (TC w FA fn FC VA vn VC 13 (some ad) n c nm v (((((W.setCell ⟨w.heap.size + 1 + 1, 0, none⟩ u0).setCell ⟨w.heap.size + 1 + 1, 1, none⟩ u1).setCell ⟨w.heap.size + 1 + 1, 2, none⟩ u2).setCell ⟨w.heap.size + 1 + 1, 3, none⟩ u3).setCell ⟨w.heap.size + 1 + 1, 4, none⟩ u4) ∧ THeldK w FA fn FC VA vn VC 13 ad n c ⟨ad.block, ad.off + 16, none⟩ p2 A2 n2 c2 m2 y2 (((((W.setCell ⟨w.heap.size + 1 + 1, 0, none⟩ u0).setCell ⟨w.heap.size + 1 + 1, 1, none⟩ u1).setCell ⟨w.heap.size + 1 + 1, 2, none⟩ u2).setCell ⟨w.heap.size + 1 + 1, 3, none⟩ u3).setCell ⟨w.heap.size + 1 + 1, 4, none⟩ u4)) from ⟨h.1.below2 hb, HT.out _ (h.1.below2 hb)⟩))
          have hS1 : (fun W => (TC w FA fn FC VA vn VC 13 (some ad) n c nm v W ∧ THeldK w FA fn FC VA vn VC 13 ad n c ⟨ad.block, ad.off + 16, none⟩ p2 A2 n2 c2 m2 y2 W)) wc.drew := ⟨hTB.tc.below2 (Below.refl _ _).drew, HT.out _ (hTB.tc.below2 (Below.refl _ _).drew)⟩
          have HTB := Lib.hid hTB
          go_wp2_with fail
          refine wp_region_held_drew (S := (fun W => (TC w FA fn FC VA vn VC 13 (some ad) n c nm v W ∧ THeldK w FA fn FC VA vn VC 13 ad n c ⟨ad.block, ad.off + 16, none⟩ p2 A2 n2 c2 m2 y2 W))) (by kernel_rfl) (hS1) (fun hHeld => ?_)
          refine wpAnyH_take (i := 0) (oi := ?oi144) (v := ?v144) ?hi144 (by kernel_rfl) (by kernel_rfl) (by kernel_rfl) ?hQ144 (Or.inl ⟨?hw144, ?hy144⟩) (by assumption) ?rest144
          case hi144 => (simp only [gA, gB, gC]; rfl)
          case hQ144 => exact fun _ _ _ h => h
          case hw144 => rfl
          case hy144 => (intro w hSw; (try dsimp only at hSw); go_simp; try with_reducible rfl)
          (try simp only [Act.put, sA, sB, sC])
          refine wpAnyH_take (i := 1) (oi := ?oi145) (v := ?v145) ?hi145 (by kernel_rfl) (by kernel_rfl) (by kernel_rfl) ?hQ145 (Or.inl ⟨?hw145, ?hy145⟩) (by assumption) ?rest145
          case hi145 => (simp only [gA, gB, gC]; rfl)
          case hQ145 => exact fun _ _ _ h => h
          case hw145 => rfl
          case hy145 => (intro w hSw; (try dsimp only at hSw); go_simp; try with_reducible rfl)
          (try simp only [Act.put, sA, sB, sC])
          refine wpAnyH_take (i := 2) (oi := ?oi146) (v := ?v146) ?hi146 (by kernel_rfl) (by kernel_rfl) (by kernel_rfl) ?hQ146 (Or.inl ⟨?hw146, ?hy146⟩) (by assumption) ?rest146
          case hi146 => (simp only [gA, gB, gC]; rfl)
          case hQ146 => exact fun _ _ _ h => h
          case hw146 => rfl
          case hy146 => (intro w hSw; (try dsimp only at hSw); go_simp; try with_reducible rfl)
          (try simp only [Act.put, sA, sB, sC])
          refine wpAnyH_take (i := 3) (oi := ?oi147) (v := ?v147) ?hi147 (by kernel_rfl) (by kernel_rfl) (by kernel_rfl) ?hQ147 (Or.inl ⟨?hw147, ?hy147⟩) (by assumption) ?rest147
          case hi147 => (simp only [gA, gB, gC]; rfl)
          case hQ147 => exact fun _ _ _ h => h
          case hw147 => rfl
          case hy147 => (intro w hSw; (try dsimp only at hSw); go_simp; try with_reducible rfl)
          (try simp only [Act.put, sA, sB, sC])
          refine wpAnyH_take (i := 4) (oi := ?oi148) (v := ?v148) ?hi148 (by kernel_rfl) (by kernel_rfl) (by kernel_rfl) ?hQ148 (Or.inl ⟨?hw148, ?hy148⟩) (by assumption) ?rest148
          case hi148 => (simp only [gA, gB, gC]; rfl)
          case hQ148 => exact fun _ _ _ h => h
          case hw148 => rfl
          case hy148 => (intro w hSw; (try dsimp only at hSw); go_simp; try with_reducible rfl)
          (try simp only [Act.put, sA, sB, sC])
          refine wpAnyH_ready (rs := [5]) (by kernel_rfl) (by simp) ?_
          refine AllReadyH.cons (o := ?o149) ?ho149 (fun K hK => ?st149) AllReadyH.nil
          case ho149 => (simp only [gA, gB, gC]; rfl)
          go_simp
          refine (H2.out _ hHeld.1.1).mono ?_; rintro e w2 ⟨rfl, hb2⟩; obtain ⟨ou0, ou1, ou2, ou3, ou4, ov0, ov1, ov2, ov3, ov4, ovf⟩ := TB.out ((HTB.out.below (Below.refl _ _).drew).below hb2)
          refine hK.out _ _ ?_ (fun hHeld => ?_)
          · (try dsimp only); exact HK1.out _ _ hHeld hb2
          clear hK K
          (try simp only [Act.put, sA, sB, sC])
          refine wpAnyH_ready (rs := [6]) (by kernel_rfl) (by simp) ?_
          refine AllReadyH.cons (o := ?o150) ?ho150 (fun K hK => ?st150) AllReadyH.nil
          case ho150 => (simp only [gA, gB, gC]; rfl)
          go_simp
          refine hK.out _ _ ?_ (fun hHeld => ?_)
          · (try dsimp only); exact HKZ.out _ _ _ _ _ _ hHeld
          clear hK K
          (try simp only [Act.put, sA, sB, sC])
          refine wpAnyH_done (by kernel_rfl) ?_ _
          go_wp2_with fail
          exact bodyPost_ret (v := agV s1) (by simp [results, Tryz.results148, go_sem, ov0, ov1, ov2, ov3, ov4]) rfl ⟨rfl, TB.done ((HTB.out.below (Below.refl _ _).drew).below hb2) _ _ _ _ _⟩
        · have h2 := fun W hb => (H2.out W hb).mono (fun e w' h => (⟨h.1.trans (if_neg hz2), h.2⟩ : e = .panicked (PV s2) ∧ Below W.heap.size W w'))
          clear H2
          have H2 := Lib.hid h2
          have HZ2 := Lib.hid hz2
          clear h2 hz2
          have HT := Lib.hid (fun W (hb : TC w FA fn FC VA vn VC 13 (some ad) n c nm v W) => (show THeldK w FA fn FC VA vn VC 13 ad n c ⟨ad.block, ad.off + 16, none⟩ p2 A2 n2 c2 m2 y2 W from let q := HQ2.out W hb.1; ⟨hb.2.2.1, hb.2.2.2.1, hb.2.2.2.2.1, hb.2.2.2.2.2.1, q.1, q.2.1, q.2.2.1, q.2.2.2.1, q.2.2.2.2.1, q.2.2.2.2.2.1, q.2.2.2.2.2.2.1, q.2.2.2.2.2.2.2⟩))
          have HK1 := Lib.hid (fun (W W' : World) (h : (TC w FA fn FC VA vn VC 13 (some ad) n c nm v W ∧ THeldK w FA fn FC VA vn VC 13 ad n c ⟨ad.block, ad.off + 16, none⟩ p2 A2 n2 c2 m2 y2 W)) (hb : Below W.heap.size W W') => (show (TC w FA fn FC VA vn VC 13 (some ad) n c nm v W' ∧ THeldK w FA fn FC VA vn VC 13 ad n c ⟨ad.block, ad.off + 16, none⟩ p2 A2 n2 c2 m2 y2 W') from ⟨h.1.below2 (hb.mono h.1.2.1), HT.out _ (h.1.below2 (hb.mono h.1.2.1))⟩))
          have HKZ := Lib.hid (fun (W : World) (u0 u1 u2 u3 u4 : Value) (h : (TC w FA fn FC VA vn VC 13 (some ad) n c nm v W ∧ THeldK w FA fn FC VA vn VC 13 ad n c ⟨ad.block, ad.off + 16, none⟩ p2 A2 n2 c2 m2 y2 W)) => let hb := below_set5 (Below.refl (w.heap.size + 2) W) (show w.heap.size + 2 ≤ w.heap.size + 1 + 1 by omega) u0 u1 u2 u3 u4; (show (TC w FA fn FC VA vn VC 13 (some ad) n c nm v (((((W.setCell ⟨w.heap.size + 1 + 1, 0, none⟩ u0).setCell ⟨w.heap.size + 1 + 1, 1, none⟩ u1).setCell ⟨w.heap.size + 1 + 1, 2, none⟩ u2).setCell ⟨w.heap.size + 1 + 1, 3, none⟩ u3).setCell ⟨w.heap.size + 1 + 1, 4, none⟩ u4) ∧ THeldK w FA fn FC VA vn VC 13 ad n c ⟨ad.block, ad.off + 16, none⟩ p2 A2 n2 c2 m2 y2 (((((W.setCell ⟨w.heap.size + 1 + 1, 0, none⟩ u0).setCell ⟨w.heap.size + 1 + 1, 1, none⟩ u1).setCell ⟨w.heap.size + 1 + 1, 2, none⟩ u2).setCell ⟨w.heap.size + 1 + 1, 3, none⟩ u3).setCell ⟨w.heap.size + 1 + 1, 4, none⟩ u4)) from ⟨h.1.below2 hb, HT.out _ (h.1.below2 hb)⟩))
          have hS1 : (fun W => (TC w FA fn FC VA vn VC 13 (some ad) n c nm v W ∧ THeldK w FA fn FC VA vn VC 13 ad n c ⟨ad.block, ad.off + 16, none⟩ p2 A2 n2 c2 m2 y2 W)) wc.drew := ⟨hTB.tc.below2 (Below.refl _ _).drew, HT.out _ (hTB.tc.below2 (Below.refl _ _).drew)⟩
          have HTB := Lib.hid hTB
          go_wp2_with fail
          refine wp_region_held_drew (S := (fun W => (TC w FA fn FC VA vn VC 13 (some ad) n c nm v W ∧ THeldK w FA fn FC VA vn VC 13 ad n c ⟨ad.block, ad.off + 16, none⟩ p2 A2 n2 c2 m2 y2 W))) (by kernel_rfl) (hS1) (fun hHeld => ?_)
          refine wpAnyH_take (i := 0) (oi := ?oi151) (v := ?v151) ?hi151 (by kernel_rfl) (by kernel_rfl) (by kernel_rfl) ?hQ151 (Or.inl ⟨?hw151, ?hy151⟩) (by assumption) ?rest151
          case hi151 => (simp only [gA, gB, gC]; rfl)
          case hQ151 => exact fun _ _ _ h => h
          case hw151 => rfl
          case hy151 => (intro w hSw; (try dsimp only at hSw); go_simp; try with_reducible rfl)
          (try simp only [Act.put, sA, sB, sC])
          refine wpAnyH_take (i := 1) (oi := ?oi152) (v := ?v152) ?hi152 (by kernel_rfl) (by kernel_rfl) (by kernel_rfl) ?hQ152 (Or.inl ⟨?hw152, ?hy152⟩) (by assumption) ?rest152
          case hi152 => (simp only [gA, gB, gC]; rfl)
          case hQ152 => exact fun _ _ _ h => h
          case hw152 => rfl
          case hy152 => (intro w hSw; (try dsimp only at hSw); go_simp; try with_reducible rfl)
          (try simp only [Act.put, sA, sB, sC])
          refine wpAnyH_take (i := 2) (oi := ?oi153) (v := ?v153) ?hi153 (by kernel_rfl) (by kernel_rfl) (by kernel_rfl) ?hQ153 (Or.inl ⟨?hw153, ?hy153⟩) (by assumption) ?rest153
          case hi153 => (simp only [gA, gB, gC]; rfl)
          case hQ153 => exact fun _ _ _ h => h
          case hw153 => rfl
          case hy153 => (intro w hSw; (try dsimp only at hSw); go_simp; try with_reducible rfl)
          (try simp only [Act.put, sA, sB, sC])
          refine wpAnyH_take (i := 3) (oi := ?oi154) (v := ?v154) ?hi154 (by kernel_rfl) (by kernel_rfl) (by kernel_rfl) ?hQ154 (Or.inl ⟨?hw154, ?hy154⟩) (by assumption) ?rest154
          case hi154 => (simp only [gA, gB, gC]; rfl)
          case hQ154 => exact fun _ _ _ h => h
          case hw154 => rfl
          case hy154 => (intro w hSw; (try dsimp only at hSw); go_simp; try with_reducible rfl)
          (try simp only [Act.put, sA, sB, sC])
          refine wpAnyH_take (i := 4) (oi := ?oi155) (v := ?v155) ?hi155 (by kernel_rfl) (by kernel_rfl) (by kernel_rfl) ?hQ155 (Or.inl ⟨?hw155, ?hy155⟩) (by assumption) ?rest155
          case hi155 => (simp only [gA, gB, gC]; rfl)
          case hQ155 => exact fun _ _ _ h => h
          case hw155 => rfl
          case hy155 => (intro w hSw; (try dsimp only at hSw); go_simp; try with_reducible rfl)
          (try simp only [Act.put, sA, sB, sC])
          refine wpAnyH_ready (rs := [5]) (by kernel_rfl) (by simp) ?_
          refine AllReadyH.cons (o := ?o156) ?ho156 (fun K hK => ?st156) AllReadyH.nil
          case ho156 => (simp only [gA, gB, gC]; rfl)
          go_simp
          refine (H2.out _ hHeld.1.1).mono ?_; rintro e w2 ⟨rfl, hb2⟩
          exact ⟨rfl, (if_neg HZ2.out).symm, ((HTB.out.below (Below.refl _ _).drew).below hb2).1⟩
    · rw [if_pos rfl]
      have HBB := Lib.hid hb
      clear hb
      have htb : TB w FA fn FC VA vn VC 13 (some ad) n c nm v (((w.alloc (.cells #[.slice FA fn FC, .slice VA vn VC] 126)).alloc (.cells #[.int .i64 13, .slice (some ad) n c, .string nm, .int .i64 v.k, .int .i64 v.i, .bool v.b, .string v.s, .float .f64 v.n] 27)).alloc (.cells #[.int .i64 0, .int .i64 0, .bool false, .string { data := #[] }, .float .f64 0] 25)) := TB_new w FA fn FC VA vn VC 13 (some ad) n c nm v
      have HHELD := Lib.hid (fun W (hb : TB w FA fn FC VA vn VC 13 (some ad) n c nm v W) => (show THeld w FA fn FC VA vn VC ad n c p0 A0 n0 c0 m0 y0 W from let q := hq0 W hb.1; ⟨hb.2.2.1, hb.2.2.2.1, hb.2.2.2.2.1.2.1, q.1, q.2.1, q.2.2.1, q.2.2.2.1, q.2.2.2.2.1, q.2.2.2.2.2.1, q.2.2.2.2.2.2.1, q.2.2.2.2.2.2.2⟩))
      clear hq0
      have HKP := Lib.hid (fun (W W' : World) (h : TB w FA fn FC VA vn VC 13 (some ad) n c nm v W ∧ THeld w FA fn FC VA vn VC ad n c p0 A0 n0 c0 m0 y0 W) (hb : Below W.heap.size W W') => And.intro (h.1.below hb) (HHELD.out _ (h.1.below hb)))
      have HKS := Lib.hid (fun (W : World) (b : Nat) (u0 u1 u2 u3 u4 : Value) (hge : w.heap.size + 3 ≤ b) (h : TB w FA fn FC VA vn VC 13 (some ad) n c nm v W ∧ THeld w FA fn FC VA vn VC ad n c p0 A0 n0 c0 m0 y0 W) => let hb := below_set5 (Below.refl (w.heap.size + 3) W) hge u0 u1 u2 u3 u4; And.intro (h.1.below3 hb) (HHELD.out _ (h.1.below3 hb)))
      go_enter Tryz.func148, Tryz.ntmps148
      go_upto_region 6 with fail
      generalize ((w.alloc (.cells #[.slice FA fn FC, .slice VA vn VC] 126)).alloc (.cells #[.int .i64 13, .slice (some ad) n c, .string nm, .int .i64 v.k, .int .i64 v.i, .bool v.b, .string v.s, .float .f64 v.n] 27)).alloc (.cells #[.int .i64 0, .int .i64 0, .bool false, .string { data := #[] }, .float .f64 0] 25) = wb at *
      go_cut [5] from 23 to 28 (fun s5 wx => ∃ b, s5 = .pointer (some ⟨b, 0, none⟩) ∧ w.heap.size + 3 ≤ b ∧ TB w FA fn FC VA vn VC 13 (some ad) n c nm v wx ∧ Bx wx b r1)
      case first =>
        have hS0 : TB w FA fn FC VA vn VC 13 (some ad) n c nm v wb.drew ∧ THeld w FA fn FC VA vn VC ad n c p0 A0 n0 c0 m0 y0 wb.drew := ⟨htb.below (Below.refl _ _).drew, HHELD.out _ (htb.below (Below.refl _ _).drew)⟩
        refine wp_region_held_drew (S := (fun W => TB w FA fn FC VA vn VC 13 (some ad) n c nm v W ∧ THeld w FA fn FC VA vn VC ad n c p0 A0 n0 c0 m0 y0 W)) (by kernel_rfl) (hS0) (fun hHeld => ?_)
        refine wpAnyH_take (i := 0) (oi := ?oi181) (v := ?v181) ?hi181 (by kernel_rfl) (by kernel_rfl) (by kernel_rfl) ?hQ181 (Or.inl ⟨?hw181, ?hy181⟩) (by assumption) ?rest181
        case hi181 => (simp only [gA, gB, gC]; rfl)
        case hQ181 => exact fun _ _ _ h => h
        case hw181 => rfl
        case hy181 => (intro w hSw; (try dsimp only at hSw); go_simp; try with_reducible rfl)
        (try simp only [Act.put, sA, sB, sC])
        refine wpAnyH_take (i := 1) (oi := ?oi182) (v := ?v182) ?hi182 (by kernel_rfl) (by kernel_rfl) (by kernel_rfl) ?hQ182 (Or.inl ⟨?hw182, ?hy182⟩) (by assumption) ?rest182
        case hi182 => (simp only [gA, gB, gC]; rfl)
        case hQ182 => exact fun _ _ _ h => h
        case hw182 => rfl
        case hy182 => (intro w hSw; (try dsimp only at hSw); go_simp; try with_reducible rfl)
        (try simp only [Act.put, sA, sB, sC])
        refine wpAnyH_take (i := 2) (oi := ?oi183) (v := ?v183) ?hi183 (by kernel_rfl) (by kernel_rfl) (by kernel_rfl) ?hQ183 (Or.inl ⟨?hw183, ?hy183⟩) (by assumption) ?rest183
        case hi183 => (simp only [gA, gB, gC]; rfl)
        case hQ183 => exact fun _ _ _ h => h
        case hw183 => rfl
        case hy183 => (intro w hSw; (try dsimp only at hSw); go_simp; try with_reducible rfl)
        (try simp only [Act.put, sA, sB, sC])
        refine wpAnyH_take (i := 3) (oi := ?oi184) (v := ?v184) ?hi184 (by kernel_rfl) (by kernel_rfl) (by kernel_rfl) ?hQ184 (Or.inl ⟨?hw184, ?hy184⟩) (by assumption) ?rest184
        case hi184 => (simp only [gA, gB, gC]; rfl)
        case hQ184 => exact fun _ _ _ h => h
        case hw184 => rfl
        case hy184 => (intro w hSw; (try dsimp only at hSw); go_simp; try with_reducible rfl)
        (try simp only [Act.put, sA, sB, sC])
        refine wpAnyH_take (i := 4) (oi := ?oi185) (v := ?v185) ?hi185 (by kernel_rfl) (by kernel_rfl) (by kernel_rfl) ?hQ185 (Or.inl ⟨?hw185, ?hy185⟩) (by assumption) ?rest185
        case hi185 => (simp only [gA, gB, gC]; rfl)
        case hQ185 => exact fun _ _ _ h => h
        case hw185 => rfl
        case hy185 => (intro w hSw; (try dsimp only at hSw); go_simp; try with_reducible rfl)
        (try simp only [Act.put, sA, sB, sC])
        refine wpAnyH_ready (rs := [5, 6]) (by kernel_rfl) (by simp) ?_
        refine AllReadyH.cons (o := ?o186) ?ho186 (fun K hK => ?st186) (AllReadyH.cons (o := ?o187) ?ho187 (fun K hK => ?st187) AllReadyH.nil)
        case ho186 => (simp only [gA, gB, gC]; rfl)
        case ho187 => (simp only [gA, gB, gC]; rfl)
        · go_simp
          refine (H0.out _ (And.left (And.left hHeld))).mono ?_; rintro e wA ⟨rfl, hbA⟩; have hSA := HKP.out _ _ hHeld hbA
          refine hK.out _ _ ?_ (fun hHeld => ?_)
          · (try dsimp only); exact hSA
          clear hK K
          (try simp only [Act.put, sA, sB, sC])
          refine wpAnyH_ready (rs := [6]) (by kernel_rfl) (by simp) ?_
          refine AllReadyH.cons (o := ?o188) ?ho188 (fun K hK => ?st188) AllReadyH.nil
          case ho188 => (simp only [gA, gB, gC]; rfl)
          go_simp
          refine hK.out _ _ ?_ (fun hHeld => ?_)
          · (try dsimp only); exact HKP.out _ _ hSA (alloc1 _ _)
          clear hK K
          (try simp only [Act.put, sA, sB, sC])
          refine wpAnyH_ready (rs := [7]) (by kernel_rfl) (by simp) ?_
          refine AllReadyH.cons (o := ?o189) ?ho189 (fun K hK => ?st189) AllReadyH.nil
          case ho189 => (simp only [gA, gB, gC]; rfl)
          go_simp
          refine hK.out _ _ ?_ (fun hHeld => ?_)
          · (try dsimp only); exact HKP.out _ _ hSA (alloc1 _ _)
          clear hK K
          (try simp only [Act.put, sA, sB, sC])
          refine wpAnyH_done (by kernel_rfl) ?_ _
          go_wp2_with fail
          go_meet
          exact ⟨_, rfl, hSA.1.2.1, hHeld.1, Bx.new _ r1⟩
        · go_simp
          refine hK.out _ _ ?_ (fun hHeld => ?_)
          · (try dsimp only); exact HKP.out _ _ hS0 (alloc1 _ _)
          clear hK K
          (try simp only [Act.put, sA, sB, sC])
          refine wpAnyH_ready (rs := [5]) (by kernel_rfl) (by simp) ?_
          refine AllReadyH.cons (o := ?o190) ?ho190 (fun K hK => ?st190) AllReadyH.nil
          case ho190 => (simp only [gA, gB, gC]; rfl)
          go_simp
          refine (H0.out _ (And.left (And.left hHeld))).mono ?_; rintro e wA ⟨rfl, hbA⟩; have hSA := HKP.out _ _ hHeld hbA; obtain ⟨e0, e1, e2, e3, e4, ef⟩ := newcells hbA
          refine hK.out _ _ ?_ (fun hHeld => ?_)
          · (try dsimp only); exact hSA
          clear hK K
          (try simp only [Act.put, sA, sB, sC])
          refine wpAnyH_ready (rs := [7]) (by kernel_rfl) (by simp) ?_
          refine AllReadyH.cons (o := ?o191) ?ho191 (fun K hK => ?st191) AllReadyH.nil
          case ho191 => (simp only [gA, gB, gC]; rfl)
          go_simp
          refine hK.out _ _ ?_ (fun hHeld => ?_)
          · (try dsimp only); exact HKS.out _ _ _ _ _ _ _ htb.2.1 hSA
          clear hK K
          (try simp only [Act.put, sA, sB, sC])
          refine wpAnyH_done (by kernel_rfl) ?_ _
          go_wp2_with fail
          go_meet
          exact ⟨_, rfl, htb.2.1, hHeld.1, bx_set e0 e1 e2 e3 e4⟩
      case rest =>
        clear htb HHELD HKP HKS
        obtain ⟨b, rfl, hbge, hTB, hx0, hx1, hx2, hx3, hx4⟩ := hcut
        obtain ⟨d0, d1, d2, d3, d4, d5, d6, d7⟩ := hTB.2.2.2.2.1
        have g0 := hTB.2.2.1
        have g1 := hTB.2.2.2.1
        have hb := HBB.out
        rw [hb] at hx2
        clear hb
        obtain ⟨s1, s2⟩ := R1
        by_cases hz1 : s2 = 0
        · subst hz1
          have h1 := fun W hb => (H1.out W hb).mono (fun e w' h => (⟨h.1.trans (if_pos rfl), h.2⟩ : e = .returned (agV s1) ∧ Below W.heap.size W w'))
          clear H1
          have H1 := Lib.hid h1
          clear h1
          have HT := Lib.hid (fun W (hb : TC w FA fn FC VA vn VC 13 (some ad) n c nm v W) => (show THeldK w FA fn FC VA vn VC 13 ad n c ⟨ad.block, ad.off + 8, none⟩ p1 A1 n1 c1 m1 y1 W from let q := HQ1.out W hb.1; ⟨hb.2.2.1, hb.2.2.2.1, hb.2.2.2.2.1, hb.2.2.2.2.2.1, q.1, q.2.1, q.2.2.1, q.2.2.2.1, q.2.2.2.2.1, q.2.2.2.2.2.1, q.2.2.2.2.2.2.1, q.2.2.2.2.2.2.2⟩))
          have HK1 := Lib.hid (fun (W W' : World) (h : (TC w FA fn FC VA vn VC 13 (some ad) n c nm v W ∧ THeldK w FA fn FC VA vn VC 13 ad n c ⟨ad.block, ad.off + 8, none⟩ p1 A1 n1 c1 m1 y1 W)) (hb : Below W.heap.size W W') => (show (TC w FA fn FC VA vn VC 13 (some ad) n c nm v W' ∧ THeldK w FA fn FC VA vn VC 13 ad n c ⟨ad.block, ad.off + 8, none⟩ p1 A1 n1 c1 m1 y1 W') from ⟨h.1.below2 (hb.mono h.1.2.1), HT.out _ (h.1.below2 (hb.mono h.1.2.1))⟩))
          have HKZ := Lib.hid (fun (W : World) (u0 u1 u2 u3 u4 : Value) (h : (TC w FA fn FC VA vn VC 13 (some ad) n c nm v W ∧ THeldK w FA fn FC VA vn VC 13 ad n c ⟨ad.block, ad.off + 8, none⟩ p1 A1 n1 c1 m1 y1 W)) => let hb := below_set5 (Below.refl (w.heap.size + 2) W) (show w.heap.size + 2 ≤ w.heap.size + 1 + 1 by omega) u0 u1 u2 u3 u4; (show (TC w FA fn FC VA vn VC 13 (some ad) n c nm v (((((W.setCell ⟨w.heap.size + 1 + 1, 0, none⟩ u0).setCell ⟨w.heap.size + 1 + 1, 1, none⟩ u1).setCell ⟨w.heap.size + 1 + 1, 2, none⟩ u2).setCell ⟨w.heap.size + 1 + 1, 3, none⟩ u3).setCell ⟨w.heap.size + 1 + 1, 4, none⟩ u4) ∧ THeldK w FA fn FC VA vn VC 13 ad n c ⟨ad.block, ad.off + 8, none⟩ p1 A1 n1 c1 m1 y1 (((((W.setCell ⟨w.heap.size + 1 + 1, 0, none⟩ u0).setCell ⟨w.heap.size + 1 + 1, 1, none⟩ u1).setCell ⟨w.heap.size + 1 + 1, 2, none⟩ u2).setCell ⟨w.heap.size + 1 + 1, 3, none⟩ u3).setCell ⟨w.heap.size + 1 + 1, 4, none⟩ u4)) from ⟨h.1.below2 hb, HT.out _ (h.1.below2 hb)⟩))
          have hS1 : (fun W => (TC w FA fn FC VA vn VC 13 (some ad) n c nm v W ∧ THeldK w FA fn FC VA vn VC 13 ad n c ⟨ad.block, ad.off + 8, none⟩ p1 A1 n1 c1 m1 y1 W)) wc.drew := ⟨hTB.tc.below2 (Below.refl _ _).drew, HT.out _ (hTB.tc.below2 (Below.refl _ _).drew)⟩
          have HTB := Lib.hid hTB
          go_wp2_with fail
          refine wp_region_held_drew (S := (fun W => (TC w FA fn FC VA vn VC 13 (some ad) n c nm v W ∧ THeldK w FA fn FC VA vn VC 13 ad n c ⟨ad.block, ad.off + 8, none⟩ p1 A1 n1 c1 m1 y1 W))) (by kernel_rfl) (hS1) (fun hHeld => ?_)
          refine wpAnyH_take (i := 0) (oi := ?oi157) (v := ?v157) ?hi157 (by kernel_rfl) (by kernel_rfl) (by kernel_rfl) ?hQ157 (Or.inl ⟨?hw157, ?hy157⟩) (by assumption) ?rest157
          case hi157 => (simp only [gA, gB, gC]; rfl)
          case hQ157 => exact fun _ _ _ h => h
          case hw157 => rfl
          case hy157 => (intro w hSw; (try dsimp only at hSw); go_simp; try with_reducible rfl)
          (try simp only [Act.put, sA, sB, sC])
          refine wpAnyH_take (i := 1) (oi := ?oi158) (v := ?v158) ?hi158 (by kernel_rfl) (by kernel_rfl) (by kernel_rfl) ?hQ158 (Or.inl ⟨?hw158, ?hy158⟩) (by assumption) ?rest158
          case hi158 => (simp only [gA, gB, gC]; rfl)
          case hQ158 => exact fun _ _ _ h => h
          case hw158 => rfl
          case hy158 => (intro w hSw; (try dsimp only at hSw); go_simp; try with_reducible rfl)
          (try simp only [Act.put, sA, sB, sC])
          refine wpAnyH_take (i := 2) (oi := ?oi159) (v := ?v159) ?hi159 (by kernel_rfl) (by kernel_rfl) (by kernel_rfl) ?hQ159 (Or.inl ⟨?hw159, ?hy159⟩) (by assumption) ?rest159
          case hi159 => (simp only [gA, gB, gC]; rfl)
          case hQ159 => exact fun _ _ _ h => h
          case hw159 => rfl
          case hy159 => (intro w hSw; (try dsimp only at hSw); go_simp; try with_reducible rfl)
          (try simp only [Act.put, sA, sB, sC])
          refine wpAnyH_take (i := 3) (oi := ?oi160) (v := ?v160) ?hi160 (by kernel_rfl) (by kernel_rfl) (by kernel_rfl) ?hQ160 (Or.inl ⟨?hw160, ?hy160⟩) (by assumption) ?rest160
          case hi160 => (simp only [gA, gB, gC]; rfl)
          case hQ160 => exact fun _ _ _ h => h
          case hw160 => rfl
          case hy160 => (intro w hSw; (try dsimp only at hSw); go_simp; try with_reducible rfl)
          (try simp only [Act.put, sA, sB, sC])
          refine wpAnyH_take (i := 4) (oi := ?oi161) (v := ?v161) ?hi161 (by kernel_rfl) (by kernel_rfl) (by kernel_rfl) ?hQ161 (Or.inl ⟨?hw161, ?hy161⟩) (by assumption) ?rest161
          case hi161 => (simp only [gA, gB, gC]; rfl)
          case hQ161 => exact fun _ _ _ h => h
          case hw161 => rfl
          case hy161 => (intro w hSw; (try dsimp only at hSw); go_simp; try with_reducible rfl)
          (try simp only [Act.put, sA, sB, sC])
          refine wpAnyH_ready (rs := [5]) (by kernel_rfl) (by simp) ?_
          refine AllReadyH.cons (o := ?o162) ?ho162 (fun K hK => ?st162) AllReadyH.nil
          case ho162 => (simp only [gA, gB, gC]; rfl)
          go_simp
          refine (H1.out _ hHeld.1.1).mono ?_; rintro e w2 ⟨rfl, hb2⟩; obtain ⟨ou0, ou1, ou2, ou3, ou4, ov0, ov1, ov2, ov3, ov4, ovf⟩ := TB.out ((HTB.out.below (Below.refl _ _).drew).below hb2)
          refine hK.out _ _ ?_ (fun hHeld => ?_)
          · (try dsimp only); exact HK1.out _ _ hHeld hb2
          clear hK K
          (try simp only [Act.put, sA, sB, sC])
          refine wpAnyH_ready (rs := [6]) (by kernel_rfl) (by simp) ?_
          refine AllReadyH.cons (o := ?o163) ?ho163 (fun K hK => ?st163) AllReadyH.nil
          case ho163 => (simp only [gA, gB, gC]; rfl)
          go_simp
          refine hK.out _ _ ?_ (fun hHeld => ?_)
          · (try dsimp only); exact HKZ.out _ _ _ _ _ _ hHeld
          clear hK K
          (try simp only [Act.put, sA, sB, sC])
          refine wpAnyH_done (by kernel_rfl) ?_ _
          go_wp2_with fail
          exact bodyPost_ret (v := agV s1) (by simp [results, Tryz.results148, go_sem, ov0, ov1, ov2, ov3, ov4]) rfl ⟨rfl, TB.done ((HTB.out.below (Below.refl _ _).drew).below hb2) _ _ _ _ _⟩
        · have h1 := fun W hb => (H1.out W hb).mono (fun e w' h => (⟨h.1.trans (if_neg hz1), h.2⟩ : e = .panicked (PV s2) ∧ Below W.heap.size W w'))
          clear H1
          have H1 := Lib.hid h1
          have HZ1 := Lib.hid hz1
          clear h1 hz1
          have HT := Lib.hid (fun W (hb : TC w FA fn FC VA vn VC 13 (some ad) n c nm v W) => (show THeldK w FA fn FC VA vn VC 13 ad n c ⟨ad.block, ad.off + 8, none⟩ p1 A1 n1 c1 m1 y1 W from let q := HQ1.out W hb.1; ⟨hb.2.2.1, hb.2.2.2.1, hb.2.2.2.2.1, hb.2.2.2.2.2.1, q.1, q.2.1, q.2.2.1, q.2.2.2.1, q.2.2.2.2.1, q.2.2.2.2.2.1, q.2.2.2.2.2.2.1, q.2.2.2.2.2.2.2⟩))
          have HK1 := Lib.hid (fun (W W' : World) (h : (TC w FA fn FC VA vn VC 13 (some ad) n c nm v W ∧ THeldK w FA fn FC VA vn VC 13 ad n c ⟨ad.block, ad.off + 8, none⟩ p1 A1 n1 c1 m1 y1 W)) (hb : Below W.heap.size W W') => (show (TC w FA fn FC VA vn VC 13 (some ad) n c nm v W' ∧ THeldK w FA fn FC VA vn VC 13 ad n c ⟨ad.block, ad.off + 8, none⟩ p1 A1 n1 c1 m1 y1 W') from ⟨h.1.below2 (hb.mono h.1.2.1), HT.out _ (h.1.below2 (hb.mono h.1.2.1))⟩))
          have HKZ := Lib.hid (fun (W : World) (u0 u1 u2 u3 u4 : Value) (h : (TC w FA fn FC VA vn VC 13 (some ad) n c nm v W ∧ THeldK w FA fn FC VA vn VC 13 ad n c ⟨ad.block, ad.off + 8, none⟩ p1 A1 n1 c1 m1 y1 W)) => let hb := below_set5 (Below.refl (w.heap.size + 2) W) (show w.heap.size + 2 ≤ w.heap.size + 1 + 1 by omega) u0 u1 u2 u3 u4; (show (TC w FA fn FC VA vn VC 13 (some ad) n c nm v (((((W.setCell ⟨w.heap.size + 1 + 1, 0, none⟩ u0).setCell ⟨w.heap.size + 1 + 1, 1, none⟩ u1).setCell ⟨w.heap.size + 1 + 1, 2, none⟩ u2).setCell ⟨w.heap.size + 1 + 1, 3, none⟩ u3).setCell ⟨w.heap.size + 1 + 1, 4, none⟩ u4) ∧ THeldK w FA fn FC VA vn VC 13 ad n c ⟨ad.block, ad.off + 8, none⟩ p1 A1 n1 c1 m1 y1 (((((W.setCell ⟨w.heap.size + 1 + 1, 0, none⟩ u0).setCell ⟨w.heap.size + 1 + 1, 1, none⟩ u1).setCell ⟨w.heap.size + 1 + 1, 2, none⟩ u2).setCell ⟨w.heap.size + 1 + 1, 3, none⟩ u3).setCell ⟨w.heap.size + 1 + 1, 4, none⟩ u4)) from ⟨h.1.below2 hb, HT.out _ (h.1.below2 hb)⟩))
          have hS1 : (fun W => (TC w FA fn FC VA vn VC 13 (some ad) n c nm v W ∧ THeldK w FA fn FC VA vn VC 13 ad n c ⟨ad.block, ad.off + 8, none⟩ p1 A1 n1 c1 m1 y1 W)) wc.drew := ⟨hTB.tc.below2 (Below.refl _ _).drew, HT.out _ (hTB.tc.below2 (Below.refl _ _).drew)⟩
          have HTB := Lib.hid hTB
          go_wp2_with fail
          refine wp_region_held_drew (S := (fun W => (TC w FA fn FC VA vn VC 13 (some ad) n c nm v W ∧ THeldK w FA fn FC VA vn VC 13 ad n c ⟨ad.block, ad.off + 8, none⟩ p1 A1 n1 c1 m1 y1 W))) (by kernel_rfl) (hS1) (fun hHeld => ?_)
          refine wpAnyH_take (i := 0) (oi := ?oi164) (v := ?v164) ?hi164 (by kernel_rfl) (by kernel_rfl) (by kernel_rfl) ?hQ164 (Or.inl ⟨?hw164, ?hy164⟩) (by assumption) ?rest164
          case hi164 => (simp only [gA, gB, gC]; rfl)
          case hQ164 => exact fun _ _ _ h => h
          case hw164 => rfl
          case hy164 => (intro w hSw; (try dsimp only at hSw); go_simp; try with_reducible rfl)
          (try simp only [Act.put, sA, sB, sC])
          refine wpAnyH_take (i := 1) (oi := ?oi165) (v := ?v165) ?hi165 (by kernel_rfl) (by kernel_rfl) (by kernel_rfl) ?hQ165 (Or.inl ⟨?hw165, ?hy165⟩) (by assumption) ?rest165
          case hi165 => (simp only [gA, gB, gC]; rfl)
          case hQ165 => exact fun _ _ _ h => h
          case hw165 => rfl
          case hy165 => (intro w hSw; (try dsimp only at hSw); go_simp; try with_reducible rfl)
          (try simp only [Act.put, sA, sB, sC])
          refine wpAnyH_take (i := 2) (oi := ?oi166) (v := ?v166) ?hi166 (by kernel_rfl) (by kernel_rfl) (by kernel_rfl) ?hQ166 (Or.inl ⟨?hw166, ?hy166⟩) (by assumption) ?rest166
          case hi166 => (simp only [gA, gB, gC]; rfl)
          case hQ166 => exact fun _ _ _ h => h
          case hw166 => rfl
          case hy166 => (intro w hSw; (try dsimp only at hSw); go_simp; try with_reducible rfl)
          (try simp only [Act.put, sA, sB, sC])
          refine wpAnyH_take (i := 3) (oi := ?oi167) (v := ?v167) ?hi167 (by kernel_rfl) (by kernel_rfl) (by kernel_rfl) ?hQ167 (Or.inl ⟨?hw167, ?hy167⟩) (by assumption) ?rest167
          case hi167 => (simp only [gA, gB, gC]; rfl)
          case hQ167 => exact fun _ _ _ h => h
          case hw167 => rfl
          case hy167 => (intro w hSw; (try dsimp only at hSw); go_simp; try with_reducible rfl)
          (try simp only [Act.put, sA, sB, sC])
          refine wpAnyH_take (i := 4) (oi := ?oi168) (v := ?v168) ?hi168 (by kernel_rfl) (by kernel_rfl) (by kernel_rfl) ?hQ168 (Or.inl ⟨?hw168, ?hy168⟩) (by assumption) ?rest168
          case hi168 => (simp only [gA, gB, gC]; rfl)
          case hQ168 => exact fun _ _ _ h => h
          case hw168 => rfl
          case hy168 => (intro w hSw; (try dsimp only at hSw); go_simp; try with_reducible rfl)
          (try simp only [Act.put, sA, sB, sC])
          refine wpAnyH_ready (rs := [5]) (by kernel_rfl) (by simp) ?_
          refine AllReadyH.cons (o := ?o169) ?ho169 (fun K hK => ?st169) AllReadyH.nil
          case ho169 => (simp only [gA, gB, gC]; rfl)
          go_simp
          refine (H1.out _ hHeld.1.1).mono ?_; rintro e w2 ⟨rfl, hb2⟩
          exact ⟨rfl, (if_neg HZ1.out).symm, ((HTB.out.below (Below.refl _ _).drew).below hb2).1⟩
  · have h0 := fun W hb => (H0.out W hb).mono (fun e w' h => (⟨h.1.trans (if_neg hz), h.2⟩ : e = .panicked (PV r2) ∧ Below W.heap.size W w'))
    clear H0
    have H0 := Lib.hid h0
    have HZ := Lib.hid hz
    rw [if_pos hz]
    clear h0 hv0 hz
    have htb : TB w FA fn FC VA vn VC 13 (some ad) n c nm v (((w.alloc (.cells #[.slice FA fn FC, .slice VA vn VC] 126)).alloc (.cells #[.int .i64 13, .slice (some ad) n c, .string nm, .int .i64 v.k, .int .i64 v.i, .bool v.b, .string v.s, .float .f64 v.n] 27)).alloc (.cells #[.int .i64 0, .int .i64 0, .bool false, .string { data := #[] }, .float .f64 0] 25)) := TB_new w FA fn FC VA vn VC 13 (some ad) n c nm v
    have HHELD := Lib.hid (fun W (hb : TB w FA fn FC VA vn VC 13 (some ad) n c nm v W) => (show THeld w FA fn FC VA vn VC ad n c p0 A0 n0 c0 m0 y0 W from let q := hq0 W hb.1; ⟨hb.2.2.1, hb.2.2.2.1, hb.2.2.2.2.1.2.1, q.1, q.2.1, q.2.2.1, q.2.2.2.1, q.2.2.2.2.1, q.2.2.2.2.2.1, q.2.2.2.2.2.2.1, q.2.2.2.2.2.2.2⟩))
    clear hq0
    have HKP := Lib.hid (fun (W W' : World) (h : TB w FA fn FC VA vn VC 13 (some ad) n c nm v W ∧ THeld w FA fn FC VA vn VC ad n c p0 A0 n0 c0 m0 y0 W) (hb : Below W.heap.size W W') => And.intro (h.1.below hb) (HHELD.out _ (h.1.below hb)))
    have HKS := Lib.hid (fun (W : World) (b : Nat) (u0 u1 u2 u3 u4 : Value) (hge : w.heap.size + 3 ≤ b) (h : TB w FA fn FC VA vn VC 13 (some ad) n c nm v W ∧ THeld w FA fn FC VA vn VC ad n c p0 A0 n0 c0 m0 y0 W) => let hb := below_set5 (Below.refl (w.heap.size + 3) W) hge u0 u1 u2 u3 u4; And.intro (h.1.below3 hb) (HHELD.out _ (h.1.below3 hb)))
    go_enter Tryz.func148, Tryz.ntmps148
    go_upto_region 6 with fail
    generalize ((w.alloc (.cells #[.slice FA fn FC, .slice VA vn VC] 126)).alloc (.cells #[.int .i64 13, .slice (some ad) n c, .string nm, .int .i64 v.k, .int .i64 v.i, .bool v.b, .string v.s, .float .f64 v.n] 27)).alloc (.cells #[.int .i64 0, .int .i64 0, .bool false, .string { data := #[] }, .float .f64 0] 25) = wb at *
    have hS0 : TB w FA fn FC VA vn VC 13 (some ad) n c nm v wb.drew ∧ THeld w FA fn FC VA vn VC ad n c p0 A0 n0 c0 m0 y0 wb.drew := ⟨htb.below (Below.refl _ _).drew, HHELD.out _ (htb.below (Below.refl _ _).drew)⟩
    refine wp_region_held_drew (S := (fun W => TB w FA fn FC VA vn VC 13 (some ad) n c nm v W ∧ THeld w FA fn FC VA vn VC ad n c p0 A0 n0 c0 m0 y0 W)) (by kernel_rfl) (hS0) (fun hHeld => ?_)
    refine wpAnyH_take (i := 0) (oi := ?oi192) (v := ?v192) ?hi192 (by kernel_rfl) (by kernel_rfl) (by kernel_rfl) ?hQ192 (Or.inl ⟨?hw192, ?hy192⟩) (by assumption) ?rest192
    case hi192 => (simp only [gA, gB, gC]; rfl)
    case hQ192 => exact fun _ _ _ h => h
    case hw192 => rfl
    case hy192 => (intro w hSw; (try dsimp only at hSw); go_simp; try with_reducible rfl)
    (try simp only [Act.put, sA, sB, sC])
    refine wpAnyH_take (i := 1) (oi := ?oi193) (v := ?v193) ?hi193 (by kernel_rfl) (by kernel_rfl) (by kernel_rfl) ?hQ193 (Or.inl ⟨?hw193, ?hy193⟩) (by assumption) ?rest193
    case hi193 => (simp only [gA, gB, gC]; rfl)
    case hQ193 => exact fun _ _ _ h => h
    case hw193 => rfl
    case hy193 => (intro w hSw; (try dsimp only at hSw); go_simp; try with_reducible rfl)
    (try simp only [Act.put, sA, sB, sC])
    refine wpAnyH_take (i := 2) (oi := ?oi194) (v := ?v194) ?hi194 (by kernel_rfl) (by kernel_rfl) (by kernel_rfl) ?hQ194 (Or.inl ⟨?hw194, ?hy194⟩) (by assumption) ?rest194
    case hi194 => (simp only [gA, gB, gC]; rfl)
    case hQ194 => exact fun _ _ _ h => h
    case hw194 => rfl
    case hy194 => (intro w hSw; (try dsimp only at hSw); go_simp; try with_reducible rfl)
    (try simp only [Act.put, sA, sB, sC])
    refine wpAnyH_take (i := 3) (oi := ?oi195) (v := ?v195) ?hi195 (by kernel_rfl) (by kernel_rfl) (by kernel_rfl) ?hQ195 (Or.inl ⟨?hw195, ?hy195⟩) (by assumption) ?rest195
    case hi195 => (simp only [gA, gB, gC]; rfl)
    case hQ195 => exact fun _ _ _ h => h
    case hw195 => rfl
    case hy195 => (intro w hSw; (try dsimp only at hSw); go_simp; try with_reducible rfl)
    (try simp only [Act.put, sA, sB, sC])
    refine wpAnyH_take (i := 4) (oi := ?oi196) (v := ?v196) ?hi196 (by kernel_rfl) (by kernel_rfl) (by kernel_rfl) ?hQ196 (Or.inl ⟨?hw196, ?hy196⟩) (by assumption) ?rest196
    case hi196 => (simp only [gA, gB, gC]; rfl)
    case hQ196 => exact fun _ _ _ h => h
    case hw196 => rfl
    case hy196 => (intro w hSw; (try dsimp only at hSw); go_simp; try with_reducible rfl)
    (try simp only [Act.put, sA, sB, sC])
    refine wpAnyH_ready (rs := [5, 6]) (by kernel_rfl) (by simp) ?_
    refine AllReadyH.cons (o := ?o197) ?ho197 (fun K hK => ?st197) (AllReadyH.cons (o := ?o198) ?ho198 (fun K hK => ?st198) AllReadyH.nil)
    case ho197 => (simp only [gA, gB, gC]; rfl)
    case ho198 => (simp only [gA, gB, gC]; rfl)
    · go_simp
      refine (H0.out _ (And.left (And.left hHeld))).mono ?_; rintro e wA ⟨rfl, hbA⟩
      exact ⟨rfl, (if_neg HZ.out).symm, (And.left (And.left hHeld)).trans (hbA.mono (And.left (And.left hHeld)).size)⟩
    · go_simp
      refine hK.out _ _ ?_ (fun hHeld => ?_)
      · (try dsimp only); exact HKP.out _ _ hS0 (alloc1 _ _)
      clear hK K
      (try simp only [Act.put, sA, sB, sC])
      refine wpAnyH_ready (rs := [5]) (by kernel_rfl) (by simp) ?_
      refine AllReadyH.cons (o := ?o199) ?ho199 (fun K hK => ?st199) AllReadyH.nil
      case ho199 => (simp only [gA, gB, gC]; rfl)
      go_simp
      refine (H0.out _ (And.left (And.left hHeld))).mono ?_; rintro e wA ⟨rfl, hbA⟩
      exact ⟨rfl, (if_neg HZ.out).symm, (And.left (And.left hHeld)).trans (hbA.mono (And.left (And.left hHeld)).size)⟩
set_option maxHeartbeats 600000 in
theorem tell_two (FA : Option Addr) (fn FC : Nat) (VA : Option Addr) (vn VC : Nat) (ad : Addr) (n c : Nat) (nm : ByteArray) (v : Vl) (w : World) (op : Int) (A0 : Option Addr) (n0 c0 : Nat) (m0 : ByteArray) (y0 : Vl) (p0 : Int) (R0 : Vl × Int) (hq0 : ∀ W, Below w.heap.size w W → Kid W ad p0 A0 n0 c0 m0 y0) (h0 : ∀ W, Below w.heap.size w W → Calls Tryz.prog 148 #[agR FA fn FC VA vn VC, agX p0 A0 n0 c0 m0 y0] W (TellP R0 W)) (hv0 : R0.2 = 0 → okV R0.1) (A1 : Option Addr) (n1 c1 : Nat) (m1 : ByteArray) (y1 : Vl) (p1 : Int) (R1 : Vl × Int) (hq1 : ∀ W, Below w.heap.size w W → Kid W ⟨ad.block, ad.off + 8, none⟩ p1 A1 n1 c1 m1 y1) (h1 : ∀ W, Below w.heap.size w W → Calls Tryz.prog 148 #[agR FA fn FC VA vn VC, agX p1 A1 n1 c1 m1 y1] W (TellP R1 W)) (hv1 : R1.2 = 0 → okV R1.1) (hn : 1 < n) (hop1 : op ≠ 1) (hop2 : op ≠ 2) (hop3 : op ≠ 3) (hop16 : op ≠ 16) (hop12 : op ≠ 12) (hop10 : op ≠ 10) (hop11 : op ≠ 11) (hop13 : op ≠ 13) (hp : R0.2 = 0 → R1.2 = 0 → ∀ W, Calls Tryz.prog 190 #[.int .i64 op, agV R0.1, agV R1.1] W (TellP (pairX op R0.1 R1.1) W)) :
    Calls Tryz.prog 148 #[agR FA fn FC VA vn VC, agX op (some ad) n c nm v] w (TellP (if R0.2 ≠ 0 then (vZero, R0.2) else (if R1.2 ≠ 0 then (vZero, R1.2) else pairX op R0.1 R1.1)) w) := by
  have hi1 : (1 : Int) < (n : Int) := by omega
  have hsf := fun (w : World) (a : Addr) (m : Mode) (b : Nat) => run_store Tryz.prog w a (.float .f64 b) m rfl
  have hi : (0 : Int) < (n : Int) := by omega
  have hn0 : 0 < n := by omega
  have q1 : (op == 1) = false := by simpa using hop1
  have q2 : (op == 2) = false := by simpa using hop2
  have q3 : (op == 3) = false := by simpa using hop3
  have q16 : (op == 16) = false := by simpa using hop16
  have q12 : (op == 12) = false := by simpa using hop12
  have q10 : (op == 10) = false := by simpa using hop10
  have q11 : (op == 11) = false := by simpa using hop11
  have q13 : (op == 13) = false := by simpa using hop13
  clear hop1
  clear hop2
  clear hop3
  clear hop16
  clear hop12
  clear hop10
  clear hop11
  clear hop13
  have HQ1 := Lib.hid hq1
  have H1 := Lib.hid h1
  clear hq1 h1 hv1
  obtain ⟨r1, r2⟩ := R0
  have H0 := Lib.hid h0
  clear h0
  by_cases hz : r2 = 0
  · subst hz
    rw [if_neg (fun h => h rfl)]
    have h0 := fun W hb => (H0.out W hb).mono (fun e w' h => (⟨h.1.trans (if_pos rfl), h.2⟩ : e = .returned (agV r1) ∧ Below W.heap.size W w'))
    clear H0
    have H0 := Lib.hid h0
    clear h0 hv0
    obtain ⟨s1, s2⟩ := R1
    by_cases hz1 : s2 = 0
    · subst hz1
      rw [if_neg (fun h => h rfl)]
      have h1 := fun W hb => (H1.out W hb).mono (fun e w' h => (⟨h.1.trans (if_pos rfl), h.2⟩ : e = .returned (agV s1) ∧ Below W.heap.size W w'))
      clear H1
      have H1 := Lib.hid h1
      have hp := hp rfl rfl
      clear h1
      have hpe : pairX op (r1, (0 : Int)).1 (s1, (0 : Int)).1 = pairX op r1 s1 := rfl
      rw [hpe] at hp ⊢
      clear hpe
      generalize pairX op r1 s1 = pr at hp ⊢
      obtain ⟨t1, t2⟩ := pr
      have HP0 := Lib.hid hp
      clear hp
      by_cases hz2 : t2 = 0
      · subst hz2
        have hp := fun W => (HP0.out W).mono (fun e w' h => (⟨h.1.trans (if_pos rfl), h.2⟩ : e = .returned (agV t1) ∧ Below W.heap.size W w'))
        have HPP := Lib.hid hp
        clear hp HP0
        have htb : TB w FA fn FC VA vn VC op (some ad) n c nm v (((w.alloc (.cells #[.slice FA fn FC, .slice VA vn VC] 126)).alloc (.cells #[.int .i64 op, .slice (some ad) n c, .string nm, .int .i64 v.k, .int .i64 v.i, .bool v.b, .string v.s, .float .f64 v.n] 27)).alloc (.cells #[.int .i64 0, .int .i64 0, .bool false, .string { data := #[] }, .float .f64 0] 25)) := TB_new w FA fn FC VA vn VC op (some ad) n c nm v
        have HHELD := Lib.hid (fun W (hb : TB w FA fn FC VA vn VC op (some ad) n c nm v W) => (show THeld w FA fn FC VA vn VC ad n c p0 A0 n0 c0 m0 y0 W from let q := hq0 W hb.1; ⟨hb.2.2.1, hb.2.2.2.1, hb.2.2.2.2.1.2.1, q.1, q.2.1, q.2.2.1, q.2.2.2.1, q.2.2.2.2.1, q.2.2.2.2.2.1, q.2.2.2.2.2.2.1, q.2.2.2.2.2.2.2⟩))
        clear hq0
        have HKP := Lib.hid (fun (W W' : World) (h : TB w FA fn FC VA vn VC op (some ad) n c nm v W ∧ THeld w FA fn FC VA vn VC ad n c p0 A0 n0 c0 m0 y0 W) (hb : Below W.heap.size W W') => And.intro (h.1.below hb) (HHELD.out _ (h.1.below hb)))
        have HKS := Lib.hid (fun (W : World) (b : Nat) (u0 u1 u2 u3 u4 : Value) (hge : w.heap.size + 3 ≤ b) (h : TB w FA fn FC VA vn VC op (some ad) n c nm v W ∧ THeld w FA fn FC VA vn VC ad n c p0 A0 n0 c0 m0 y0 W) => let hb := below_set5 (Below.refl (w.heap.size + 3) W) hge u0 u1 u2 u3 u4; And.intro (h.1.below3 hb) (HHELD.out _ (h.1.below3 hb)))
        go_enter Tryz.func148, Tryz.ntmps148
        go_upto_region 6 with fail
        generalize ((w.alloc (.cells #[.slice FA fn FC, .slice VA vn VC] 126)).alloc (.cells #[.int .i64 op, .slice (some ad) n c, .string nm, .int .i64 v.k, .int .i64 v.i, .bool v.b, .string v.s, .float .f64 v.n] 27)).alloc (.cells #[.int .i64 0, .int .i64 0, .bool false, .string { data := #[] }, .float .f64 0] 25) = wb at *
        go_cut [5] from 23 to 28 (fun s5 wx => ∃ b, s5 = .pointer (some ⟨b, 0, none⟩) ∧ w.heap.size + 3 ≤ b ∧ TB w FA fn FC VA vn VC op (some ad) n c nm v wx ∧ Bx wx b r1)
        case first =>
          have hS0 : TB w FA fn FC VA vn VC op (some ad) n c nm v wb.drew ∧ THeld w FA fn FC VA vn VC ad n c p0 A0 n0 c0 m0 y0 wb.drew := ⟨htb.below (Below.refl _ _).drew, HHELD.out _ (htb.below (Below.refl _ _).drew)⟩
          refine wp_region_held_drew (S := (fun W => TB w FA fn FC VA vn VC op (some ad) n c nm v W ∧ THeld w FA fn FC VA vn VC ad n c p0 A0 n0 c0 m0 y0 W)) (by kernel_rfl) (hS0) (fun hHeld => ?_)
          refine wpAnyH_take (i := 0) (oi := ?oi241) (v := ?v241) ?hi241 (by kernel_rfl) (by kernel_rfl) (by kernel_rfl) ?hQ241 (Or.inl ⟨?hw241, ?hy241⟩) (by assumption) ?rest241
          case hi241 => (simp only [gA, gB, gC]; rfl)
          case hQ241 => exact fun _ _ _ h => h
          case hw241 => rfl
          case hy241 => (intro w hSw; (try dsimp only at hSw); go_simp; try with_reducible rfl)
          (try simp only [Act.put, sA, sB, sC])
          refine wpAnyH_take (i := 1) (oi := ?oi242) (v := ?v242) ?hi242 (by kernel_rfl) (by kernel_rfl) (by kernel_rfl) ?hQ242 (Or.inl ⟨?hw242, ?hy242⟩) (by assumption) ?rest242
          case hi242 => (simp only [gA, gB, gC]; rfl)
          case hQ242 => exact fun _ _ _ h => h
          case hw242 => rfl
          case hy242 => (intro w hSw; (try dsimp only at hSw); go_simp; try with_reducible rfl)
          (try simp only [Act.put, sA, sB, sC])
          refine wpAnyH_take (i := 2) (oi := ?oi243) (v := ?v243) ?hi243 (by kernel_rfl) (by kernel_rfl) (by kernel_rfl) ?hQ243 (Or.inl ⟨?hw243, ?hy243⟩) (by assumption) ?rest243
          case hi243 => (simp only [gA, gB, gC]; rfl)
          case hQ243 => exact fun _ _ _ h => h
          case hw243 => rfl
          case hy243 => (intro w hSw; (try dsimp only at hSw); go_simp; try with_reducible rfl)
          (try simp only [Act.put, sA, sB, sC])
          refine wpAnyH_take (i := 3) (oi := ?oi244) (v := ?v244) ?hi244 (by kernel_rfl) (by kernel_rfl) (by kernel_rfl) ?hQ244 (Or.inl ⟨?hw244, ?hy244⟩) (by assumption) ?rest244
          case hi244 => (simp only [gA, gB, gC]; rfl)
          case hQ244 => exact fun _ _ _ h => h
          case hw244 => rfl
          case hy244 => (intro w hSw; (try dsimp only at hSw); go_simp; try with_reducible rfl)
          (try simp only [Act.put, sA, sB, sC])
          refine wpAnyH_take (i := 4) (oi := ?oi245) (v := ?v245) ?hi245 (by kernel_rfl) (by kernel_rfl) (by kernel_rfl) ?hQ245 (Or.inl ⟨?hw245, ?hy245⟩) (by assumption) ?rest245
          case hi245 => (simp only [gA, gB, gC]; rfl)
          case hQ245 => exact fun _ _ _ h => h
          case hw245 => rfl
          case hy245 => (intro w hSw; (try dsimp only at hSw); go_simp; try with_reducible rfl)
          (try simp only [Act.put, sA, sB, sC])
          refine wpAnyH_ready (rs := [5, 6]) (by kernel_rfl) (by simp) ?_
          refine AllReadyH.cons (o := ?o246) ?ho246 (fun K hK => ?st246) (AllReadyH.cons (o := ?o247) ?ho247 (fun K hK => ?st247) AllReadyH.nil)
          case ho246 => (simp only [gA, gB, gC]; rfl)
          case ho247 => (simp only [gA, gB, gC]; rfl)
          · go_simp
            refine (H0.out _ (And.left (And.left hHeld))).mono ?_; rintro e wA ⟨rfl, hbA⟩; have hSA := HKP.out _ _ hHeld hbA
            refine hK.out _ _ ?_ (fun hHeld => ?_)
            · (try dsimp only); exact hSA
            clear hK K
            (try simp only [Act.put, sA, sB, sC])
            refine wpAnyH_ready (rs := [6]) (by kernel_rfl) (by simp) ?_
            refine AllReadyH.cons (o := ?o248) ?ho248 (fun K hK => ?st248) AllReadyH.nil
            case ho248 => (simp only [gA, gB, gC]; rfl)
            go_simp
            refine hK.out _ _ ?_ (fun hHeld => ?_)
            · (try dsimp only); exact HKP.out _ _ hSA (alloc1 _ _)
            clear hK K
            (try simp only [Act.put, sA, sB, sC])
            refine wpAnyH_ready (rs := [7]) (by kernel_rfl) (by simp) ?_
            refine AllReadyH.cons (o := ?o249) ?ho249 (fun K hK => ?st249) AllReadyH.nil
            case ho249 => (simp only [gA, gB, gC]; rfl)
            go_simp
            refine hK.out _ _ ?_ (fun hHeld => ?_)
            · (try dsimp only); exact HKP.out _ _ hSA (alloc1 _ _)
            clear hK K
            (try simp only [Act.put, sA, sB, sC])
            refine wpAnyH_done (by kernel_rfl) ?_ _
            go_wp2_with fail
            go_meet
            exact ⟨_, rfl, hSA.1.2.1, hHeld.1, Bx.new _ r1⟩
          · go_simp
            refine hK.out _ _ ?_ (fun hHeld => ?_)
            · (try dsimp only); exact HKP.out _ _ hS0 (alloc1 _ _)
            clear hK K
            (try simp only [Act.put, sA, sB, sC])
            refine wpAnyH_ready (rs := [5]) (by kernel_rfl) (by simp) ?_
            refine AllReadyH.cons (o := ?o250) ?ho250 (fun K hK => ?st250) AllReadyH.nil
            case ho250 => (simp only [gA, gB, gC]; rfl)
            go_simp
            refine (H0.out _ (And.left (And.left hHeld))).mono ?_; rintro e wA ⟨rfl, hbA⟩; have hSA := HKP.out _ _ hHeld hbA; obtain ⟨e0, e1, e2, e3, e4, ef⟩ := newcells hbA
            refine hK.out _ _ ?_ (fun hHeld => ?_)
            · (try dsimp only); exact hSA
            clear hK K
            (try simp only [Act.put, sA, sB, sC])
            refine wpAnyH_ready (rs := [7]) (by kernel_rfl) (by simp) ?_
            refine AllReadyH.cons (o := ?o251) ?ho251 (fun K hK => ?st251) AllReadyH.nil
            case ho251 => (simp only [gA, gB, gC]; rfl)
            go_simp
            refine hK.out _ _ ?_ (fun hHeld => ?_)
            · (try dsimp only); exact HKS.out _ _ _ _ _ _ _ htb.2.1 hSA
            clear hK K
            (try simp only [Act.put, sA, sB, sC])
            refine wpAnyH_done (by kernel_rfl) ?_ _
            go_wp2_with fail
            go_meet
            exact ⟨_, rfl, htb.2.1, hHeld.1, bx_set e0 e1 e2 e3 e4⟩
        case rest =>
          clear htb HHELD HKP HKS
          obtain ⟨b, rfl, hbge, hTB, hx0, hx1, hx2, hx3, hx4⟩ := hcut
          obtain ⟨d0, d1, d2, d3, d4, d5, d6, d7⟩ := hTB.2.2.2.2.1
          have g0 := hTB.2.2.1
          have g1 := hTB.2.2.2.1
          have HT := Lib.hid (fun W (hb : TC w FA fn FC VA vn VC op (some ad) n c nm v W) => (show THeldK w FA fn FC VA vn VC op ad n c ⟨ad.block, ad.off + 8, none⟩ p1 A1 n1 c1 m1 y1 W from let q := HQ1.out W hb.1; ⟨hb.2.2.1, hb.2.2.2.1, hb.2.2.2.2.1, hb.2.2.2.2.2.1, q.1, q.2.1, q.2.2.1, q.2.2.2.1, q.2.2.2.2.1, q.2.2.2.2.2.1, q.2.2.2.2.2.2.1, q.2.2.2.2.2.2.2⟩))
          have HK1 := Lib.hid (fun (W W' : World) (h : (TC w FA fn FC VA vn VC op (some ad) n c nm v W ∧ THeldK w FA fn FC VA vn VC op ad n c ⟨ad.block, ad.off + 8, none⟩ p1 A1 n1 c1 m1 y1 W ∧ W.cell? ⟨b, 0, none⟩ = some (.int .i64 r1.k) ∧ W.cell? ⟨b, 1, none⟩ = some (.int .i64 r1.i) ∧ W.cell? ⟨b, 2, none⟩ = some (.bool r1.b) ∧ W.cell? ⟨b, 3, none⟩ = some (.string r1.s) ∧ W.cell? ⟨b, 4, none⟩ = some (.float .f64 r1.n))) (hb : Below W.heap.size W W') => (show (TC w FA fn FC VA vn VC op (some ad) n c nm v W' ∧ THeldK w FA fn FC VA vn VC op ad n c ⟨ad.block, ad.off + 8, none⟩ p1 A1 n1 c1 m1 y1 W' ∧ W'.cell? ⟨b, 0, none⟩ = some (.int .i64 r1.k) ∧ W'.cell? ⟨b, 1, none⟩ = some (.int .i64 r1.i) ∧ W'.cell? ⟨b, 2, none⟩ = some (.bool r1.b) ∧ W'.cell? ⟨b, 3, none⟩ = some (.string r1.s) ∧ W'.cell? ⟨b, 4, none⟩ = some (.float .f64 r1.n)) from ⟨h.1.below2 (hb.mono h.1.2.1), HT.out _ (h.1.below2 (hb.mono h.1.2.1)), ((show Bx W b r1 from h.2.2).below hb)⟩))
          have HKZ := Lib.hid (fun (W : World) (u0 u1 u2 u3 u4 : Value) (h : (TC w FA fn FC VA vn VC op (some ad) n c nm v W ∧ THeldK w FA fn FC VA vn VC op ad n c ⟨ad.block, ad.off + 8, none⟩ p1 A1 n1 c1 m1 y1 W ∧ W.cell? ⟨b, 0, none⟩ = some (.int .i64 r1.k) ∧ W.cell? ⟨b, 1, none⟩ = some (.int .i64 r1.i) ∧ W.cell? ⟨b, 2, none⟩ = some (.bool r1.b) ∧ W.cell? ⟨b, 3, none⟩ = some (.string r1.s) ∧ W.cell? ⟨b, 4, none⟩ = some (.float .f64 r1.n))) => let hb := below_set5 (Below.refl (w.heap.size + 2) W) (show w.heap.size + 2 ≤ w.heap.size + 1 + 1 by omega) u0 u1 u2 u3 u4; (show (TC w FA fn FC VA vn VC op (some ad) n c nm v (((((W.setCell ⟨w.heap.size + 1 + 1, 0, none⟩ u0).setCell ⟨w.heap.size + 1 + 1, 1, none⟩ u1).setCell ⟨w.heap.size + 1 + 1, 2, none⟩ u2).setCell ⟨w.heap.size + 1 + 1, 3, none⟩ u3).setCell ⟨w.heap.size + 1 + 1, 4, none⟩ u4) ∧ THeldK w FA fn FC VA vn VC op ad n c ⟨ad.block, ad.off + 8, none⟩ p1 A1 n1 c1 m1 y1 (((((W.setCell ⟨w.heap.size + 1 + 1, 0, none⟩ u0).setCell ⟨w.heap.size + 1 + 1, 1, none⟩ u1).setCell ⟨w.heap.size + 1 + 1, 2, none⟩ u2).setCell ⟨w.heap.size + 1 + 1, 3, none⟩ u3).setCell ⟨w.heap.size + 1 + 1, 4, none⟩ u4) ∧ (((((W.setCell ⟨w.heap.size + 1 + 1, 0, none⟩ u0).setCell ⟨w.heap.size + 1 + 1, 1, none⟩ u1).setCell ⟨w.heap.size + 1 + 1, 2, none⟩ u2).setCell ⟨w.heap.size + 1 + 1, 3, none⟩ u3).setCell ⟨w.heap.size + 1 + 1, 4, none⟩ u4).cell? ⟨b, 0, none⟩ = some (.int .i64 r1.k) ∧ (((((W.setCell ⟨w.heap.size + 1 + 1, 0, none⟩ u0).setCell ⟨w.heap.size + 1 + 1, 1, none⟩ u1).setCell ⟨w.heap.size + 1 + 1, 2, none⟩ u2).setCell ⟨w.heap.size + 1 + 1, 3, none⟩ u3).setCell ⟨w.heap.size + 1 + 1, 4, none⟩ u4).cell? ⟨b, 1, none⟩ = some (.int .i64 r1.i) ∧ (((((W.setCell ⟨w.heap.size + 1 + 1, 0, none⟩ u0).setCell ⟨w.heap.size + 1 + 1, 1, none⟩ u1).setCell ⟨w.heap.size + 1 + 1, 2, none⟩ u2).setCell ⟨w.heap.size + 1 + 1, 3, none⟩ u3).setCell ⟨w.heap.size + 1 + 1, 4, none⟩ u4).cell? ⟨b, 2, none⟩ = some (.bool r1.b) ∧ (((((W.setCell ⟨w.heap.size + 1 + 1, 0, none⟩ u0).setCell ⟨w.heap.size + 1 + 1, 1, none⟩ u1).setCell ⟨w.heap.size + 1 + 1, 2, none⟩ u2).setCell ⟨w.heap.size + 1 + 1, 3, none⟩ u3).setCell ⟨w.heap.size + 1 + 1, 4, none⟩ u4).cell? ⟨b, 3, none⟩ = some (.string r1.s) ∧ (((((W.setCell ⟨w.heap.size + 1 + 1, 0, none⟩ u0).setCell ⟨w.heap.size + 1 + 1, 1, none⟩ u1).setCell ⟨w.heap.size + 1 + 1, 2, none⟩ u2).setCell ⟨w.heap.size + 1 + 1, 3, none⟩ u3).setCell ⟨w.heap.size + 1 + 1, 4, none⟩ u4).cell? ⟨b, 4, none⟩ = some (.float .f64 r1.n)) from ⟨h.1.below2 hb, HT.out _ (h.1.below2 hb), bx_off (show Bx W b r1 from h.2.2) (by omega) u0 u1 u2 u3 u4⟩))
          have hS1 : (fun W => (TC w FA fn FC VA vn VC op (some ad) n c nm v W ∧ THeldK w FA fn FC VA vn VC op ad n c ⟨ad.block, ad.off + 8, none⟩ p1 A1 n1 c1 m1 y1 W ∧ W.cell? ⟨b, 0, none⟩ = some (.int .i64 r1.k) ∧ W.cell? ⟨b, 1, none⟩ = some (.int .i64 r1.i) ∧ W.cell? ⟨b, 2, none⟩ = some (.bool r1.b) ∧ W.cell? ⟨b, 3, none⟩ = some (.string r1.s) ∧ W.cell? ⟨b, 4, none⟩ = some (.float .f64 r1.n))) wc.drew := ⟨hTB.tc.below2 (Below.refl _ _).drew, HT.out _ (hTB.tc.below2 (Below.refl _ _).drew), hx0, hx1, hx2, hx3, hx4⟩
          have HTB := Lib.hid hTB
          go_wp2_with fail
          refine wp_region_held_drew (S := (fun W => (TC w FA fn FC VA vn VC op (some ad) n c nm v W ∧ THeldK w FA fn FC VA vn VC op ad n c ⟨ad.block, ad.off + 8, none⟩ p1 A1 n1 c1 m1 y1 W ∧ W.cell? ⟨b, 0, none⟩ = some (.int .i64 r1.k) ∧ W.cell? ⟨b, 1, none⟩ = some (.int .i64 r1.i) ∧ W.cell? ⟨b, 2, none⟩ = some (.bool r1.b) ∧ W.cell? ⟨b, 3, none⟩ = some (.string r1.s) ∧ W.cell? ⟨b, 4, none⟩ = some (.float .f64 r1.n)))) (by kernel_rfl) (hS1) (fun hHeld => ?_)
          refine wpAnyH_take (i := 0) (oi := ?oi209) (v := ?v209) ?hi209 (by kernel_rfl) (by kernel_rfl) (by kernel_rfl) ?hQ209 (Or.inl ⟨?hw209, ?hy209⟩) (by assumption) ?rest209
          case hi209 => (simp only [gA, gB, gC]; rfl)
          case hQ209 => exact fun _ _ _ h => h
          case hw209 => rfl
          case hy209 => (intro w hSw; (try dsimp only at hSw); go_simp; try with_reducible rfl)
          (try simp only [Act.put, sA, sB, sC])
          refine wpAnyH_take (i := 1) (oi := ?oi210) (v := ?v210) ?hi210 (by kernel_rfl) (by kernel_rfl) (by kernel_rfl) ?hQ210 (Or.inl ⟨?hw210, ?hy210⟩) (by assumption) ?rest210
          case hi210 => (simp only [gA, gB, gC]; rfl)
          case hQ210 => exact fun _ _ _ h => h
          case hw210 => rfl
          case hy210 => (intro w hSw; (try dsimp only at hSw); go_simp; try with_reducible rfl)
          (try simp only [Act.put, sA, sB, sC])
          refine wpAnyH_take (i := 2) (oi := ?oi211) (v := ?v211) ?hi211 (by kernel_rfl) (by kernel_rfl) (by kernel_rfl) ?hQ211 (Or.inl ⟨?hw211, ?hy211⟩) (by assumption) ?rest211
          case hi211 => (simp only [gA, gB, gC]; rfl)
          case hQ211 => exact fun _ _ _ h => h
          case hw211 => rfl
          case hy211 => (intro w hSw; (try dsimp only at hSw); go_simp; try with_reducible rfl)
          (try simp only [Act.put, sA, sB, sC])
          refine wpAnyH_take (i := 3) (oi := ?oi212) (v := ?v212) ?hi212 (by kernel_rfl) (by kernel_rfl) (by kernel_rfl) ?hQ212 (Or.inl ⟨?hw212, ?hy212⟩) (by assumption) ?rest212
          case hi212 => (simp only [gA, gB, gC]; rfl)
          case hQ212 => exact fun _ _ _ h => h
          case hw212 => rfl
          case hy212 => (intro w hSw; (try dsimp only at hSw); go_simp; try with_reducible rfl)
          (try simp only [Act.put, sA, sB, sC])
          refine wpAnyH_take (i := 4) (oi := ?oi213) (v := ?v213) ?hi213 (by kernel_rfl) (by kernel_rfl) (by kernel_rfl) ?hQ213 (Or.inl ⟨?hw213, ?hy213⟩) (by assumption) ?rest213
          case hi213 => (simp only [gA, gB, gC]; rfl)
          case hQ213 => exact fun _ _ _ h => h
          case hw213 => rfl
          case hy213 => (intro w hSw; (try dsimp only at hSw); go_simp; try with_reducible rfl)
          (try simp only [Act.put, sA, sB, sC])
          refine wpAnyH_take (i := 5) (oi := ?oi214) (v := ?v214) ?hi214 (by kernel_rfl) (by kernel_rfl) (by kernel_rfl) ?hQ214 (Or.inl ⟨?hw214, ?hy214⟩) (by assumption) ?rest214
          case hi214 => (simp only [gA, gB, gC]; rfl)
          case hQ214 => exact fun _ _ _ h => h
          case hw214 => rfl
          case hy214 => (intro w hSw; (try dsimp only at hSw); go_simp; try with_reducible rfl)
          (try simp only [Act.put, sA, sB, sC])
          refine wpAnyH_take (i := 6) (oi := ?oi215) (v := ?v215) ?hi215 (by kernel_rfl) (by kernel_rfl) (by kernel_rfl) ?hQ215 (Or.inl ⟨?hw215, ?hy215⟩) (by assumption) ?rest215
          case hi215 => (simp only [gA, gB, gC]; rfl)
          case hQ215 => exact fun _ _ _ h => h
          case hw215 => rfl
          case hy215 => (intro w hSw; (try dsimp only at hSw); go_simp; try with_reducible rfl)
          (try simp only [Act.put, sA, sB, sC])
          refine wpAnyH_take (i := 7) (oi := ?oi216) (v := ?v216) ?hi216 (by kernel_rfl) (by kernel_rfl) (by kernel_rfl) ?hQ216 (Or.inl ⟨?hw216, ?hy216⟩) (by assumption) ?rest216
          case hi216 => (simp only [gA, gB, gC]; rfl)
          case hQ216 => exact fun _ _ _ h => h
          case hw216 => rfl
          case hy216 => (intro w hSw; (try dsimp only at hSw); go_simp; try with_reducible rfl)
          (try simp only [Act.put, sA, sB, sC])
          refine wpAnyH_ready (rs := [8]) (by kernel_rfl) (by simp) ?_
          refine AllReadyH.cons (o := ?o217) ?ho217 (fun K hK => ?st217) AllReadyH.nil
          case ho217 => (simp only [gA, gB, gC]; rfl)
          go_simp
          refine (H1.out _ hHeld.1.1).mono ?_; rintro e w2 ⟨rfl, hb2⟩
          refine hK.out _ _ ?_ (fun hHeld => ?_)
          · (try dsimp only); exact HK1.out _ _ hHeld hb2
          clear hK K
          (try simp only [Act.put, sA, sB, sC])
          refine wpAnyH_ready (rs := [9]) (by kernel_rfl) (by simp) ?_
          refine AllReadyH.cons (o := ?o218) ?ho218 (fun K hK => ?st218) AllReadyH.nil
          case ho218 => (simp only [gA, gB, gC]; rfl)
          go_simp
          refine (HPP.out _).mono ?_; rintro e w3 ⟨rfl, hb3⟩; obtain ⟨ou0, ou1, ou2, ou3, ou4, ov0, ov1, ov2, ov3, ov4, ovf⟩ := TB.out (((HTB.out.below (Below.refl _ _).drew).below hb2).below hb3)
          refine hK.out _ _ ?_ (fun hHeld => ?_)
          · (try dsimp only); exact HK1.out _ _ hHeld hb3
          clear hK K
          (try simp only [Act.put, sA, sB, sC])
          refine wpAnyH_ready (rs := [10]) (by kernel_rfl) (by simp) ?_
          refine AllReadyH.cons (o := ?o219) ?ho219 (fun K hK => ?st219) AllReadyH.nil
          case ho219 => (simp only [gA, gB, gC]; rfl)
          go_simp
          refine hK.out _ _ ?_ (fun hHeld => ?_)
          · (try dsimp only); exact HKZ.out _ _ _ _ _ _ hHeld
          clear hK K
          (try simp only [Act.put, sA, sB, sC])
          refine wpAnyH_done (by kernel_rfl) ?_ _
          go_wp2_with fail
          exact bodyPost_ret (v := agV t1) (by simp [results, Tryz.results148, go_sem, ov0, ov1, ov2, ov3, ov4]) rfl ⟨rfl, TB.done (((HTB.out.below (Below.refl _ _).drew).below hb2).below hb3) _ _ _ _ _⟩
      · have hp := fun W => (HP0.out W).mono (fun e w' h => (⟨h.1.trans (if_neg hz2), h.2⟩ : e = .panicked (PV t2) ∧ Below W.heap.size W w'))
        have HPP := Lib.hid hp
        have HZ2 := Lib.hid hz2
        clear hp HP0 hz2
        have htb : TB w FA fn FC VA vn VC op (some ad) n c nm v (((w.alloc (.cells #[.slice FA fn FC, .slice VA vn VC] 126)).alloc (.cells #[.int .i64 op, .slice (some ad) n c, .string nm, .int .i64 v.k, .int .i64 v.i, .bool v.b, .string v.s, .float .f64 v.n] 27)).alloc (.cells #[.int .i64 0, .int .i64 0, .bool false, .string { data := #[] }, .float .f64 0] 25)) := TB_new w FA fn FC VA vn VC op (some ad) n c nm v
        have HHELD := Lib.hid (fun W (hb : TB w FA fn FC VA vn VC op (some ad) n c nm v W) => (show THeld w FA fn FC VA vn VC ad n c p0 A0 n0 c0 m0 y0 W from let q := hq0 W hb.1; ⟨hb.2.2.1, hb.2.2.2.1, hb.2.2.2.2.1.2.1, q.1, q.2.1, q.2.2.1, q.2.2.2.1, q.2.2.2.2.1, q.2.2.2.2.2.1, q.2.2.2.2.2.2.1, q.2.2.2.2.2.2.2⟩))
        clear hq0
        have HKP := Lib.hid (fun (W W' : World) (h : TB w FA fn FC VA vn VC op (some ad) n c nm v W ∧ THeld w FA fn FC VA vn VC ad n c p0 A0 n0 c0 m0 y0 W) (hb : Below W.heap.size W W') => And.intro (h.1.below hb) (HHELD.out _ (h.1.below hb)))
        have HKS := Lib.hid (fun (W : World) (b : Nat) (u0 u1 u2 u3 u4 : Value) (hge : w.heap.size + 3 ≤ b) (h : TB w FA fn FC VA vn VC op (some ad) n c nm v W ∧ THeld w FA fn FC VA vn VC ad n c p0 A0 n0 c0 m0 y0 W) => let hb := below_set5 (Below.refl (w.heap.size + 3) W) hge u0 u1 u2 u3 u4; And.intro (h.1.below3 hb) (HHELD.out _ (h.1.below3 hb)))
        go_enter Tryz.func148, Tryz.ntmps148
        go_upto_region 6 with fail
        generalize ((w.alloc (.cells #[.slice FA fn FC, .slice VA vn VC] 126)).alloc (.cells #[.int .i64 op, .slice (some ad) n c, .string nm, .int .i64 v.k, .int .i64 v.i, .bool v.b, .string v.s, .float .f64 v.n] 27)).alloc (.cells #[.int .i64 0, .int .i64 0, .bool false, .string { data := #[] }, .float .f64 0] 25) = wb at *
        go_cut [5] from 23 to 28 (fun s5 wx => ∃ b, s5 = .pointer (some ⟨b, 0, none⟩) ∧ w.heap.size + 3 ≤ b ∧ TB w FA fn FC VA vn VC op (some ad) n c nm v wx ∧ Bx wx b r1)
        case first =>
          have hS0 : TB w FA fn FC VA vn VC op (some ad) n c nm v wb.drew ∧ THeld w FA fn FC VA vn VC ad n c p0 A0 n0 c0 m0 y0 wb.drew := ⟨htb.below (Below.refl _ _).drew, HHELD.out _ (htb.below (Below.refl _ _).drew)⟩
          refine wp_region_held_drew (S := (fun W => TB w FA fn FC VA vn VC op (some ad) n c nm v W ∧ THeld w FA fn FC VA vn VC ad n c p0 A0 n0 c0 m0 y0 W)) (by kernel_rfl) (hS0) (fun hHeld => ?_)
          refine wpAnyH_take (i := 0) (oi := ?oi252) (v := ?v252) ?hi252 (by kernel_rfl) (by kernel_rfl) (by kernel_rfl) ?hQ252 (Or.inl ⟨?hw252, ?hy252⟩) (by assumption) ?rest252
          case hi252 => (simp only [gA, gB, gC]; rfl)
          case hQ252 => exact fun _ _ _ h => h
          case hw252 => rfl
          case hy252 => (intro w hSw; (try dsimp only at hSw); go_simp; try with_reducible rfl)
          (try simp only [Act.put, sA, sB, sC])
          refine wpAnyH_take (i := 1) (oi := ?oi253) (v := ?v253) ?hi253 (by kernel_rfl) (by kernel_rfl) (by kernel_rfl) ?hQ253 (Or.inl ⟨?hw253, ?hy253⟩) (by assumption) ?rest253
          case hi253 => (simp only [gA, gB, gC]; rfl)
          case hQ253 => exact fun _ _ _ h => h
          case hw253 => rfl
          case hy253 => (intro w hSw; (try dsimp only at hSw); go_simp; try with_reducible rfl)
          (try simp only [Act.put, sA, sB, sC])
          refine wpAnyH_take (i := 2) (oi := ?oi254) (v := ?v254) ?hi254 (by kernel_rfl) (by kernel_rfl) (by kernel_rfl) ?hQ254 (Or.inl ⟨?hw254, ?hy254⟩) (by assumption) ?rest254
          case hi254 => (simp only [gA, gB, gC]; rfl)
          case hQ254 => exact fun _ _ _ h => h
          case hw254 => rfl
          case hy254 => (intro w hSw; (try dsimp only at hSw); go_simp; try with_reducible rfl)
          (try simp only [Act.put, sA, sB, sC])
          refine wpAnyH_take (i := 3) (oi := ?oi255) (v := ?v255) ?hi255 (by kernel_rfl) (by kernel_rfl) (by kernel_rfl) ?hQ255 (Or.inl ⟨?hw255, ?hy255⟩) (by assumption) ?rest255
          case hi255 => (simp only [gA, gB, gC]; rfl)
          case hQ255 => exact fun _ _ _ h => h
          case hw255 => rfl
          case hy255 => (intro w hSw; (try dsimp only at hSw); go_simp; try with_reducible rfl)
          (try simp only [Act.put, sA, sB, sC])
          refine wpAnyH_take (i := 4) (oi := ?oi256) (v := ?v256) ?hi256 (by kernel_rfl) (by kernel_rfl) (by kernel_rfl) ?hQ256 (Or.inl ⟨?hw256, ?hy256⟩) (by assumption) ?rest256
          case hi256 => (simp only [gA, gB, gC]; rfl)
          case hQ256 => exact fun _ _ _ h => h
          case hw256 => rfl
          case hy256 => (intro w hSw; (try dsimp only at hSw); go_simp; try with_reducible rfl)
          (try simp only [Act.put, sA, sB, sC])
          refine wpAnyH_ready (rs := [5, 6]) (by kernel_rfl) (by simp) ?_
          refine AllReadyH.cons (o := ?o257) ?ho257 (fun K hK => ?st257) (AllReadyH.cons (o := ?o258) ?ho258 (fun K hK => ?st258) AllReadyH.nil)
          case ho257 => (simp only [gA, gB, gC]; rfl)
          case ho258 => (simp only [gA, gB, gC]; rfl)
          · go_simp
            refine (H0.out _ (And.left (And.left hHeld))).mono ?_; rintro e wA ⟨rfl, hbA⟩; have hSA := HKP.out _ _ hHeld hbA
            refine hK.out _ _ ?_ (fun hHeld => ?_)
            · (try dsimp only); exact hSA
            clear hK K
            (try simp only [Act.put, sA, sB, sC])
            refine wpAnyH_ready (rs := [6]) (by kernel_rfl) (by simp) ?_
            refine AllReadyH.cons (o := ?o259) ?ho259 (fun K hK => ?st259) AllReadyH.nil
            case ho259 => (simp only [gA, gB, gC]; rfl)
            go_simp
            refine hK.out _ _ ?_ (fun hHeld => ?_)
            · (try dsimp only); exact HKP.out _ _ hSA (alloc1 _ _)
            clear hK K
            (try simp only [Act.put, sA, sB, sC])
            refine wpAnyH_ready (rs := [7]) (by kernel_rfl) (by simp) ?_
            refine AllReadyH.cons (o := ?o260) ?ho260 (fun K hK => ?st260) AllReadyH.nil
            case ho260 => (simp only [gA, gB, gC]; rfl)
            go_simp
            refine hK.out _ _ ?_ (fun hHeld => ?_)
            · (try dsimp only); exact HKP.out _ _ hSA (alloc1 _ _)
            clear hK K
            (try simp only [Act.put, sA, sB, sC])
            refine wpAnyH_done (by kernel_rfl) ?_ _
            go_wp2_with fail
            go_meet
            exact ⟨_, rfl, hSA.1.2.1, hHeld.1, Bx.new _ r1⟩
          · go_simp
            refine hK.out _ _ ?_ (fun hHeld => ?_)
            · (try dsimp only); exact HKP.out _ _ hS0 (alloc1 _ _)
            clear hK K
            (try simp only [Act.put, sA, sB, sC])
            refine wpAnyH_ready (rs := [5]) (by kernel_rfl) (by simp) ?_
            refine AllReadyH.cons (o := ?o261) ?ho261 (fun K hK => ?st261) AllReadyH.nil
            case ho261 => (simp only [gA, gB, gC]; rfl)
            go_simp
            refine (H0.out _ (And.left (And.left hHeld))).mono ?_; rintro e wA ⟨rfl, hbA⟩; have hSA := HKP.out _ _ hHeld hbA; obtain ⟨e0, e1, e2, e3, e4, ef⟩ := newcells hbA
            refine hK.out _ _ ?_ (fun hHeld => ?_)
            · (try dsimp only); exact hSA
            clear hK K
            (try simp only [Act.put, sA, sB, sC])
            refine wpAnyH_ready (rs := [7]) (by kernel_rfl) (by simp) ?_
            refine AllReadyH.cons (o := ?o262) ?ho262 (fun K hK => ?st262) AllReadyH.nil
            case ho262 => (simp only [gA, gB, gC]; rfl)
            go_simp
            refine hK.out _ _ ?_ (fun hHeld => ?_)
            · (try dsimp only); exact HKS.out _ _ _ _ _ _ _ htb.2.1 hSA
            clear hK K
            (try simp only [Act.put, sA, sB, sC])
            refine wpAnyH_done (by kernel_rfl) ?_ _
            go_wp2_with fail
            go_meet
            exact ⟨_, rfl, htb.2.1, hHeld.1, bx_set e0 e1 e2 e3 e4⟩
        case rest =>
          clear htb HHELD HKP HKS
          obtain ⟨b, rfl, hbge, hTB, hx0, hx1, hx2, hx3, hx4⟩ := hcut
          obtain ⟨d0, d1, d2, d3, d4, d5, d6, d7⟩ := hTB.2.2.2.2.1
          have g0 := hTB.2.2.1
          have g1 := hTB.2.2.2.1
          have HT := Lib.hid (fun W (hb : TC w FA fn FC VA vn VC op (some ad) n c nm v W) => (show THeldK w FA fn FC VA vn VC op ad n c ⟨ad.block, ad.off + 8, none⟩ p1 A1 n1 c1 m1 y1 W from let q := HQ1.out W hb.1; ⟨hb.2.2.1, hb.2.2.2.1, hb.2.2.2.2.1, hb.2.2.2.2.2.1, q.1, q.2.1, q.2.2.1, q.2.2.2.1, q.2.2.2.2.1, q.2.2.2.2.2.1, q.2.2.2.2.2.2.1, q.2.2.2.2.2.2.2⟩))
          have HK1 := Lib.hid (fun (W W' : World) (h : (TC w FA fn FC VA vn VC op (some ad) n c nm v W ∧ THeldK w FA fn FC VA vn VC op ad n c ⟨ad.block, ad.off + 8, none⟩ p1 A1 n1 c1 m1 y1 W ∧ W.cell? ⟨b, 0, none⟩ = some (.int .i64 r1.k) ∧ W.cell? ⟨b, 1, none⟩ = some (.int .i64 r1.i) ∧ W.cell? ⟨b, 2, none⟩ = some (.bool r1.b) ∧ W.cell? ⟨b, 3, none⟩ = some (.string r1.s) ∧ W.cell? ⟨b, 4, none⟩ = some (.float .f64 r1.n))) (hb : Below W.heap.size W W') => (show (TC w FA fn FC VA vn VC op (some ad) n c nm v W' ∧ THeldK w FA fn FC VA vn VC op ad n c ⟨ad.block, ad.off + 8, none⟩ p1 A1 n1 c1 m1 y1 W' ∧ W'.cell? ⟨b, 0, none⟩ = some (.int .i64 r1.k) ∧ W'.cell? ⟨b, 1, none⟩ = some (.int .i64 r1.i) ∧ W'.cell? ⟨b, 2, none⟩ = some (.bool r1.b) ∧ W'.cell? ⟨b, 3, none⟩ = some (.string r1.s) ∧ W'.cell? ⟨b, 4, none⟩ = some (.float .f64 r1.n)) from ⟨h.1.below2 (hb.mono h.1.2.1), HT.out _ (h.1.below2 (hb.mono h.1.2.1)), ((show Bx W b r1 from h.2.2).below hb)⟩))
          have HKZ := Lib.hid (fun (W : World) (u0 u1 u2 u3 u4 : Value) (h : (TC w FA fn FC VA vn VC op (some ad) n c nm v W ∧ THeldK w FA fn FC VA vn VC op ad n c ⟨ad.block, ad.off + 8, none⟩ p1 A1 n1 c1 m1 y1 W ∧ W.cell? ⟨b, 0, none⟩ = some (.int .i64 r1.k) ∧ W.cell? ⟨b, 1, none⟩ = some (.int .i64 r1.i) ∧ W.cell? ⟨b, 2, none⟩ = some (.bool r1.b) ∧ W.cell? ⟨b, 3, none⟩ = some (.string r1.s) ∧ W.cell? ⟨b, 4, none⟩ = some (.float .f64 r1.n))) => let hb := below_set5 (Below.refl (w.heap.size + 2) W) (show w.heap.size + 2 ≤ w.heap.size + 1 + 1 by omega) u0 u1 u2 u3 u4; (show (TC w FA fn FC VA vn VC op (some ad) n c nm v (((((W.setCell ⟨w.heap.size + 1 + 1, 0, none⟩ u0).setCell ⟨w.heap.size + 1 + 1, 1, none⟩ u1).setCell ⟨w.heap.size + 1 + 1, 2, none⟩ u2).setCell ⟨w.heap.size + 1 + 1, 3, none⟩ u3).setCell ⟨w.heap.size + 1 + 1, 4, none⟩ u4) ∧ THeldK w FA fn FC VA vn VC op ad n c ⟨ad.block, ad.off + 8, none⟩ p1 A1 n1 c1 m1 y1 (((((W.setCell ⟨w.heap.size + 1 + 1, 0, none⟩ u0).setCell ⟨w.heap.size + 1 + 1, 1, none⟩ u1).setCell ⟨w.heap.size + 1 + 1, 2, none⟩ u2).setCell ⟨w.heap.size + 1 + 1, 3, none⟩ u3).setCell ⟨w.heap.size + 1 + 1, 4, none⟩ u4) ∧ (((((W.setCell ⟨w.heap.size + 1 + 1, 0, none⟩ u0).setCell ⟨w.heap.size + 1 + 1, 1, none⟩ u1).setCell ⟨w.heap.size + 1 + 1, 2, none⟩ u2).setCell ⟨w.heap.size + 1 + 1, 3, none⟩ u3).setCell ⟨w.heap.size + 1 + 1, 4, none⟩ u4).cell? ⟨b, 0, none⟩ = some (.int .i64 r1.k) ∧ (((((W.setCell ⟨w.heap.size + 1 + 1, 0, none⟩ u0).setCell ⟨w.heap.size + 1 + 1, 1, none⟩ u1).setCell ⟨w.heap.size + 1 + 1, 2, none⟩ u2).setCell ⟨w.heap.size + 1 + 1, 3, none⟩ u3).setCell ⟨w.heap.size + 1 + 1, 4, none⟩ u4).cell? ⟨b, 1, none⟩ = some (.int .i64 r1.i) ∧ (((((W.setCell ⟨w.heap.size + 1 + 1, 0, none⟩ u0).setCell ⟨w.heap.size + 1 + 1, 1, none⟩ u1).setCell ⟨w.heap.size + 1 + 1, 2, none⟩ u2).setCell ⟨w.heap.size + 1 + 1, 3, none⟩ u3).setCell ⟨w.heap.size + 1 + 1, 4, none⟩ u4).cell? ⟨b, 2, none⟩ = some (.bool r1.b) ∧ (((((W.setCell ⟨w.heap.size + 1 + 1, 0, none⟩ u0).setCell ⟨w.heap.size + 1 + 1, 1, none⟩ u1).setCell ⟨w.heap.size + 1 + 1, 2, none⟩ u2).setCell ⟨w.heap.size + 1 + 1, 3, none⟩ u3).setCell ⟨w.heap.size + 1 + 1, 4, none⟩ u4).cell? ⟨b, 3, none⟩ = some (.string r1.s) ∧ (((((W.setCell ⟨w.heap.size + 1 + 1, 0, none⟩ u0).setCell ⟨w.heap.size + 1 + 1, 1, none⟩ u1).setCell ⟨w.heap.size + 1 + 1, 2, none⟩ u2).setCell ⟨w.heap.size + 1 + 1, 3, none⟩ u3).setCell ⟨w.heap.size + 1 + 1, 4, none⟩ u4).cell? ⟨b, 4, none⟩ = some (.float .f64 r1.n)) from ⟨h.1.below2 hb, HT.out _ (h.1.below2 hb), bx_off (show Bx W b r1 from h.2.2) (by omega) u0 u1 u2 u3 u4⟩))
          have hS1 : (fun W => (TC w FA fn FC VA vn VC op (some ad) n c nm v W ∧ THeldK w FA fn FC VA vn VC op ad n c ⟨ad.block, ad.off + 8, none⟩ p1 A1 n1 c1 m1 y1 W ∧ W.cell? ⟨b, 0, none⟩ = some (.int .i64 r1.k) ∧ W.cell? ⟨b, 1, none⟩ = some (.int .i64 r1.i) ∧ W.cell? ⟨b, 2, none⟩ = some (.bool r1.b) ∧ W.cell? ⟨b, 3, none⟩ = some (.string r1.s) ∧ W.cell? ⟨b, 4, none⟩ = some (.float .f64 r1.n))) wc.drew := ⟨hTB.tc.below2 (Below.refl _ _).drew, HT.out _ (hTB.tc.below2 (Below.refl _ _).drew), hx0, hx1, hx2, hx3, hx4⟩
          have HTB := Lib.hid hTB
          go_wp2_with fail
          refine wp_region_held_drew (S := (fun W => (TC w FA fn FC VA vn VC op (some ad) n c nm v W ∧ THeldK w FA fn FC VA vn VC op ad n c ⟨ad.block, ad.off + 8, none⟩ p1 A1 n1 c1 m1 y1 W ∧ W.cell? ⟨b, 0, none⟩ = some (.int .i64 r1.k) ∧ W.cell? ⟨b, 1, none⟩ = some (.int .i64 r1.i) ∧ W.cell? ⟨b, 2, none⟩ = some (.bool r1.b) ∧ W.cell? ⟨b, 3, none⟩ = some (.string r1.s) ∧ W.cell? ⟨b, 4, none⟩ = some (.float .f64 r1.n)))) (by kernel_rfl) (hS1) (fun hHeld => ?_)
          refine wpAnyH_take (i := 0) (oi := ?oi220) (v := ?v220) ?hi220 (by kernel_rfl) (by kernel_rfl) (by kernel_rfl) ?hQ220 (Or.inl ⟨?hw220, ?hy220⟩) (by assumption) ?rest220
          case hi220 => (simp only [gA, gB, gC]; rfl)
          case hQ220 => exact fun _ _ _ h => h
          case hw220 => rfl
          case hy220 => (intro w hSw; (try dsimp only at hSw); go_simp; try with_reducible rfl)
          (try simp only [Act.put, sA, sB, sC])
          refine wpAnyH_take (i := 1) (oi := ?oi221) (v := ?v221) ?hi221 (by kernel_rfl) (by kernel_rfl) (by kernel_rfl) ?hQ221 (Or.inl ⟨?hw221, ?hy221⟩) (by assumption) ?rest221
          case hi221 => (simp only [gA, gB, gC]; rfl)
          case hQ221 => exact fun _ _ _ h => h
          case hw221 => rfl
          case hy221 => (intro w hSw; (try dsimp only at hSw); go_simp; try with_reducible rfl)
          (try simp only [Act.put, sA, sB, sC])
          refine wpAnyH_take (i := 2) (oi := ?oi222) (v := ?v222) ?hi222 (by kernel_rfl) (by kernel_rfl) (by kernel_rfl) ?hQ222 (Or.inl ⟨?hw222, ?hy222⟩) (by assumption) ?rest222
          case hi222 => (simp only [gA, gB, gC]; rfl)
          case hQ222 => exact fun _ _ _ h => h
          case hw222 => rfl
          case hy222 => (intro w hSw; (try dsimp only at hSw); go_simp; try with_reducible rfl)
          (try simp only [Act.put, sA, sB, sC])
          refine wpAnyH_take (i := 3) (oi := ?oi223) (v := ?v223) ?hi223 (by kernel_rfl) (by kernel_rfl) (by kernel_rfl) ?hQ223 (Or.inl ⟨?hw223, ?hy223⟩) (by assumption) ?rest223
          case hi223 => (simp only [gA, gB, gC]; rfl)
          case hQ223 => exact fun _ _ _ h => h
          case hw223 => rfl
          case hy223 => (intro w hSw; (try dsimp only at hSw); go_simp; try with_reducible rfl)
          (try simp only [Act.put, sA, sB, sC])
          refine wpAnyH_take (i := 4) (oi := ?oi224) (v := ?v224) ?hi224 (by kernel_rfl) (by kernel_rfl) (by kernel_rfl) ?hQ224 (Or.inl ⟨?hw224, ?hy224⟩) (by assumption) ?rest224
          case hi224 => (simp only [gA, gB, gC]; rfl)
          case hQ224 => exact fun _ _ _ h => h
          case hw224 => rfl
          case hy224 => (intro w hSw; (try dsimp only at hSw); go_simp; try with_reducible rfl)
          (try simp only [Act.put, sA, sB, sC])
          refine wpAnyH_take (i := 5) (oi := ?oi225) (v := ?v225) ?hi225 (by kernel_rfl) (by kernel_rfl) (by kernel_rfl) ?hQ225 (Or.inl ⟨?hw225, ?hy225⟩) (by assumption) ?rest225
          case hi225 => (simp only [gA, gB, gC]; rfl)
          case hQ225 => exact fun _ _ _ h => h
          case hw225 => rfl
          case hy225 => (intro w hSw; (try dsimp only at hSw); go_simp; try with_reducible rfl)
          (try simp only [Act.put, sA, sB, sC])
          refine wpAnyH_take (i := 6) (oi := ?oi226) (v := ?v226) ?hi226 (by kernel_rfl) (by kernel_rfl) (by kernel_rfl) ?hQ226 (Or.inl ⟨?hw226, ?hy226⟩) (by assumption) ?rest226
          case hi226 => (simp only [gA, gB, gC]; rfl)
          case hQ226 => exact fun _ _ _ h => h
          case hw226 => rfl
          case hy226 => (intro w hSw; (try dsimp only at hSw); go_simp; try with_reducible rfl)
          (try simp only [Act.put, sA, sB, sC])
          refine wpAnyH_take (i := 7) (oi := ?oi227) (v := ?v227) ?hi227 (by kernel_rfl) (by kernel_rfl) (by kernel_rfl) ?hQ227 (Or.inl ⟨?hw227, ?hy227⟩) (by assumption) ?rest227
          case hi227 => (simp only [gA, gB, gC]; rfl)
          case hQ227 => exact fun _ _ _ h => h
          case hw227 => rfl
          case hy227 => (intro w hSw; (try dsimp only at hSw); go_simp; try with_reducible rfl)
          (try simp only [Act.put, sA, sB, sC])
          refine wpAnyH_ready (rs := [8]) (by kernel_rfl) (by simp) ?_
          refine AllReadyH.cons (o := ?o228) ?ho228 (fun K hK => ?st228) AllReadyH.nil
          case ho228 => (simp only [gA, gB, gC]; rfl)
          go_simp
          refine (H1.out _ hHeld.1.1).mono ?_; rintro e w2 ⟨rfl, hb2⟩
          refine hK.out _ _ ?_ (fun hHeld => ?_)
          · (try dsimp only); exact HK1.out _ _ hHeld hb2
          clear hK K
          (try simp only [Act.put, sA, sB, sC])
          refine wpAnyH_ready (rs := [9]) (by kernel_rfl) (by simp) ?_
          refine AllReadyH.cons (o := ?o229) ?ho229 (fun K hK => ?st229) AllReadyH.nil
          case ho229 => (simp only [gA, gB, gC]; rfl)
          go_simp
          refine (HPP.out _).mono ?_; rintro e w3 ⟨rfl, hb3⟩
          exact ⟨rfl, (if_neg HZ2.out).symm, (((HTB.out.below (Below.refl _ _).drew).below hb2).below hb3).1⟩
    · have h1 := fun W hb => (H1.out W hb).mono (fun e w' h => (⟨h.1.trans (if_neg hz1), h.2⟩ : e = .panicked (PV s2) ∧ Below W.heap.size W w'))
      clear H1
      have H1 := Lib.hid h1
      have HZ1 := Lib.hid hz1
      rw [if_pos hz1]
      clear h1 hz1 hp
      have htb : TB w FA fn FC VA vn VC op (some ad) n c nm v (((w.alloc (.cells #[.slice FA fn FC, .slice VA vn VC] 126)).alloc (.cells #[.int .i64 op, .slice (some ad) n c, .string nm, .int .i64 v.k, .int .i64 v.i, .bool v.b, .string v.s, .float .f64 v.n] 27)).alloc (.cells #[.int .i64 0, .int .i64 0, .bool false, .string { data := #[] }, .float .f64 0] 25)) := TB_new w FA fn FC VA vn VC op (some ad) n c nm v
      have HHELD := Lib.hid (fun W (hb : TB w FA fn FC VA vn VC op (some ad) n c nm v W) => (show THeld w FA fn FC VA vn VC ad n c p0 A0 n0 c0 m0 y0 W from let q := hq0 W hb.1; ⟨hb.2.2.1, hb.2.2.2.1, hb.2.2.2.2.1.2.1, q.1, q.2.1, q.2.2.1, q.2.2.2.1, q.2.2.2.2.1, q.2.2.2.2.2.1, q.2.2.2.2.2.2.1, q.2.2.2.2.2.2.2⟩))
      clear hq0
      have HKP := Lib.hid (fun (W W' : World) (h : TB w FA fn FC VA vn VC op (some ad) n c nm v W ∧ THeld w FA fn FC VA vn VC ad n c p0 A0 n0 c0 m0 y0 W) (hb : Below W.heap.size W W') => And.intro (h.1.below hb) (HHELD.out _ (h.1.below hb)))
      have HKS := Lib.hid (fun (W : World) (b : Nat) (u0 u1 u2 u3 u4 : Value) (hge : w.heap.size + 3 ≤ b) (h : TB w FA fn FC VA vn VC op (some ad) n c nm v W ∧ THeld w FA fn FC VA vn VC ad n c p0 A0 n0 c0 m0 y0 W) => let hb := below_set5 (Below.refl (w.heap.size + 3) W) hge u0 u1 u2 u3 u4; And.intro (h.1.below3 hb) (HHELD.out _ (h.1.below3 hb)))
      go_enter Tryz.func148, Tryz.ntmps148
      go_upto_region 6 with fail
      generalize ((w.alloc (.cells #[.slice FA fn FC, .slice VA vn VC] 126)).alloc (.cells #[.int .i64 op, .slice (some ad) n c, .string nm, .int .i64 v.k, .int .i64 v.i, .bool v.b, .string v.s, .float .f64 v.n] 27)).alloc (.cells #[.int .i64 0, .int .i64 0, .bool false, .string { data := #[] }, .float .f64 0] 25) = wb at *
      go_cut [5] from 23 to 28 (fun s5 wx => ∃ b, s5 = .pointer (some ⟨b, 0, none⟩) ∧ w.heap.size + 3 ≤ b ∧ TB w FA fn FC VA vn VC op (some ad) n c nm v wx ∧ Bx wx b r1)
      case first =>
        have hS0 : TB w FA fn FC VA vn VC op (some ad) n c nm v wb.drew ∧ THeld w FA fn FC VA vn VC ad n c p0 A0 n0 c0 m0 y0 wb.drew := ⟨htb.below (Below.refl _ _).drew, HHELD.out _ (htb.below (Below.refl _ _).drew)⟩
        refine wp_region_held_drew (S := (fun W => TB w FA fn FC VA vn VC op (some ad) n c nm v W ∧ THeld w FA fn FC VA vn VC ad n c p0 A0 n0 c0 m0 y0 W)) (by kernel_rfl) (hS0) (fun hHeld => ?_)
        refine wpAnyH_take (i := 0) (oi := ?oi230) (v := ?v230) ?hi230 (by kernel_rfl) (by kernel_rfl) (by kernel_rfl) ?hQ230 (Or.inl ⟨?hw230, ?hy230⟩) (by assumption) ?rest230
        case hi230 => (simp only [gA, gB, gC]; rfl)
        case hQ230 => exact fun _ _ _ h => h
        case hw230 => rfl
        case hy230 => (intro w hSw; (try dsimp only at hSw); go_simp; try with_reducible rfl)
        (try simp only [Act.put, sA, sB, sC])
        refine wpAnyH_take (i := 1) (oi := ?oi231) (v := ?v231) ?hi231 (by kernel_rfl) (by kernel_rfl) (by kernel_rfl) ?hQ231 (Or.inl ⟨?hw231, ?hy231⟩) (by assumption) ?rest231
        case hi231 => (simp only [gA, gB, gC]; rfl)
        case hQ231 => exact fun _ _ _ h => h
        case hw231 => rfl
        case hy231 => (intro w hSw; (try dsimp only at hSw); go_simp; try with_reducible rfl)
        (try simp only [Act.put, sA, sB, sC])
        refine wpAnyH_take (i := 2) (oi := ?oi232) (v := ?v232) ?hi232 (by kernel_rfl) (by kernel_rfl) (by kernel_rfl) ?hQ232 (Or.inl ⟨?hw232, ?hy232⟩) (by assumption) ?rest232
        case hi232 => (simp only [gA, gB, gC]; rfl)
        case hQ232 => exact fun _ _ _ h => h
        case hw232 => rfl
        case hy232 => (intro w hSw; (try dsimp only at hSw); go_simp; try with_reducible rfl)
        (try simp only [Act.put, sA, sB, sC])
        refine wpAnyH_take (i := 3) (oi := ?oi233) (v := ?v233) ?hi233 (by kernel_rfl) (by kernel_rfl) (by kernel_rfl) ?hQ233 (Or.inl ⟨?hw233, ?hy233⟩) (by assumption) ?rest233
        case hi233 => (simp only [gA, gB, gC]; rfl)
        case hQ233 => exact fun _ _ _ h => h
        case hw233 => rfl
        case hy233 => (intro w hSw; (try dsimp only at hSw); go_simp; try with_reducible rfl)
        (try simp only [Act.put, sA, sB, sC])
        refine wpAnyH_take (i := 4) (oi := ?oi234) (v := ?v234) ?hi234 (by kernel_rfl) (by kernel_rfl) (by kernel_rfl) ?hQ234 (Or.inl ⟨?hw234, ?hy234⟩) (by assumption) ?rest234
        case hi234 => (simp only [gA, gB, gC]; rfl)
        case hQ234 => exact fun _ _ _ h => h
        case hw234 => rfl
        case hy234 => (intro w hSw; (try dsimp only at hSw); go_simp; try with_reducible rfl)
        (try simp only [Act.put, sA, sB, sC])
        refine wpAnyH_ready (rs := [5, 6]) (by kernel_rfl) (by simp) ?_
        refine AllReadyH.cons (o := ?o235) ?ho235 (fun K hK => ?st235) (AllReadyH.cons (o := ?o236) ?ho236 (fun K hK => ?st236) AllReadyH.nil)
        case ho235 => (simp only [gA, gB, gC]; rfl)
        case ho236 => (simp only [gA, gB, gC]; rfl)
        · go_simp
          refine (H0.out _ (And.left (And.left hHeld))).mono ?_; rintro e wA ⟨rfl, hbA⟩; have hSA := HKP.out _ _ hHeld hbA
          refine hK.out _ _ ?_ (fun hHeld => ?_)
          · (try dsimp only); exact hSA
          clear hK K
          (try simp only [Act.put, sA, sB, sC])
          refine wpAnyH_ready (rs := [6]) (by kernel_rfl) (by simp) ?_
          refine AllReadyH.cons (o := ?o237) ?ho237 (fun K hK => ?st237) AllReadyH.nil
          case ho237 => (simp only [gA, gB, gC]; rfl)
          go_simp
          refine hK.out _ _ ?_ (fun hHeld => ?_)
          · (try dsimp only); exact HKP.out _ _ hSA (alloc1 _ _)
          clear hK K
          (try simp only [Act.put, sA, sB, sC])
          refine wpAnyH_ready (rs := [7]) (by kernel_rfl) (by simp) ?_
          refine AllReadyH.cons (o := ?o238) ?ho238 (fun K hK => ?st238) AllReadyH.nil
          case ho238 => (simp only [gA, gB, gC]; rfl)
          go_simp
          refine hK.out _ _ ?_ (fun hHeld => ?_)
          · (try dsimp only); exact HKP.out _ _ hSA (alloc1 _ _)
          clear hK K
          (try simp only [Act.put, sA, sB, sC])
          refine wpAnyH_done (by kernel_rfl) ?_ _
          go_wp2_with fail
          go_meet
          exact ⟨_, rfl, hSA.1.2.1, hHeld.1, Bx.new _ r1⟩
        · go_simp
          refine hK.out _ _ ?_ (fun hHeld => ?_)
          · (try dsimp only); exact HKP.out _ _ hS0 (alloc1 _ _)
          clear hK K
          (try simp only [Act.put, sA, sB, sC])
          refine wpAnyH_ready (rs := [5]) (by kernel_rfl) (by simp) ?_
          refine AllReadyH.cons (o := ?o239) ?ho239 (fun K hK => ?st239) AllReadyH.nil
          case ho239 => (simp only [gA, gB, gC]; rfl)
          go_simp
          refine (H0.out _ (And.left (And.left hHeld))).mono ?_; rintro e wA ⟨rfl, hbA⟩; have hSA := HKP.out _ _ hHeld hbA; obtain ⟨e0, e1, e2, e3, e4, ef⟩ := newcells hbA
          refine hK.out _ _ ?_ (fun hHeld => ?_)
          · (try dsimp only); exact hSA
          clear hK K
          (try simp only [Act.put, sA, sB, sC])
          refine wpAnyH_ready (rs := [7]) (by kernel_rfl) (by simp) ?_
          refine AllReadyH.cons (o := ?o240) ?ho240 (fun K hK => ?st240) AllReadyH.nil
          case ho240 => (simp only [gA, gB, gC]; rfl)
          go_simp
          refine hK.out _ _ ?_ (fun hHeld => ?_)
          · (try dsimp only); exact HKS.out _ _ _ _ _ _ _ htb.2.1 hSA
          clear hK K
          (try simp only [Act.put, sA, sB, sC])
          refine wpAnyH_done (by kernel_rfl) ?_ _
          go_wp2_with fail
          go_meet
          exact ⟨_, rfl, htb.2.1, hHeld.1, bx_set e0 e1 e2 e3 e4⟩
      case rest =>
        clear htb HHELD HKP HKS
        obtain ⟨b, rfl, hbge, hTB, hx0, hx1, hx2, hx3, hx4⟩ := hcut
        obtain ⟨d0, d1, d2, d3, d4, d5, d6, d7⟩ := hTB.2.2.2.2.1
        have g0 := hTB.2.2.1
        have g1 := hTB.2.2.2.1
        have HT := Lib.hid (fun W (hb : TC w FA fn FC VA vn VC op (some ad) n c nm v W) => (show THeldK w FA fn FC VA vn VC op ad n c ⟨ad.block, ad.off + 8, none⟩ p1 A1 n1 c1 m1 y1 W from let q := HQ1.out W hb.1; ⟨hb.2.2.1, hb.2.2.2.1, hb.2.2.2.2.1, hb.2.2.2.2.2.1, q.1, q.2.1, q.2.2.1, q.2.2.2.1, q.2.2.2.2.1, q.2.2.2.2.2.1, q.2.2.2.2.2.2.1, q.2.2.2.2.2.2.2⟩))
        have HK1 := Lib.hid (fun (W W' : World) (h : (TC w FA fn FC VA vn VC op (some ad) n c nm v W ∧ THeldK w FA fn FC VA vn VC op ad n c ⟨ad.block, ad.off + 8, none⟩ p1 A1 n1 c1 m1 y1 W ∧ W.cell? ⟨b, 0, none⟩ = some (.int .i64 r1.k) ∧ W.cell? ⟨b, 1, none⟩ = some (.int .i64 r1.i) ∧ W.cell? ⟨b, 2, none⟩ = some (.bool r1.b) ∧ W.cell? ⟨b, 3, none⟩ = some (.string r1.s) ∧ W.cell? ⟨b, 4, none⟩ = some (.float .f64 r1.n))) (hb : Below W.heap.size W W') => (show (TC w FA fn FC VA vn VC op (some ad) n c nm v W' ∧ THeldK w FA fn FC VA vn VC op ad n c ⟨ad.block, ad.off + 8, none⟩ p1 A1 n1 c1 m1 y1 W' ∧ W'.cell? ⟨b, 0, none⟩ = some (.int .i64 r1.k) ∧ W'.cell? ⟨b, 1, none⟩ = some (.int .i64 r1.i) ∧ W'.cell? ⟨b, 2, none⟩ = some (.bool r1.b) ∧ W'.cell? ⟨b, 3, none⟩ = some (.string r1.s) ∧ W'.cell? ⟨b, 4, none⟩ = some (.float .f64 r1.n)) from ⟨h.1.below2 (hb.mono h.1.2.1), HT.out _ (h.1.below2 (hb.mono h.1.2.1)), ((show Bx W b r1 from h.2.2).below hb)⟩))
        have HKZ := Lib.hid (fun (W : World) (u0 u1 u2 u3 u4 : Value) (h : (TC w FA fn FC VA vn VC op (some ad) n c nm v W ∧ THeldK w FA fn FC VA vn VC op ad n c ⟨ad.block, ad.off + 8, none⟩ p1 A1 n1 c1 m1 y1 W ∧ W.cell? ⟨b, 0, none⟩ = some (.int .i64 r1.k) ∧ W.cell? ⟨b, 1, none⟩ = some (.int .i64 r1.i) ∧ W.cell? ⟨b, 2, none⟩ = some (.bool r1.b) ∧ W.cell? ⟨b, 3, none⟩ = some (.string r1.s) ∧ W.cell? ⟨b, 4, none⟩ = some (.float .f64 r1.n))) => let hb := below_set5 (Below.refl (w.heap.size + 2) W) (show w.heap.size + 2 ≤ w.heap.size + 1 + 1 by omega) u0 u1 u2 u3 u4; (show (TC w FA fn FC VA vn VC op (some ad) n c nm v (((((W.setCell ⟨w.heap.size + 1 + 1, 0, none⟩ u0).setCell ⟨w.heap.size + 1 + 1, 1, none⟩ u1).setCell ⟨w.heap.size + 1 + 1, 2, none⟩ u2).setCell ⟨w.heap.size + 1 + 1, 3, none⟩ u3).setCell ⟨w.heap.size + 1 + 1, 4, none⟩ u4) ∧ THeldK w FA fn FC VA vn VC op ad n c ⟨ad.block, ad.off + 8, none⟩ p1 A1 n1 c1 m1 y1 (((((W.setCell ⟨w.heap.size + 1 + 1, 0, none⟩ u0).setCell ⟨w.heap.size + 1 + 1, 1, none⟩ u1).setCell ⟨w.heap.size + 1 + 1, 2, none⟩ u2).setCell ⟨w.heap.size + 1 + 1, 3, none⟩ u3).setCell ⟨w.heap.size + 1 + 1, 4, none⟩ u4) ∧ (((((W.setCell ⟨w.heap.size + 1 + 1, 0, none⟩ u0).setCell ⟨w.heap.size + 1 + 1, 1, none⟩ u1).setCell ⟨w.heap.size + 1 + 1, 2, none⟩ u2).setCell ⟨w.heap.size + 1 + 1, 3, none⟩ u3).setCell ⟨w.heap.size + 1 + 1, 4, none⟩ u4).cell? ⟨b, 0, none⟩ = some (.int .i64 r1.k) ∧ (((((W.setCell ⟨w.heap.size + 1 + 1, 0, none⟩ u0).setCell ⟨w.heap.size + 1 + 1, 1, none⟩ u1).setCell ⟨w.heap.size + 1 + 1, 2, none⟩ u2).setCell ⟨w.heap.size + 1 + 1, 3, none⟩ u3).setCell ⟨w.heap.size + 1 + 1, 4, none⟩ u4).cell? ⟨b, 1, none⟩ = some (.int .i64 r1.i) ∧ (((((W.setCell ⟨w.heap.size + 1 + 1, 0, none⟩ u0).setCell ⟨w.heap.size + 1 + 1, 1, none⟩ u1).setCell ⟨w.heap.size + 1 + 1, 2, none⟩ u2).setCell ⟨w.heap.size + 1 + 1, 3, none⟩ u3).setCell ⟨w.heap.size + 1 + 1, 4, none⟩ u4).cell? ⟨b, 2, none⟩ = some (.bool r1.b) ∧ (((((W.setCell ⟨w.heap.size + 1 + 1, 0, none⟩ u0).setCell ⟨w.heap.size + 1 + 1, 1, none⟩ u1).setCell ⟨w.heap.size + 1 + 1, 2, none⟩ u2).setCell ⟨w.heap.size + 1 + 1, 3, none⟩ u3).setCell ⟨w.heap.size + 1 + 1, 4, none⟩ u4).cell? ⟨b, 3, none⟩ = some (.string r1.s) ∧ (((((W.setCell ⟨w.heap.size + 1 + 1, 0, none⟩ u0).setCell ⟨w.heap.size + 1 + 1, 1, none⟩ u1).setCell ⟨w.heap.size + 1 + 1, 2, none⟩ u2).setCell ⟨w.heap.size + 1 + 1, 3, none⟩ u3).setCell ⟨w.heap.size + 1 + 1, 4, none⟩ u4).cell? ⟨b, 4, none⟩ = some (.float .f64 r1.n)) from ⟨h.1.below2 hb, HT.out _ (h.1.below2 hb), bx_off (show Bx W b r1 from h.2.2) (by omega) u0 u1 u2 u3 u4⟩))
        have hS1 : (fun W => (TC w FA fn FC VA vn VC op (some ad) n c nm v W ∧ THeldK w FA fn FC VA vn VC op ad n c ⟨ad.block, ad.off + 8, none⟩ p1 A1 n1 c1 m1 y1 W ∧ W.cell? ⟨b, 0, none⟩ = some (.int .i64 r1.k) ∧ W.cell? ⟨b, 1, none⟩ = some (.int .i64 r1.i) ∧ W.cell? ⟨b, 2, none⟩ = some (.bool r1.b) ∧ W.cell? ⟨b, 3, none⟩ = some (.string r1.s) ∧ W.cell? ⟨b, 4, none⟩ = some (.float .f64 r1.n))) wc.drew := ⟨hTB.tc.below2 (Below.refl _ _).drew, HT.out _ (hTB.tc.below2 (Below.refl _ _).drew), hx0, hx1, hx2, hx3, hx4⟩
        have HTB := Lib.hid hTB
        go_wp2_with fail
        refine wp_region_held_drew (S := (fun W => (TC w FA fn FC VA vn VC op (some ad) n c nm v W ∧ THeldK w FA fn FC VA vn VC op ad n c ⟨ad.block, ad.off + 8, none⟩ p1 A1 n1 c1 m1 y1 W ∧ W.cell? ⟨b, 0, none⟩ = some (.int .i64 r1.k) ∧ W.cell? ⟨b, 1, none⟩ = some (.int .i64 r1.i) ∧ W.cell? ⟨b, 2, none⟩ = some (.bool r1.b) ∧ W.cell? ⟨b, 3, none⟩ = some (.string r1.s) ∧ W.cell? ⟨b, 4, none⟩ = some (.float .f64 r1.n)))) (by kernel_rfl) (hS1) (fun hHeld => ?_)
        refine wpAnyH_take (i := 0) (oi := ?oi200) (v := ?v200) ?hi200 (by kernel_rfl) (by kernel_rfl) (by kernel_rfl) ?hQ200 (Or.inl ⟨?hw200, ?hy200⟩) (by assumption) ?rest200
        case hi200 => (simp only [gA, gB, gC]; rfl)
        case hQ200 => exact fun _ _ _ h => h
        case hw200 => rfl
        case hy200 => (intro w hSw; (try dsimp only at hSw); go_simp; try with_reducible rfl)
        (try simp only [Act.put, sA, sB, sC])
        refine wpAnyH_take (i := 1) (oi := ?oi201) (v := ?v201) ?hi201 (by kernel_rfl) (by kernel_rfl) (by kernel_rfl) ?hQ201 (Or.inl ⟨?hw201, ?hy201⟩) (by assumption) ?rest201
        case hi201 => (simp only [gA, gB, gC]; rfl)
        case hQ201 => exact fun _ _ _ h => h
        case hw201 => rfl
        case hy201 => (intro w hSw; (try dsimp only at hSw); go_simp; try with_reducible rfl)
        (try simp only [Act.put, sA, sB, sC])
        refine wpAnyH_take (i := 2) (oi := ?oi202) (v := ?v202) ?hi202 (by kernel_rfl) (by kernel_rfl) (by kernel_rfl) ?hQ202 (Or.inl ⟨?hw202, ?hy202⟩) (by assumption) ?rest202
        case hi202 => (simp only [gA, gB, gC]; rfl)
        case hQ202 => exact fun _ _ _ h => h
        case hw202 => rfl
        case hy202 => (intro w hSw; (try dsimp only at hSw); go_simp; try with_reducible rfl)
        (try simp only [Act.put, sA, sB, sC])
        refine wpAnyH_take (i := 3) (oi := ?oi203) (v := ?v203) ?hi203 (by kernel_rfl) (by kernel_rfl) (by kernel_rfl) ?hQ203 (Or.inl ⟨?hw203, ?hy203⟩) (by assumption) ?rest203
        case hi203 => (simp only [gA, gB, gC]; rfl)
        case hQ203 => exact fun _ _ _ h => h
        case hw203 => rfl
        case hy203 => (intro w hSw; (try dsimp only at hSw); go_simp; try with_reducible rfl)
        (try simp only [Act.put, sA, sB, sC])
        refine wpAnyH_take (i := 4) (oi := ?oi204) (v := ?v204) ?hi204 (by kernel_rfl) (by kernel_rfl) (by kernel_rfl) ?hQ204 (Or.inl ⟨?hw204, ?hy204⟩) (by assumption) ?rest204
        case hi204 => (simp only [gA, gB, gC]; rfl)
        case hQ204 => exact fun _ _ _ h => h
        case hw204 => rfl
        case hy204 => (intro w hSw; (try dsimp only at hSw); go_simp; try with_reducible rfl)
        (try simp only [Act.put, sA, sB, sC])
        refine wpAnyH_take (i := 5) (oi := ?oi205) (v := ?v205) ?hi205 (by kernel_rfl) (by kernel_rfl) (by kernel_rfl) ?hQ205 (Or.inl ⟨?hw205, ?hy205⟩) (by assumption) ?rest205
        case hi205 => (simp only [gA, gB, gC]; rfl)
        case hQ205 => exact fun _ _ _ h => h
        case hw205 => rfl
        case hy205 => (intro w hSw; (try dsimp only at hSw); go_simp; try with_reducible rfl)
        (try simp only [Act.put, sA, sB, sC])
        refine wpAnyH_take (i := 6) (oi := ?oi206) (v := ?v206) ?hi206 (by kernel_rfl) (by kernel_rfl) (by kernel_rfl) ?hQ206 (Or.inl ⟨?hw206, ?hy206⟩) (by assumption) ?rest206
        case hi206 => (simp only [gA, gB, gC]; rfl)
        case hQ206 => exact fun _ _ _ h => h
        case hw206 => rfl
        case hy206 => (intro w hSw; (try dsimp only at hSw); go_simp; try with_reducible rfl)
        (try simp only [Act.put, sA, sB, sC])
        refine wpAnyH_take (i := 7) (oi := ?oi207) (v := ?v207) ?hi207 (by kernel_rfl) (by kernel_rfl) (by kernel_rfl) ?hQ207 (Or.inl ⟨?hw207, ?hy207⟩) (by assumption) ?rest207
        case hi207 => (simp only [gA, gB, gC]; rfl)
        case hQ207 => exact fun _ _ _ h => h
        case hw207 => rfl
        case hy207 => (intro w hSw; (try dsimp only at hSw); go_simp; try with_reducible rfl)
        (try simp only [Act.put, sA, sB, sC])
        refine wpAnyH_ready (rs := [8]) (by kernel_rfl) (by simp) ?_
        refine AllReadyH.cons (o := ?o208) ?ho208 (fun K hK => ?st208) AllReadyH.nil
        case ho208 => (simp only [gA, gB, gC]; rfl)
        go_simp
        refine (H1.out _ hHeld.1.1).mono ?_; rintro e w2 ⟨rfl, hb2⟩
        exact ⟨rfl, (if_neg HZ1.out).symm, ((HTB.out.below (Below.refl _ _).drew).below hb2).1⟩
  · have h0 := fun W hb => (H0.out W hb).mono (fun e w' h => (⟨h.1.trans (if_neg hz), h.2⟩ : e = .panicked (PV r2) ∧ Below W.heap.size W w'))
    clear H0
    have H0 := Lib.hid h0
    have HZ := Lib.hid hz
    rw [if_pos hz]
    clear h0 hv0 hz
    have htb : TB w FA fn FC VA vn VC op (some ad) n c nm v (((w.alloc (.cells #[.slice FA fn FC, .slice VA vn VC] 126)).alloc (.cells #[.int .i64 op, .slice (some ad) n c, .string nm, .int .i64 v.k, .int .i64 v.i, .bool v.b, .string v.s, .float .f64 v.n] 27)).alloc (.cells #[.int .i64 0, .int .i64 0, .bool false, .string { data := #[] }, .float .f64 0] 25)) := TB_new w FA fn FC VA vn VC op (some ad) n c nm v
    have HHELD := Lib.hid (fun W (hb : TB w FA fn FC VA vn VC op (some ad) n c nm v W) => (show THeld w FA fn FC VA vn VC ad n c p0 A0 n0 c0 m0 y0 W from let q := hq0 W hb.1; ⟨hb.2.2.1, hb.2.2.2.1, hb.2.2.2.2.1.2.1, q.1, q.2.1, q.2.2.1, q.2.2.2.1, q.2.2.2.2.1, q.2.2.2.2.2.1, q.2.2.2.2.2.2.1, q.2.2.2.2.2.2.2⟩))
    clear hq0
    have HKP := Lib.hid (fun (W W' : World) (h : TB w FA fn FC VA vn VC op (some ad) n c nm v W ∧ THeld w FA fn FC VA vn VC ad n c p0 A0 n0 c0 m0 y0 W) (hb : Below W.heap.size W W') => And.intro (h.1.below hb) (HHELD.out _ (h.1.below hb)))
    have HKS := Lib.hid (fun (W : World) (b : Nat) (u0 u1 u2 u3 u4 : Value) (hge : w.heap.size + 3 ≤ b) (h : TB w FA fn FC VA vn VC op (some ad) n c nm v W ∧ THeld w FA fn FC VA vn VC ad n c p0 A0 n0 c0 m0 y0 W) => let hb := below_set5 (Below.refl (w.heap.size + 3) W) hge u0 u1 u2 u3 u4; And.intro (h.1.below3 hb) (HHELD.out _ (h.1.below3 hb)))
    go_enter Tryz.func148, Tryz.ntmps148
    go_upto_region 6 with fail
    generalize ((w.alloc (.cells #[.slice FA fn FC, .slice VA vn VC] 126)).alloc (.cells #[.int .i64 op, .slice (some ad) n c, .string nm, .int .i64 v.k, .int .i64 v.i, .bool v.b, .string v.s, .float .f64 v.n] 27)).alloc (.cells #[.int .i64 0, .int .i64 0, .bool false, .string { data := #[] }, .float .f64 0] 25) = wb at *
    have hS0 : TB w FA fn FC VA vn VC op (some ad) n c nm v wb.drew ∧ THeld w FA fn FC VA vn VC ad n c p0 A0 n0 c0 m0 y0 wb.drew := ⟨htb.below (Below.refl _ _).drew, HHELD.out _ (htb.below (Below.refl _ _).drew)⟩
    refine wp_region_held_drew (S := (fun W => TB w FA fn FC VA vn VC op (some ad) n c nm v W ∧ THeld w FA fn FC VA vn VC ad n c p0 A0 n0 c0 m0 y0 W)) (by kernel_rfl) (hS0) (fun hHeld => ?_)
    refine wpAnyH_take (i := 0) (oi := ?oi263) (v := ?v263) ?hi263 (by kernel_rfl) (by kernel_rfl) (by kernel_rfl) ?hQ263 (Or.inl ⟨?hw263, ?hy263⟩) (by assumption) ?rest263
    case hi263 => (simp only [gA, gB, gC]; rfl)
    case hQ263 => exact fun _ _ _ h => h
    case hw263 => rfl
    case hy263 => (intro w hSw; (try dsimp only at hSw); go_simp; try with_reducible rfl)
    (try simp only [Act.put, sA, sB, sC])
    refine wpAnyH_take (i := 1) (oi := ?oi264) (v := ?v264) ?hi264 (by kernel_rfl) (by kernel_rfl) (by kernel_rfl) ?hQ264 (Or.inl ⟨?hw264, ?hy264⟩) (by assumption) ?rest264
    case hi264 => (simp only [gA, gB, gC]; rfl)
    case hQ264 => exact fun _ _ _ h => h
    case hw264 => rfl
    case hy264 => (intro w hSw; (try dsimp only at hSw); go_simp; try with_reducible rfl)
    (try simp only [Act.put, sA, sB, sC])
    refine wpAnyH_take (i := 2) (oi := ?oi265) (v := ?v265) ?hi265 (by kernel_rfl) (by kernel_rfl) (by kernel_rfl) ?hQ265 (Or.inl ⟨?hw265, ?hy265⟩) (by assumption) ?rest265
    case hi265 => (simp only [gA, gB, gC]; rfl)
    case hQ265 => exact fun _ _ _ h => h
    case hw265 => rfl
    case hy265 => (intro w hSw; (try dsimp only at hSw); go_simp; try with_reducible rfl)
    (try simp only [Act.put, sA, sB, sC])
    refine wpAnyH_take (i := 3) (oi := ?oi266) (v := ?v266) ?hi266 (by kernel_rfl) (by kernel_rfl) (by kernel_rfl) ?hQ266 (Or.inl ⟨?hw266, ?hy266⟩) (by assumption) ?rest266
    case hi266 => (simp only [gA, gB, gC]; rfl)
    case hQ266 => exact fun _ _ _ h => h
    case hw266 => rfl
    case hy266 => (intro w hSw; (try dsimp only at hSw); go_simp; try with_reducible rfl)
    (try simp only [Act.put, sA, sB, sC])
    refine wpAnyH_take (i := 4) (oi := ?oi267) (v := ?v267) ?hi267 (by kernel_rfl) (by kernel_rfl) (by kernel_rfl) ?hQ267 (Or.inl ⟨?hw267, ?hy267⟩) (by assumption) ?rest267
    case hi267 => (simp only [gA, gB, gC]; rfl)
    case hQ267 => exact fun _ _ _ h => h
    case hw267 => rfl
    case hy267 => (intro w hSw; (try dsimp only at hSw); go_simp; try with_reducible rfl)
    (try simp only [Act.put, sA, sB, sC])
    refine wpAnyH_ready (rs := [5, 6]) (by kernel_rfl) (by simp) ?_
    refine AllReadyH.cons (o := ?o268) ?ho268 (fun K hK => ?st268) (AllReadyH.cons (o := ?o269) ?ho269 (fun K hK => ?st269) AllReadyH.nil)
    case ho268 => (simp only [gA, gB, gC]; rfl)
    case ho269 => (simp only [gA, gB, gC]; rfl)
    · go_simp
      refine (H0.out _ (And.left (And.left hHeld))).mono ?_; rintro e wA ⟨rfl, hbA⟩
      exact ⟨rfl, (if_neg HZ.out).symm, (And.left (And.left hHeld)).trans (hbA.mono (And.left (And.left hHeld)).size)⟩
    · go_simp
      refine hK.out _ _ ?_ (fun hHeld => ?_)
      · (try dsimp only); exact HKP.out _ _ hS0 (alloc1 _ _)
      clear hK K
      (try simp only [Act.put, sA, sB, sC])
      refine wpAnyH_ready (rs := [5]) (by kernel_rfl) (by simp) ?_
      refine AllReadyH.cons (o := ?o270) ?ho270 (fun K hK => ?st270) AllReadyH.nil
      case ho270 => (simp only [gA, gB, gC]; rfl)
      go_simp
      refine (H0.out _ (And.left (And.left hHeld))).mono ?_; rintro e wA ⟨rfl, hbA⟩
      exact ⟨rfl, (if_neg HZ.out).symm, (And.left (And.left hHeld)).trans (hbA.mono (And.left (And.left hHeld)).size)⟩
end Go.Proofs.YtkhpgejammgolaaGreat

/- Layer 5: what a constant, a field tells, by the program. (Made by gen/gentell5.py.) -/
namespace Go.Proofs.YtkhpgejammgolaaGreat
open Go.RowKit
set_option linter.unusedVariables false
set_option linter.unusedSimpArgs false
set_option maxRecDepth 20000

set_option maxHeartbeats 600000 in
theorem tell_1 (FA : Option Addr) (fn FC : Nat) (VA : Option Addr) (vn VC : Nat) (A : Option Addr) (n c : Nat) (nm : ByteArray) (v : Vl) (w : World) :
    Calls Tryz.prog 148 #[agR FA fn FC VA vn VC, agX 1 A n c nm v] w (TellP (v, 0) w) := by
  have hsf := fun (w : World) (a : Addr) (m : Mode) (b : Nat) => run_store Tryz.prog w a (.float .f64 b) m rfl
  go_enter Tryz.func148, Tryz.ntmps148
  go_wp2
  exact bodyPost_ret (v := agV v) (by simp [results, Tryz.results148, go_sem]) rfl ⟨rfl, vbox3 w _ _ _⟩
set_option maxHeartbeats 600000 in
theorem tell_2 (FA : Option Addr) (fn FC : Nat) (vad : Addr) (vn VC : Nat) (A : Option Addr) (n c : Nat) (nm : ByteArray) (v y : Vl) (w : World) (j : Nat) (q : Addr) (hqd : vad.add (j * 5) = q) (hj : j < vn)
    (hp : ∀ W, Below w.heap.size w W → Calls Tryz.prog 165 #[.string nm, .slice FA fn FC] W (VMk (.int .i64 (j : Int)) W)) (hv : ∀ W, Below w.heap.size w W → Vlp W q y) :
    Calls Tryz.prog 148 #[agR FA fn FC (some vad) vn VC, agX 2 A n c nm v] w (TellP (y, 0) w) := by
  have hsf := fun (w : World) (a : Addr) (m : Mode) (b : Nat) => run_store Tryz.prog w a (.float .f64 b) m rfl
  have hi : (0 : Int) ≤ (j : Int) ∧ (j : Int) < (vn : Int) := by omega
  have hj2 : (j : Int) < (vn : Int) := by omega
  have HP := Lib.hid hp
  obtain ⟨VA, hVA⟩ : ∃ VA : Option Addr, VA = some vad := ⟨_, rfl⟩
  have htb : TB w FA fn FC (some vad) vn VC 2 A n c nm v (((w.alloc (.cells #[.slice FA fn FC, .slice (some vad) vn VC] 126)).alloc (.cells #[.int .i64 2, .slice A n c, .string nm, .int .i64 v.k, .int .i64 v.i, .bool v.b, .string v.s, .float .f64 v.n] 27)).alloc (.cells #[.int .i64 0, .int .i64 0, .bool false, .string { data := #[] }, .float .f64 0] 25)) := TB_new w FA fn FC (some vad) vn VC 2 A n c nm v
  clear hVA VA
  have HT := Lib.hid (fun W (hb : TC w FA fn FC (some vad) vn VC 2 A n c nm v W) => (show (TC w FA fn FC (some vad) vn VC 2 A n c nm v W ∧ W.cell? ⟨w.heap.size, 0, none⟩ = some (.slice FA fn FC) ∧ W.cell? ⟨w.heap.size, 1, none⟩ = some (.slice (some vad) vn VC) ∧ W.cell? ⟨w.heap.size + 1, 2, none⟩ = some (.string nm) ∧ W.cell? q = some (.int .i64 y.k) ∧ W.cell? ⟨q.block, q.off + 1, none⟩ = some (.int .i64 y.i) ∧ W.cell? ⟨q.block, q.off + 2, none⟩ = some (.bool y.b) ∧ W.cell? ⟨q.block, q.off + 3, none⟩ = some (.string y.s) ∧ W.cell? ⟨q.block, q.off + 4, none⟩ = some (.float .f64 y.n)) from ⟨hb, hb.2.2.1, hb.2.2.2.1, hb.2.2.2.2.2.2.1, hv W hb.1⟩))
  clear hp hv
  go_enter Tryz.func148, Tryz.ntmps148
  go_upto_region 5 with fail
  generalize ((w.alloc (.cells #[.slice FA fn FC, .slice (some vad) vn VC] 126)).alloc (.cells #[.int .i64 2, .slice A n c, .string nm, .int .i64 v.k, .int .i64 v.i, .bool v.b, .string v.s, .float .f64 v.n] 27)).alloc (.cells #[.int .i64 0, .int .i64 0, .bool false, .string { data := #[] }, .float .f64 0] 25) = wb at *
  have HTB := Lib.hid htb
  have hS1 : (fun W => TC w FA fn FC (some vad) vn VC 2 A n c nm v W ∧ W.cell? ⟨w.heap.size, 0, none⟩ = some (.slice FA fn FC) ∧ W.cell? ⟨w.heap.size, 1, none⟩ = some (.slice (some vad) vn VC) ∧ W.cell? ⟨w.heap.size + 1, 2, none⟩ = some (.string nm) ∧ W.cell? q = some (.int .i64 y.k) ∧ W.cell? ⟨q.block, q.off + 1, none⟩ = some (.int .i64 y.i) ∧ W.cell? ⟨q.block, q.off + 2, none⟩ = some (.bool y.b) ∧ W.cell? ⟨q.block, q.off + 3, none⟩ = some (.string y.s) ∧ W.cell? ⟨q.block, q.off + 4, none⟩ = some (.float .f64 y.n)) wb.drew := HT.out _ (htb.tc.below2 (Below.refl _ _).drew)
  clear htb
  refine wp_region_held_drew (S := (fun W => TC w FA fn FC (some vad) vn VC 2 A n c nm v W ∧ W.cell? ⟨w.heap.size, 0, none⟩ = some (.slice FA fn FC) ∧ W.cell? ⟨w.heap.size, 1, none⟩ = some (.slice (some vad) vn VC) ∧ W.cell? ⟨w.heap.size + 1, 2, none⟩ = some (.string nm) ∧ W.cell? q = some (.int .i64 y.k) ∧ W.cell? ⟨q.block, q.off + 1, none⟩ = some (.int .i64 y.i) ∧ W.cell? ⟨q.block, q.off + 2, none⟩ = some (.bool y.b) ∧ W.cell? ⟨q.block, q.off + 3, none⟩ = some (.string y.s) ∧ W.cell? ⟨q.block, q.off + 4, none⟩ = some (.float .f64 y.n))) (by kernel_rfl) (hS1) (fun hHeld => ?_)
  refine wpAnyH_take (i := 0) (oi := ?oi1) (v := ?v1) ?hi1 (by kernel_rfl) (by kernel_rfl) (by kernel_rfl) ?hQ1 (Or.inl ⟨?hw1, ?hy1⟩) (by assumption) ?rest1
  case hi1 => (simp only [gA, gB, gC]; rfl)
  case hQ1 => exact fun _ _ _ h => h
  case hw1 => rfl
  case hy1 => (intro w hSw; (try dsimp only at hSw); go_simp; try with_reducible rfl)
  (try simp only [Act.put, sA, sB, sC])
  refine wpAnyH_take (i := 1) (oi := ?oi2) (v := ?v2) ?hi2 (by kernel_rfl) (by kernel_rfl) (by kernel_rfl) ?hQ2 (Or.inl ⟨?hw2, ?hy2⟩) (by assumption) ?rest2
  case hi2 => (simp only [gA, gB, gC]; rfl)
  case hQ2 => exact fun _ _ _ h => h
  case hw2 => rfl
  case hy2 => (intro w hSw; (try dsimp only at hSw); go_simp; try with_reducible rfl)
  (try simp only [Act.put, sA, sB, sC])
  refine wpAnyH_take (i := 2) (oi := ?oi3) (v := ?v3) ?hi3 (by kernel_rfl) (by kernel_rfl) (by kernel_rfl) ?hQ3 (Or.inl ⟨?hw3, ?hy3⟩) (by assumption) ?rest3
  case hi3 => (simp only [gA, gB, gC]; rfl)
  case hQ3 => exact fun _ _ _ h => h
  case hw3 => rfl
  case hy3 => (intro w hSw; (try dsimp only at hSw); go_simp; try with_reducible rfl)
  (try simp only [Act.put, sA, sB, sC])
  refine wpAnyH_take (i := 3) (oi := ?oi4) (v := ?v4) ?hi4 (by kernel_rfl) (by kernel_rfl) (by kernel_rfl) ?hQ4 (Or.inl ⟨?hw4, ?hy4⟩) (by assumption) ?rest4
  case hi4 => (simp only [gA, gB, gC]; rfl)
  case hQ4 => exact fun _ _ _ h => h
  case hw4 => rfl
  case hy4 => (intro w hSw; (try dsimp only at hSw); go_simp; try with_reducible rfl)
  (try simp only [Act.put, sA, sB, sC])
  refine wpAnyH_take (i := 4) (oi := ?oi5) (v := ?v5) ?hi5 (by kernel_rfl) (by kernel_rfl) (by kernel_rfl) ?hQ5 (Or.inl ⟨?hw5, ?hy5⟩) (by assumption) ?rest5
  case hi5 => (simp only [gA, gB, gC]; rfl)
  case hQ5 => exact fun _ _ _ h => h
  case hw5 => rfl
  case hy5 => (intro w hSw; (try dsimp only at hSw); go_simp; try with_reducible rfl)
  (try simp only [Act.put, sA, sB, sC])
  refine wpAnyH_take (i := 5) (oi := ?oi6) (v := ?v6) ?hi6 (by kernel_rfl) (by kernel_rfl) (by kernel_rfl) ?hQ6 (Or.inl ⟨?hw6, ?hy6⟩) (by assumption) ?rest6
  case hi6 => (simp only [gA, gB, gC]; rfl)
  case hQ6 => exact fun _ _ _ h => h
  case hw6 => rfl
  case hy6 => (intro w hSw; (try dsimp only at hSw); go_simp; try with_reducible rfl)
  (try simp only [Act.put, sA, sB, sC])
  refine wpAnyH_ready (rs := [6]) (by kernel_rfl) (by simp) ?_
  refine AllReadyH.cons (o := ?o7) ?ho7 (fun K hK => ?st7) AllReadyH.nil
  case ho7 => (simp only [gA, gB, gC]; rfl)
  go_simp
  refine (HP.out _ hHeld.1.1).mono ?_; rintro e w2 ⟨rfl, hb2⟩; obtain ⟨ou0, ou1, ou2, ou3, ou4, ov0, ov1, ov2, ov3, ov4, ovf⟩ := TB.out ((HTB.out.below (Below.refl _ _).drew).below hb2)
  refine hK.out _ _ ?_ (fun hHeld => ?_)
  · (try dsimp only); exact HT.out _ (hHeld.1.below2 (hb2.mono hHeld.1.2.1))
  clear hK K
  (try simp only [Act.put, sA, sB, sC])
  refine wpAnyH_take (i := 7) (oi := ?oi10) (v := ?v10) ?hi10 (by kernel_rfl) (by kernel_rfl) (by kernel_rfl) ?hQ10 (Or.inl ⟨?hw10, ?hy10⟩) (by assumption) ?rest10
  case hi10 => (simp only [gA, gB, gC]; rfl)
  case hQ10 => exact fun _ _ _ h => h
  case hw10 => rfl
  case hy10 => (intro w hSw; (try dsimp only at hSw); go_simp; try with_reducible rfl)
  (try simp only [Act.put, sA, sB, sC])
  refine wpAnyH_take (i := 8) (oi := ?oi8) (v := ?v8) ?hi8 (by kernel_rfl) (by kernel_rfl) (by kernel_rfl) ?hQ8 (Or.inl ⟨?hw8, ?hy8⟩) (by assumption) ?rest8
  case hi8 => (simp only [gA, gB, gC]; rfl)
  case hQ8 => exact fun _ _ _ h => h
  case hw8 => rfl
  case hy8 => (intro w hSw; (try dsimp only at hSw); go_simp; try with_reducible rfl)
  (try simp only [Act.put, sA, sB, sC])
  refine wpAnyH_ready (rs := [9]) (by kernel_rfl) (by simp) ?_
  refine AllReadyH.cons (o := ?o9) ?ho9 (fun K hK => ?st9) AllReadyH.nil
  case ho9 => (simp only [gA, gB, gC]; rfl)
  go_simp
  refine hK.out _ _ ?_ (fun hHeld => ?_)
  · (try dsimp only); exact HT.out _ (hHeld.1.below2 (below_set5 (Below.refl _ _) (by omega) _ _ _ _ _))
  clear hK K
  (try simp only [Act.put, sA, sB, sC])
  refine wpAnyH_done (by kernel_rfl) ?_ _
  go_wp2_with fail
  exact bodyPost_ret (v := agV y) (by simp [results, Tryz.results148, go_sem, ov0, ov1, ov2, ov3, ov4]) rfl ⟨rfl, TB.done ((HTB.out.below (Below.refl _ _).drew).below hb2) _ _ _ _ _⟩
end Go.Proofs.YtkhpgejammgolaaGreat

/- Layer 5: what a part tells, by the program. (Made by gen/gentell.py.) -/
namespace Go.Proofs.YtkhpgejammgolaaGreat
open Go.RowKit
set_option linter.unusedVariables false
set_option linter.unusedSimpArgs false
set_option maxRecDepth 20000

set_option maxHeartbeats 600000 in
theorem tell_10 (FA : Option Addr) (fn FC : Nat) (VA : Option Addr) (vn VC : Nat) (ad : Addr) (n c : Nat) (nm : ByteArray) (v : Vl) (w : World) (A0 : Option Addr) (n0 c0 : Nat) (m0 : ByteArray) (y0 : Vl) (p0 : Int) (R0 : Vl × Int) (hq0 : ∀ W, Below w.heap.size w W → Kid W ad p0 A0 n0 c0 m0 y0) (h0 : ∀ W, Below w.heap.size w W → Calls Tryz.prog 148 #[agR FA fn FC VA vn VC, agX p0 A0 n0 c0 m0 y0] W (TellP R0 W)) (hv0 : R0.2 = 0 → okV R0.1) (A1 : Option Addr) (n1 c1 : Nat) (m1 : ByteArray) (y1 : Vl) (p1 : Int) (R1 : Vl × Int) (hq1 : ∀ W, Below w.heap.size w W → Kid W ⟨ad.block, ad.off + 8, none⟩ p1 A1 n1 c1 m1 y1) (h1 : ∀ W, Below w.heap.size w W → Calls Tryz.prog 148 #[agR FA fn FC VA vn VC, agX p1 A1 n1 c1 m1 y1] W (TellP R1 W)) (hv1 : R1.2 = 0 → okV R1.1) (hn : 1 < n) :
    Calls Tryz.prog 148 #[agR FA fn FC VA vn VC, agX 10 (some ad) n c nm v] w (TellP (if R0.2 ≠ 0 then (vZero, R0.2) else (if R0.1.b = false then (R0.1, 0) else R1)) w) := by
  have hi1 : (1 : Int) < (n : Int) := by omega
  have hsf := fun (w : World) (a : Addr) (m : Mode) (b : Nat) => run_store Tryz.prog w a (.float .f64 b) m rfl
  have hi : (0 : Int) < (n : Int) := by omega
  have hn0 : 0 < n := by omega
  have HQ1 := Lib.hid hq1
  have H1 := Lib.hid h1
  clear hq1 h1 hv1
  obtain ⟨r1, r2⟩ := R0
  have H0 := Lib.hid h0
  clear h0
  by_cases hz : r2 = 0
  · subst hz
    rw [if_neg (fun h => h rfl)]
    have h0 := fun W hb => (H0.out W hb).mono (fun e w' h => (⟨h.1.trans (if_pos rfl), h.2⟩ : e = .returned (agV r1) ∧ Below W.heap.size W w'))
    clear H0
    have H0 := Lib.hid h0
    clear h0 hv0
    rcases hb : r1.b with _ | _
    · rw [if_pos rfl]
      have HBB := Lib.hid hb
      clear hb
      have htb : TB w FA fn FC VA vn VC 10 (some ad) n c nm v (((w.alloc (.cells #[.slice FA fn FC, .slice VA vn VC] 126)).alloc (.cells #[.int .i64 10, .slice (some ad) n c, .string nm, .int .i64 v.k, .int .i64 v.i, .bool v.b, .string v.s, .float .f64 v.n] 27)).alloc (.cells #[.int .i64 0, .int .i64 0, .bool false, .string { data := #[] }, .float .f64 0] 25)) := TB_new w FA fn FC VA vn VC 10 (some ad) n c nm v
      have HHELD := Lib.hid (fun W (hb : TB w FA fn FC VA vn VC 10 (some ad) n c nm v W) => (show THeld w FA fn FC VA vn VC ad n c p0 A0 n0 c0 m0 y0 W from let q := hq0 W hb.1; ⟨hb.2.2.1, hb.2.2.2.1, hb.2.2.2.2.1.2.1, q.1, q.2.1, q.2.2.1, q.2.2.2.1, q.2.2.2.2.1, q.2.2.2.2.2.1, q.2.2.2.2.2.2.1, q.2.2.2.2.2.2.2⟩))
      clear hq0
      have HKP := Lib.hid (fun (W W' : World) (h : TB w FA fn FC VA vn VC 10 (some ad) n c nm v W ∧ THeld w FA fn FC VA vn VC ad n c p0 A0 n0 c0 m0 y0 W) (hb : Below W.heap.size W W') => And.intro (h.1.below hb) (HHELD.out _ (h.1.below hb)))
      have HKS := Lib.hid (fun (W : World) (b : Nat) (u0 u1 u2 u3 u4 : Value) (hge : w.heap.size + 3 ≤ b) (h : TB w FA fn FC VA vn VC 10 (some ad) n c nm v W ∧ THeld w FA fn FC VA vn VC ad n c p0 A0 n0 c0 m0 y0 W) => let hb := below_set5 (Below.refl (w.heap.size + 3) W) hge u0 u1 u2 u3 u4; And.intro (h.1.below3 hb) (HHELD.out _ (h.1.below3 hb)))
      go_enter Tryz.func148, Tryz.ntmps148
      go_upto_region 6 with fail
      generalize ((w.alloc (.cells #[.slice FA fn FC, .slice VA vn VC] 126)).alloc (.cells #[.int .i64 10, .slice (some ad) n c, .string nm, .int .i64 v.k, .int .i64 v.i, .bool v.b, .string v.s, .float .f64 v.n] 27)).alloc (.cells #[.int .i64 0, .int .i64 0, .bool false, .string { data := #[] }, .float .f64 0] 25) = wb at *
      go_cut [5] from 23 to 28 (fun s5 wx => ∃ b, s5 = .pointer (some ⟨b, 0, none⟩) ∧ w.heap.size + 3 ≤ b ∧ TB w FA fn FC VA vn VC 10 (some ad) n c nm v wx ∧ Bx wx b r1)
      case first =>
        have hS0 : TB w FA fn FC VA vn VC 10 (some ad) n c nm v wb.drew ∧ THeld w FA fn FC VA vn VC ad n c p0 A0 n0 c0 m0 y0 wb.drew := ⟨htb.below (Below.refl _ _).drew, HHELD.out _ (htb.below (Below.refl _ _).drew)⟩
        refine wp_region_held_drew (S := (fun W => TB w FA fn FC VA vn VC 10 (some ad) n c nm v W ∧ THeld w FA fn FC VA vn VC ad n c p0 A0 n0 c0 m0 y0 W)) (by kernel_rfl) (hS0) (fun hHeld => ?_)
        refine wpAnyH_take (i := 0) (oi := ?oi71) (v := ?v71) ?hi71 (by kernel_rfl) (by kernel_rfl) (by kernel_rfl) ?hQ71 (Or.inl ⟨?hw71, ?hy71⟩) (by assumption) ?rest71
        case hi71 => (simp only [gA, gB, gC]; rfl)
        case hQ71 => exact fun _ _ _ h => h
        case hw71 => rfl
        case hy71 => (intro w hSw; (try dsimp only at hSw); go_simp; try with_reducible rfl)
        (try simp only [Act.put, sA, sB, sC])
        refine wpAnyH_take (i := 1) (oi := ?oi72) (v := ?v72) ?hi72 (by kernel_rfl) (by kernel_rfl) (by kernel_rfl) ?hQ72 (Or.inl ⟨?hw72, ?hy72⟩) (by assumption) ?rest72
        case hi72 => (simp only [gA, gB, gC]; rfl)
        case hQ72 => exact fun _ _ _ h => h
        case hw72 => rfl
        case hy72 => (intro w hSw; (try dsimp only at hSw); go_simp; try with_reducible rfl)
        (try simp only [Act.put, sA, sB, sC])
        refine wpAnyH_take (i := 2) (oi := ?oi73) (v := ?v73) ?hi73 (by kernel_rfl) (by kernel_rfl) (by kernel_rfl) ?hQ73 (Or.inl ⟨?hw73, ?hy73⟩) (by assumption) ?rest73
        case hi73 => (simp only [gA, gB, gC]; rfl)
        case hQ73 => exact fun _ _ _ h => h
        case hw73 => rfl
        case hy73 => (intro w hSw; (try dsimp only at hSw); go_simp; try with_reducible rfl)
        (try simp only [Act.put, sA, sB, sC])
        refine wpAnyH_take (i := 3) (oi := ?oi74) (v := ?v74) ?hi74 (by kernel_rfl) (by kernel_rfl) (by kernel_rfl) ?hQ74 (Or.inl ⟨?hw74, ?hy74⟩) (by assumption) ?rest74
        case hi74 => (simp only [gA, gB, gC]; rfl)
        case hQ74 => exact fun _ _ _ h => h
        case hw74 => rfl
        case hy74 => (intro w hSw; (try dsimp only at hSw); go_simp; try with_reducible rfl)
        (try simp only [Act.put, sA, sB, sC])
        refine wpAnyH_take (i := 4) (oi := ?oi75) (v := ?v75) ?hi75 (by kernel_rfl) (by kernel_rfl) (by kernel_rfl) ?hQ75 (Or.inl ⟨?hw75, ?hy75⟩) (by assumption) ?rest75
        case hi75 => (simp only [gA, gB, gC]; rfl)
        case hQ75 => exact fun _ _ _ h => h
        case hw75 => rfl
        case hy75 => (intro w hSw; (try dsimp only at hSw); go_simp; try with_reducible rfl)
        (try simp only [Act.put, sA, sB, sC])
        refine wpAnyH_ready (rs := [5, 6]) (by kernel_rfl) (by simp) ?_
        refine AllReadyH.cons (o := ?o76) ?ho76 (fun K hK => ?st76) (AllReadyH.cons (o := ?o77) ?ho77 (fun K hK => ?st77) AllReadyH.nil)
        case ho76 => (simp only [gA, gB, gC]; rfl)
        case ho77 => (simp only [gA, gB, gC]; rfl)
        · go_simp
          refine (H0.out _ (And.left (And.left hHeld))).mono ?_; rintro e wA ⟨rfl, hbA⟩; have hSA := HKP.out _ _ hHeld hbA
          refine hK.out _ _ ?_ (fun hHeld => ?_)
          · (try dsimp only); exact hSA
          clear hK K
          (try simp only [Act.put, sA, sB, sC])
          refine wpAnyH_ready (rs := [6]) (by kernel_rfl) (by simp) ?_
          refine AllReadyH.cons (o := ?o78) ?ho78 (fun K hK => ?st78) AllReadyH.nil
          case ho78 => (simp only [gA, gB, gC]; rfl)
          go_simp
          refine hK.out _ _ ?_ (fun hHeld => ?_)
          · (try dsimp only); exact HKP.out _ _ hSA (alloc1 _ _)
          clear hK K
          (try simp only [Act.put, sA, sB, sC])
          refine wpAnyH_ready (rs := [7]) (by kernel_rfl) (by simp) ?_
          refine AllReadyH.cons (o := ?o79) ?ho79 (fun K hK => ?st79) AllReadyH.nil
          case ho79 => (simp only [gA, gB, gC]; rfl)
          go_simp
          refine hK.out _ _ ?_ (fun hHeld => ?_)
          · (try dsimp only); exact HKP.out _ _ hSA (alloc1 _ _)
          clear hK K
          (try simp only [Act.put, sA, sB, sC])
          refine wpAnyH_done (by kernel_rfl) ?_ _
          go_wp2_with fail
          go_meet
          exact ⟨_, rfl, hSA.1.2.1, hHeld.1, Bx.new _ r1⟩
        · go_simp
          refine hK.out _ _ ?_ (fun hHeld => ?_)
          · (try dsimp only); exact HKP.out _ _ hS0 (alloc1 _ _)
          clear hK K
          (try simp only [Act.put, sA, sB, sC])
          refine wpAnyH_ready (rs := [5]) (by kernel_rfl) (by simp) ?_
          refine AllReadyH.cons (o := ?o80) ?ho80 (fun K hK => ?st80) AllReadyH.nil
          case ho80 => (simp only [gA, gB, gC]; rfl)
          go_simp
          refine (H0.out _ (And.left (And.left hHeld))).mono ?_; rintro e wA ⟨rfl, hbA⟩; have hSA := HKP.out _ _ hHeld hbA; obtain ⟨e0, e1, e2, e3, e4, ef⟩ := newcells hbA
          refine hK.out _ _ ?_ (fun hHeld => ?_)
          · (try dsimp only); exact hSA
          clear hK K
          (try simp only [Act.put, sA, sB, sC])
          refine wpAnyH_ready (rs := [7]) (by kernel_rfl) (by simp) ?_
          refine AllReadyH.cons (o := ?o81) ?ho81 (fun K hK => ?st81) AllReadyH.nil
          case ho81 => (simp only [gA, gB, gC]; rfl)
          go_simp
          refine hK.out _ _ ?_ (fun hHeld => ?_)
          · (try dsimp only); exact HKS.out _ _ _ _ _ _ _ htb.2.1 hSA
          clear hK K
          (try simp only [Act.put, sA, sB, sC])
          refine wpAnyH_done (by kernel_rfl) ?_ _
          go_wp2_with fail
          go_meet
          exact ⟨_, rfl, htb.2.1, hHeld.1, bx_set e0 e1 e2 e3 e4⟩
      case rest =>
        clear htb HHELD HKP HKS
        obtain ⟨b, rfl, hbge, hTB, hx0, hx1, hx2, hx3, hx4⟩ := hcut
        obtain ⟨d0, d1, d2, d3, d4, d5, d6, d7⟩ := hTB.2.2.2.2.1
        have g0 := hTB.2.2.1
        have g1 := hTB.2.2.2.1
        have hb := HBB.out
        rw [hb] at hx2
        clear hb
        obtain ⟨ou0, ou1, ou2, ou3, ou4, ov0, ov1, ov2, ov3, ov4, ovf⟩ := TB.out hTB
        go_wp2_with fail
        exact bodyPost_ret (v := agV r1) (by simp [results, Tryz.results148, go_sem, HBB.out, ov0, ov1, ov2, ov3, ov4]) rfl ⟨rfl, TB.done hTB _ _ _ _ _⟩
    · rw [if_neg (by decide)]
      have HBB := Lib.hid hb
      clear hb
      have htb : TB w FA fn FC VA vn VC 10 (some ad) n c nm v (((w.alloc (.cells #[.slice FA fn FC, .slice VA vn VC] 126)).alloc (.cells #[.int .i64 10, .slice (some ad) n c, .string nm, .int .i64 v.k, .int .i64 v.i, .bool v.b, .string v.s, .float .f64 v.n] 27)).alloc (.cells #[.int .i64 0, .int .i64 0, .bool false, .string { data := #[] }, .float .f64 0] 25)) := TB_new w FA fn FC VA vn VC 10 (some ad) n c nm v
      have HHELD := Lib.hid (fun W (hb : TB w FA fn FC VA vn VC 10 (some ad) n c nm v W) => (show THeld w FA fn FC VA vn VC ad n c p0 A0 n0 c0 m0 y0 W from let q := hq0 W hb.1; ⟨hb.2.2.1, hb.2.2.2.1, hb.2.2.2.2.1.2.1, q.1, q.2.1, q.2.2.1, q.2.2.2.1, q.2.2.2.2.1, q.2.2.2.2.2.1, q.2.2.2.2.2.2.1, q.2.2.2.2.2.2.2⟩))
      clear hq0
      have HKP := Lib.hid (fun (W W' : World) (h : TB w FA fn FC VA vn VC 10 (some ad) n c nm v W ∧ THeld w FA fn FC VA vn VC ad n c p0 A0 n0 c0 m0 y0 W) (hb : Below W.heap.size W W') => And.intro (h.1.below hb) (HHELD.out _ (h.1.below hb)))
      have HKS := Lib.hid (fun (W : World) (b : Nat) (u0 u1 u2 u3 u4 : Value) (hge : w.heap.size + 3 ≤ b) (h : TB w FA fn FC VA vn VC 10 (some ad) n c nm v W ∧ THeld w FA fn FC VA vn VC ad n c p0 A0 n0 c0 m0 y0 W) => let hb := below_set5 (Below.refl (w.heap.size + 3) W) hge u0 u1 u2 u3 u4; And.intro (h.1.below3 hb) (HHELD.out _ (h.1.below3 hb)))
      go_enter Tryz.func148, Tryz.ntmps148
      go_upto_region 6 with fail
      generalize ((w.alloc (.cells #[.slice FA fn FC, .slice VA vn VC] 126)).alloc (.cells #[.int .i64 10, .slice (some ad) n c, .string nm, .int .i64 v.k, .int .i64 v.i, .bool v.b, .string v.s, .float .f64 v.n] 27)).alloc (.cells #[.int .i64 0, .int .i64 0, .bool false, .string { data := #[] }, .float .f64 0] 25) = wb at *
      go_cut [5] from 23 to 28 (fun s5 wx => ∃ b, s5 = .pointer (some ⟨b, 0, none⟩) ∧ w.heap.size + 3 ≤ b ∧ TB w FA fn FC VA vn VC 10 (some ad) n c nm v wx ∧ Bx wx b r1)
      case first =>
        have hS0 : TB w FA fn FC VA vn VC 10 (some ad) n c nm v wb.drew ∧ THeld w FA fn FC VA vn VC ad n c p0 A0 n0 c0 m0 y0 wb.drew := ⟨htb.below (Below.refl _ _).drew, HHELD.out _ (htb.below (Below.refl _ _).drew)⟩
        refine wp_region_held_drew (S := (fun W => TB w FA fn FC VA vn VC 10 (some ad) n c nm v W ∧ THeld w FA fn FC VA vn VC ad n c p0 A0 n0 c0 m0 y0 W)) (by kernel_rfl) (hS0) (fun hHeld => ?_)
        refine wpAnyH_take (i := 0) (oi := ?oi82) (v := ?v82) ?hi82 (by kernel_rfl) (by kernel_rfl) (by kernel_rfl) ?hQ82 (Or.inl ⟨?hw82, ?hy82⟩) (by assumption) ?rest82
        case hi82 => (simp only [gA, gB, gC]; rfl)
        case hQ82 => exact fun _ _ _ h => h
        case hw82 => rfl
        case hy82 => (intro w hSw; (try dsimp only at hSw); go_simp; try with_reducible rfl)
        (try simp only [Act.put, sA, sB, sC])
        refine wpAnyH_take (i := 1) (oi := ?oi83) (v := ?v83) ?hi83 (by kernel_rfl) (by kernel_rfl) (by kernel_rfl) ?hQ83 (Or.inl ⟨?hw83, ?hy83⟩) (by assumption) ?rest83
        case hi83 => (simp only [gA, gB, gC]; rfl)
        case hQ83 => exact fun _ _ _ h => h
        case hw83 => rfl
        case hy83 => (intro w hSw; (try dsimp only at hSw); go_simp; try with_reducible rfl)
        (try simp only [Act.put, sA, sB, sC])
        refine wpAnyH_take (i := 2) (oi := ?oi84) (v := ?v84) ?hi84 (by kernel_rfl) (by kernel_rfl) (by kernel_rfl) ?hQ84 (Or.inl ⟨?hw84, ?hy84⟩) (by assumption) ?rest84
        case hi84 => (simp only [gA, gB, gC]; rfl)
        case hQ84 => exact fun _ _ _ h => h
        case hw84 => rfl
        case hy84 => (intro w hSw; (try dsimp only at hSw); go_simp; try with_reducible rfl)
        (try simp only [Act.put, sA, sB, sC])
        refine wpAnyH_take (i := 3) (oi := ?oi85) (v := ?v85) ?hi85 (by kernel_rfl) (by kernel_rfl) (by kernel_rfl) ?hQ85 (Or.inl ⟨?hw85, ?hy85⟩) (by assumption) ?rest85
        case hi85 => (simp only [gA, gB, gC]; rfl)
        case hQ85 => exact fun _ _ _ h => h
        case hw85 => rfl
        case hy85 => (intro w hSw; (try dsimp only at hSw); go_simp; try with_reducible rfl)
        (try simp only [Act.put, sA, sB, sC])
        refine wpAnyH_take (i := 4) (oi := ?oi86) (v := ?v86) ?hi86 (by kernel_rfl) (by kernel_rfl) (by kernel_rfl) ?hQ86 (Or.inl ⟨?hw86, ?hy86⟩) (by assumption) ?rest86
        case hi86 => (simp only [gA, gB, gC]; rfl)
        case hQ86 => exact fun _ _ _ h => h
        case hw86 => rfl
        case hy86 => (intro w hSw; (try dsimp only at hSw); go_simp; try with_reducible rfl)
        (try simp only [Act.put, sA, sB, sC])
        refine wpAnyH_ready (rs := [5, 6]) (by kernel_rfl) (by simp) ?_
        refine AllReadyH.cons (o := ?o87) ?ho87 (fun K hK => ?st87) (AllReadyH.cons (o := ?o88) ?ho88 (fun K hK => ?st88) AllReadyH.nil)
        case ho87 => (simp only [gA, gB, gC]; rfl)
        case ho88 => (simp only [gA, gB, gC]; rfl)
        · go_simp
          refine (H0.out _ (And.left (And.left hHeld))).mono ?_; rintro e wA ⟨rfl, hbA⟩; have hSA := HKP.out _ _ hHeld hbA
          refine hK.out _ _ ?_ (fun hHeld => ?_)
          · (try dsimp only); exact hSA
          clear hK K
          (try simp only [Act.put, sA, sB, sC])
          refine wpAnyH_ready (rs := [6]) (by kernel_rfl) (by simp) ?_
          refine AllReadyH.cons (o := ?o89) ?ho89 (fun K hK => ?st89) AllReadyH.nil
          case ho89 => (simp only [gA, gB, gC]; rfl)
          go_simp
          refine hK.out _ _ ?_ (fun hHeld => ?_)
          · (try dsimp only); exact HKP.out _ _ hSA (alloc1 _ _)
          clear hK K
          (try simp only [Act.put, sA, sB, sC])
          refine wpAnyH_ready (rs := [7]) (by kernel_rfl) (by simp) ?_
          refine AllReadyH.cons (o := ?o90) ?ho90 (fun K hK => ?st90) AllReadyH.nil
          case ho90 => (simp only [gA, gB, gC]; rfl)
          go_simp
          refine hK.out _ _ ?_ (fun hHeld => ?_)
          · (try dsimp only); exact HKP.out _ _ hSA (alloc1 _ _)
          clear hK K
          (try simp only [Act.put, sA, sB, sC])
          refine wpAnyH_done (by kernel_rfl) ?_ _
          go_wp2_with fail
          go_meet
          exact ⟨_, rfl, hSA.1.2.1, hHeld.1, Bx.new _ r1⟩
        · go_simp
          refine hK.out _ _ ?_ (fun hHeld => ?_)
          · (try dsimp only); exact HKP.out _ _ hS0 (alloc1 _ _)
          clear hK K
          (try simp only [Act.put, sA, sB, sC])
          refine wpAnyH_ready (rs := [5]) (by kernel_rfl) (by simp) ?_
          refine AllReadyH.cons (o := ?o91) ?ho91 (fun K hK => ?st91) AllReadyH.nil
          case ho91 => (simp only [gA, gB, gC]; rfl)
          go_simp
          refine (H0.out _ (And.left (And.left hHeld))).mono ?_; rintro e wA ⟨rfl, hbA⟩; have hSA := HKP.out _ _ hHeld hbA; obtain ⟨e0, e1, e2, e3, e4, ef⟩ := newcells hbA
          refine hK.out _ _ ?_ (fun hHeld => ?_)
          · (try dsimp only); exact hSA
          clear hK K
          (try simp only [Act.put, sA, sB, sC])
          refine wpAnyH_ready (rs := [7]) (by kernel_rfl) (by simp) ?_
          refine AllReadyH.cons (o := ?o92) ?ho92 (fun K hK => ?st92) AllReadyH.nil
          case ho92 => (simp only [gA, gB, gC]; rfl)
          go_simp
          refine hK.out _ _ ?_ (fun hHeld => ?_)
          · (try dsimp only); exact HKS.out _ _ _ _ _ _ _ htb.2.1 hSA
          clear hK K
          (try simp only [Act.put, sA, sB, sC])
          refine wpAnyH_done (by kernel_rfl) ?_ _
          go_wp2_with fail
          go_meet
          exact ⟨_, rfl, htb.2.1, hHeld.1, bx_set e0 e1 e2 e3 e4⟩
      case rest =>
        clear htb HHELD HKP HKS
        obtain ⟨b, rfl, hbge, hTB, hx0, hx1, hx2, hx3, hx4⟩ := hcut
        obtain ⟨d0, d1, d2, d3, d4, d5, d6, d7⟩ := hTB.2.2.2.2.1
        have g0 := hTB.2.2.1
        have g1 := hTB.2.2.2.1
        have hb := HBB.out
        rw [hb] at hx2
        clear hb
        obtain ⟨s1, s2⟩ := R1
        by_cases hz1 : s2 = 0
        · subst hz1
          have h1 := fun W hb => (H1.out W hb).mono (fun e w' h => (⟨h.1.trans (if_pos rfl), h.2⟩ : e = .returned (agV s1) ∧ Below W.heap.size W w'))
          clear H1
          have H1 := Lib.hid h1
          clear h1
          have HT := Lib.hid (fun W (hb : TC w FA fn FC VA vn VC 10 (some ad) n c nm v W) => (show THeldK w FA fn FC VA vn VC 10 ad n c ⟨ad.block, ad.off + 8, none⟩ p1 A1 n1 c1 m1 y1 W from let q := HQ1.out W hb.1; ⟨hb.2.2.1, hb.2.2.2.1, hb.2.2.2.2.1, hb.2.2.2.2.2.1, q.1, q.2.1, q.2.2.1, q.2.2.2.1, q.2.2.2.2.1, q.2.2.2.2.2.1, q.2.2.2.2.2.2.1, q.2.2.2.2.2.2.2⟩))
          have HK1 := Lib.hid (fun (W W' : World) (h : (TC w FA fn FC VA vn VC 10 (some ad) n c nm v W ∧ THeldK w FA fn FC VA vn VC 10 ad n c ⟨ad.block, ad.off + 8, none⟩ p1 A1 n1 c1 m1 y1 W)) (hb : Below W.heap.size W W') => (show (TC w FA fn FC VA vn VC 10 (some ad) n c nm v W' ∧ THeldK w FA fn FC VA vn VC 10 ad n c ⟨ad.block, ad.off + 8, none⟩ p1 A1 n1 c1 m1 y1 W') from ⟨h.1.below2 (hb.mono h.1.2.1), HT.out _ (h.1.below2 (hb.mono h.1.2.1))⟩))
          have HKZ := Lib.hid (fun (W : World) (u0 u1 u2 u3 u4 : Value) (h : (TC w FA fn FC VA vn VC 10 (some ad) n c nm v W ∧ THeldK w FA fn FC VA vn VC 10 ad n c ⟨ad.block, ad.off + 8, none⟩ p1 A1 n1 c1 m1 y1 W)) => let hb := below_set5 (Below.refl (w.heap.size + 2) W) (show w.heap.size + 2 ≤ w.heap.size + 1 + 1 by omega) u0 u1 u2 u3 u4; (show (TC w FA fn FC VA vn VC 10 (some ad) n c nm v (((((W.setCell ⟨w.heap.size + 1 + 1, 0, none⟩ u0).setCell ⟨w.heap.size + 1 + 1, 1, none⟩ u1).setCell ⟨w.heap.size + 1 + 1, 2, none⟩ u2).setCell ⟨w.heap.size + 1 + 1, 3, none⟩ u3).setCell ⟨w.heap.size + 1 + 1, 4, none⟩ u4) ∧ THeldK w FA fn FC VA vn VC 10 ad n c ⟨ad.block, ad.off + 8, none⟩ p1 A1 n1 c1 m1 y1 (((((W.setCell ⟨w.heap.size + 1 + 1, 0, none⟩ u0).setCell ⟨w.heap.size + 1 + 1, 1, none⟩ u1).setCell ⟨w.heap.size + 1 + 1, 2, none⟩ u2).setCell ⟨w.heap.size + 1 + 1, 3, none⟩ u3).setCell ⟨w.heap.size + 1 + 1, 4, none⟩ u4)) from ⟨h.1.below2 hb, HT.out _ (h.1.below2 hb)⟩))
          have hS1 : (fun W => (TC w FA fn FC VA vn VC 10 (some ad) n c nm v W ∧ THeldK w FA fn FC VA vn VC 10 ad n c ⟨ad.block, ad.off + 8, none⟩ p1 A1 n1 c1 m1 y1 W)) wc.drew := ⟨hTB.tc.below2 (Below.refl _ _).drew, HT.out _ (hTB.tc.below2 (Below.refl _ _).drew)⟩
          have HTB := Lib.hid hTB
          go_wp2_with fail
          refine wp_region_held_drew (S := (fun W => (TC w FA fn FC VA vn VC 10 (some ad) n c nm v W ∧ THeldK w FA fn FC VA vn VC 10 ad n c ⟨ad.block, ad.off + 8, none⟩ p1 A1 n1 c1 m1 y1 W))) (by kernel_rfl) (hS1) (fun hHeld => ?_)
          refine wpAnyH_take (i := 0) (oi := ?oi58) (v := ?v58) ?hi58 (by kernel_rfl) (by kernel_rfl) (by kernel_rfl) ?hQ58 (Or.inl ⟨?hw58, ?hy58⟩) (by assumption) ?rest58
          case hi58 => (simp only [gA, gB, gC]; rfl)
          case hQ58 => exact fun _ _ _ h => h
          case hw58 => rfl
          case hy58 => (intro w hSw; (try dsimp only at hSw); go_simp; try with_reducible rfl)
          (try simp only [Act.put, sA, sB, sC])
          refine wpAnyH_take (i := 1) (oi := ?oi59) (v := ?v59) ?hi59 (by kernel_rfl) (by kernel_rfl) (by kernel_rfl) ?hQ59 (Or.inl ⟨?hw59, ?hy59⟩) (by assumption) ?rest59
          case hi59 => (simp only [gA, gB, gC]; rfl)
          case hQ59 => exact fun _ _ _ h => h
          case hw59 => rfl
          case hy59 => (intro w hSw; (try dsimp only at hSw); go_simp; try with_reducible rfl)
          (try simp only [Act.put, sA, sB, sC])
          refine wpAnyH_take (i := 2) (oi := ?oi60) (v := ?v60) ?hi60 (by kernel_rfl) (by kernel_rfl) (by kernel_rfl) ?hQ60 (Or.inl ⟨?hw60, ?hy60⟩) (by assumption) ?rest60
          case hi60 => (simp only [gA, gB, gC]; rfl)
          case hQ60 => exact fun _ _ _ h => h
          case hw60 => rfl
          case hy60 => (intro w hSw; (try dsimp only at hSw); go_simp; try with_reducible rfl)
          (try simp only [Act.put, sA, sB, sC])
          refine wpAnyH_take (i := 3) (oi := ?oi61) (v := ?v61) ?hi61 (by kernel_rfl) (by kernel_rfl) (by kernel_rfl) ?hQ61 (Or.inl ⟨?hw61, ?hy61⟩) (by assumption) ?rest61
          case hi61 => (simp only [gA, gB, gC]; rfl)
          case hQ61 => exact fun _ _ _ h => h
          case hw61 => rfl
          case hy61 => (intro w hSw; (try dsimp only at hSw); go_simp; try with_reducible rfl)
          (try simp only [Act.put, sA, sB, sC])
          refine wpAnyH_take (i := 4) (oi := ?oi62) (v := ?v62) ?hi62 (by kernel_rfl) (by kernel_rfl) (by kernel_rfl) ?hQ62 (Or.inl ⟨?hw62, ?hy62⟩) (by assumption) ?rest62
          case hi62 => (simp only [gA, gB, gC]; rfl)
          case hQ62 => exact fun _ _ _ h => h
          case hw62 => rfl
          case hy62 => (intro w hSw; (try dsimp only at hSw); go_simp; try with_reducible rfl)
          (try simp only [Act.put, sA, sB, sC])
          refine wpAnyH_ready (rs := [5]) (by kernel_rfl) (by simp) ?_
          refine AllReadyH.cons (o := ?o63) ?ho63 (fun K hK => ?st63) AllReadyH.nil
          case ho63 => (simp only [gA, gB, gC]; rfl)
          go_simp
          refine (H1.out _ hHeld.1.1).mono ?_; rintro e w2 ⟨rfl, hb2⟩; obtain ⟨ou0, ou1, ou2, ou3, ou4, ov0, ov1, ov2, ov3, ov4, ovf⟩ := TB.out ((HTB.out.below (Below.refl _ _).drew).below hb2)
          refine hK.out _ _ ?_ (fun hHeld => ?_)
          · (try dsimp only); exact HK1.out _ _ hHeld hb2
          clear hK K
          (try simp only [Act.put, sA, sB, sC])
          refine wpAnyH_ready (rs := [6]) (by kernel_rfl) (by simp) ?_
          refine AllReadyH.cons (o := ?o64) ?ho64 (fun K hK => ?st64) AllReadyH.nil
          case ho64 => (simp only [gA, gB, gC]; rfl)
          go_simp
          refine hK.out _ _ ?_ (fun hHeld => ?_)
          · (try dsimp only); exact HKZ.out _ _ _ _ _ _ hHeld
          clear hK K
          (try simp only [Act.put, sA, sB, sC])
          refine wpAnyH_done (by kernel_rfl) ?_ _
          go_wp2_with fail
          exact bodyPost_ret (v := agV s1) (by simp [results, Tryz.results148, go_sem, ov0, ov1, ov2, ov3, ov4]) rfl ⟨rfl, TB.done ((HTB.out.below (Below.refl _ _).drew).below hb2) _ _ _ _ _⟩
        · have h1 := fun W hb => (H1.out W hb).mono (fun e w' h => (⟨h.1.trans (if_neg hz1), h.2⟩ : e = .panicked (PV s2) ∧ Below W.heap.size W w'))
          clear H1
          have H1 := Lib.hid h1
          have HZ1 := Lib.hid hz1
          clear h1 hz1
          have HT := Lib.hid (fun W (hb : TC w FA fn FC VA vn VC 10 (some ad) n c nm v W) => (show THeldK w FA fn FC VA vn VC 10 ad n c ⟨ad.block, ad.off + 8, none⟩ p1 A1 n1 c1 m1 y1 W from let q := HQ1.out W hb.1; ⟨hb.2.2.1, hb.2.2.2.1, hb.2.2.2.2.1, hb.2.2.2.2.2.1, q.1, q.2.1, q.2.2.1, q.2.2.2.1, q.2.2.2.2.1, q.2.2.2.2.2.1, q.2.2.2.2.2.2.1, q.2.2.2.2.2.2.2⟩))
          have HK1 := Lib.hid (fun (W W' : World) (h : (TC w FA fn FC VA vn VC 10 (some ad) n c nm v W ∧ THeldK w FA fn FC VA vn VC 10 ad n c ⟨ad.block, ad.off + 8, none⟩ p1 A1 n1 c1 m1 y1 W)) (hb : Below W.heap.size W W') => (show (TC w FA fn FC VA vn VC 10 (some ad) n c nm v W' ∧ THeldK w FA fn FC VA vn VC 10 ad n c ⟨ad.block, ad.off + 8, none⟩ p1 A1 n1 c1 m1 y1 W') from ⟨h.1.below2 (hb.mono h.1.2.1), HT.out _ (h.1.below2 (hb.mono h.1.2.1))⟩))
          have HKZ := Lib.hid (fun (W : World) (u0 u1 u2 u3 u4 : Value) (h : (TC w FA fn FC VA vn VC 10 (some ad) n c nm v W ∧ THeldK w FA fn FC VA vn VC 10 ad n c ⟨ad.block, ad.off + 8, none⟩ p1 A1 n1 c1 m1 y1 W)) => let hb := below_set5 (Below.refl (w.heap.size + 2) W) (show w.heap.size + 2 ≤ w.heap.size + 1 + 1 by omega) u0 u1 u2 u3 u4; (show (TC w FA fn FC VA vn VC 10 (some ad) n c nm v (((((W.setCell ⟨w.heap.size + 1 + 1, 0, none⟩ u0).setCell ⟨w.heap.size + 1 + 1, 1, none⟩ u1).setCell ⟨w.heap.size + 1 + 1, 2, none⟩ u2).setCell ⟨w.heap.size + 1 + 1, 3, none⟩ u3).setCell ⟨w.heap.size + 1 + 1, 4, none⟩ u4) ∧ THeldK w FA fn FC VA vn VC 10 ad n c ⟨ad.block, ad.off + 8, none⟩ p1 A1 n1 c1 m1 y1 (((((W.setCell ⟨w.heap.size + 1 + 1, 0, none⟩ u0).setCell ⟨w.heap.size + 1 + 1, 1, none⟩ u1).setCell ⟨w.heap.size + 1 + 1, 2, none⟩ u2).setCell ⟨w.heap.size + 1 + 1, 3, none⟩ u3).setCell ⟨w.heap.size + 1 + 1, 4, none⟩ u4)) from ⟨h.1.below2 hb, HT.out _ (h.1.below2 hb)⟩))
          have hS1 : (fun W => (TC w FA fn FC VA vn VC 10 (some ad) n c nm v W ∧ THeldK w FA fn FC VA vn VC 10 ad n c ⟨ad.block, ad.off + 8, none⟩ p1 A1 n1 c1 m1 y1 W)) wc.drew := ⟨hTB.tc.below2 (Below.refl _ _).drew, HT.out _ (hTB.tc.below2 (Below.refl _ _).drew)⟩
          have HTB := Lib.hid hTB
          go_wp2_with fail
          refine wp_region_held_drew (S := (fun W => (TC w FA fn FC VA vn VC 10 (some ad) n c nm v W ∧ THeldK w FA fn FC VA vn VC 10 ad n c ⟨ad.block, ad.off + 8, none⟩ p1 A1 n1 c1 m1 y1 W))) (by kernel_rfl) (hS1) (fun hHeld => ?_)
          refine wpAnyH_take (i := 0) (oi := ?oi65) (v := ?v65) ?hi65 (by kernel_rfl) (by kernel_rfl) (by kernel_rfl) ?hQ65 (Or.inl ⟨?hw65, ?hy65⟩) (by assumption) ?rest65
          case hi65 => (simp only [gA, gB, gC]; rfl)
          case hQ65 => exact fun _ _ _ h => h
          case hw65 => rfl
          case hy65 => (intro w hSw; (try dsimp only at hSw); go_simp; try with_reducible rfl)
          (try simp only [Act.put, sA, sB, sC])
          refine wpAnyH_take (i := 1) (oi := ?oi66) (v := ?v66) ?hi66 (by kernel_rfl) (by kernel_rfl) (by kernel_rfl) ?hQ66 (Or.inl ⟨?hw66, ?hy66⟩) (by assumption) ?rest66
          case hi66 => (simp only [gA, gB, gC]; rfl)
          case hQ66 => exact fun _ _ _ h => h
          case hw66 => rfl
          case hy66 => (intro w hSw; (try dsimp only at hSw); go_simp; try with_reducible rfl)
          (try simp only [Act.put, sA, sB, sC])
          refine wpAnyH_take (i := 2) (oi := ?oi67) (v := ?v67) ?hi67 (by kernel_rfl) (by kernel_rfl) (by kernel_rfl) ?hQ67 (Or.inl ⟨?hw67, ?hy67⟩) (by assumption) ?rest67
          case hi67 => (simp only [gA, gB, gC]; rfl)
          case hQ67 => exact fun _ _ _ h => h
          case hw67 => rfl
          case hy67 => (intro w hSw; (try dsimp only at hSw); go_simp; try with_reducible rfl)
          (try simp only [Act.put, sA, sB, sC])
          refine wpAnyH_take (i := 3) (oi := ?oi68) (v := ?v68) ?hi68 (by kernel_rfl) (by kernel_rfl) (by kernel_rfl) ?hQ68 (Or.inl ⟨?hw68, ?hy68⟩) (by assumption) ?rest68
          case hi68 => (simp only [gA, gB, gC]; rfl)
          case hQ68 => exact fun _ _ _ h => h
          case hw68 => rfl
          case hy68 => (intro w hSw; (try dsimp only at hSw); go_simp; try with_reducible rfl)
          (try simp only [Act.put, sA, sB, sC])
          refine wpAnyH_take (i := 4) (oi := ?oi69) (v := ?v69) ?hi69 (by kernel_rfl) (by kernel_rfl) (by kernel_rfl) ?hQ69 (Or.inl ⟨?hw69, ?hy69⟩) (by assumption) ?rest69
          case hi69 => (simp only [gA, gB, gC]; rfl)
          case hQ69 => exact fun _ _ _ h => h
          case hw69 => rfl
          case hy69 => (intro w hSw; (try dsimp only at hSw); go_simp; try with_reducible rfl)
          (try simp only [Act.put, sA, sB, sC])
          refine wpAnyH_ready (rs := [5]) (by kernel_rfl) (by simp) ?_
          refine AllReadyH.cons (o := ?o70) ?ho70 (fun K hK => ?st70) AllReadyH.nil
          case ho70 => (simp only [gA, gB, gC]; rfl)
          go_simp
          refine (H1.out _ hHeld.1.1).mono ?_; rintro e w2 ⟨rfl, hb2⟩
          exact ⟨rfl, (if_neg HZ1.out).symm, ((HTB.out.below (Below.refl _ _).drew).below hb2).1⟩
  · have h0 := fun W hb => (H0.out W hb).mono (fun e w' h => (⟨h.1.trans (if_neg hz), h.2⟩ : e = .panicked (PV r2) ∧ Below W.heap.size W w'))
    clear H0
    have H0 := Lib.hid h0
    have HZ := Lib.hid hz
    rw [if_pos hz]
    clear h0 hv0 hz
    have htb : TB w FA fn FC VA vn VC 10 (some ad) n c nm v (((w.alloc (.cells #[.slice FA fn FC, .slice VA vn VC] 126)).alloc (.cells #[.int .i64 10, .slice (some ad) n c, .string nm, .int .i64 v.k, .int .i64 v.i, .bool v.b, .string v.s, .float .f64 v.n] 27)).alloc (.cells #[.int .i64 0, .int .i64 0, .bool false, .string { data := #[] }, .float .f64 0] 25)) := TB_new w FA fn FC VA vn VC 10 (some ad) n c nm v
    have HHELD := Lib.hid (fun W (hb : TB w FA fn FC VA vn VC 10 (some ad) n c nm v W) => (show THeld w FA fn FC VA vn VC ad n c p0 A0 n0 c0 m0 y0 W from let q := hq0 W hb.1; ⟨hb.2.2.1, hb.2.2.2.1, hb.2.2.2.2.1.2.1, q.1, q.2.1, q.2.2.1, q.2.2.2.1, q.2.2.2.2.1, q.2.2.2.2.2.1, q.2.2.2.2.2.2.1, q.2.2.2.2.2.2.2⟩))
    clear hq0
    have HKP := Lib.hid (fun (W W' : World) (h : TB w FA fn FC VA vn VC 10 (some ad) n c nm v W ∧ THeld w FA fn FC VA vn VC ad n c p0 A0 n0 c0 m0 y0 W) (hb : Below W.heap.size W W') => And.intro (h.1.below hb) (HHELD.out _ (h.1.below hb)))
    have HKS := Lib.hid (fun (W : World) (b : Nat) (u0 u1 u2 u3 u4 : Value) (hge : w.heap.size + 3 ≤ b) (h : TB w FA fn FC VA vn VC 10 (some ad) n c nm v W ∧ THeld w FA fn FC VA vn VC ad n c p0 A0 n0 c0 m0 y0 W) => let hb := below_set5 (Below.refl (w.heap.size + 3) W) hge u0 u1 u2 u3 u4; And.intro (h.1.below3 hb) (HHELD.out _ (h.1.below3 hb)))
    go_enter Tryz.func148, Tryz.ntmps148
    go_upto_region 6 with fail
    generalize ((w.alloc (.cells #[.slice FA fn FC, .slice VA vn VC] 126)).alloc (.cells #[.int .i64 10, .slice (some ad) n c, .string nm, .int .i64 v.k, .int .i64 v.i, .bool v.b, .string v.s, .float .f64 v.n] 27)).alloc (.cells #[.int .i64 0, .int .i64 0, .bool false, .string { data := #[] }, .float .f64 0] 25) = wb at *
    have hS0 : TB w FA fn FC VA vn VC 10 (some ad) n c nm v wb.drew ∧ THeld w FA fn FC VA vn VC ad n c p0 A0 n0 c0 m0 y0 wb.drew := ⟨htb.below (Below.refl _ _).drew, HHELD.out _ (htb.below (Below.refl _ _).drew)⟩
    refine wp_region_held_drew (S := (fun W => TB w FA fn FC VA vn VC 10 (some ad) n c nm v W ∧ THeld w FA fn FC VA vn VC ad n c p0 A0 n0 c0 m0 y0 W)) (by kernel_rfl) (hS0) (fun hHeld => ?_)
    refine wpAnyH_take (i := 0) (oi := ?oi93) (v := ?v93) ?hi93 (by kernel_rfl) (by kernel_rfl) (by kernel_rfl) ?hQ93 (Or.inl ⟨?hw93, ?hy93⟩) (by assumption) ?rest93
    case hi93 => (simp only [gA, gB, gC]; rfl)
    case hQ93 => exact fun _ _ _ h => h
    case hw93 => rfl
    case hy93 => (intro w hSw; (try dsimp only at hSw); go_simp; try with_reducible rfl)
    (try simp only [Act.put, sA, sB, sC])
    refine wpAnyH_take (i := 1) (oi := ?oi94) (v := ?v94) ?hi94 (by kernel_rfl) (by kernel_rfl) (by kernel_rfl) ?hQ94 (Or.inl ⟨?hw94, ?hy94⟩) (by assumption) ?rest94
    case hi94 => (simp only [gA, gB, gC]; rfl)
    case hQ94 => exact fun _ _ _ h => h
    case hw94 => rfl
    case hy94 => (intro w hSw; (try dsimp only at hSw); go_simp; try with_reducible rfl)
    (try simp only [Act.put, sA, sB, sC])
    refine wpAnyH_take (i := 2) (oi := ?oi95) (v := ?v95) ?hi95 (by kernel_rfl) (by kernel_rfl) (by kernel_rfl) ?hQ95 (Or.inl ⟨?hw95, ?hy95⟩) (by assumption) ?rest95
    case hi95 => (simp only [gA, gB, gC]; rfl)
    case hQ95 => exact fun _ _ _ h => h
    case hw95 => rfl
    case hy95 => (intro w hSw; (try dsimp only at hSw); go_simp; try with_reducible rfl)
    (try simp only [Act.put, sA, sB, sC])
    refine wpAnyH_take (i := 3) (oi := ?oi96) (v := ?v96) ?hi96 (by kernel_rfl) (by kernel_rfl) (by kernel_rfl) ?hQ96 (Or.inl ⟨?hw96, ?hy96⟩) (by assumption) ?rest96
    case hi96 => (simp only [gA, gB, gC]; rfl)
    case hQ96 => exact fun _ _ _ h => h
    case hw96 => rfl
    case hy96 => (intro w hSw; (try dsimp only at hSw); go_simp; try with_reducible rfl)
    (try simp only [Act.put, sA, sB, sC])
    refine wpAnyH_take (i := 4) (oi := ?oi97) (v := ?v97) ?hi97 (by kernel_rfl) (by kernel_rfl) (by kernel_rfl) ?hQ97 (Or.inl ⟨?hw97, ?hy97⟩) (by assumption) ?rest97
    case hi97 => (simp only [gA, gB, gC]; rfl)
    case hQ97 => exact fun _ _ _ h => h
    case hw97 => rfl
    case hy97 => (intro w hSw; (try dsimp only at hSw); go_simp; try with_reducible rfl)
    (try simp only [Act.put, sA, sB, sC])
    refine wpAnyH_ready (rs := [5, 6]) (by kernel_rfl) (by simp) ?_
    refine AllReadyH.cons (o := ?o98) ?ho98 (fun K hK => ?st98) (AllReadyH.cons (o := ?o99) ?ho99 (fun K hK => ?st99) AllReadyH.nil)
    case ho98 => (simp only [gA, gB, gC]; rfl)
    case ho99 => (simp only [gA, gB, gC]; rfl)
    · go_simp
      refine (H0.out _ (And.left (And.left hHeld))).mono ?_; rintro e wA ⟨rfl, hbA⟩
      exact ⟨rfl, (if_neg HZ.out).symm, (And.left (And.left hHeld)).trans (hbA.mono (And.left (And.left hHeld)).size)⟩
    · go_simp
      refine hK.out _ _ ?_ (fun hHeld => ?_)
      · (try dsimp only); exact HKP.out _ _ hS0 (alloc1 _ _)
      clear hK K
      (try simp only [Act.put, sA, sB, sC])
      refine wpAnyH_ready (rs := [5]) (by kernel_rfl) (by simp) ?_
      refine AllReadyH.cons (o := ?o100) ?ho100 (fun K hK => ?st100) AllReadyH.nil
      case ho100 => (simp only [gA, gB, gC]; rfl)
      go_simp
      refine (H0.out _ (And.left (And.left hHeld))).mono ?_; rintro e wA ⟨rfl, hbA⟩
      exact ⟨rfl, (if_neg HZ.out).symm, (And.left (And.left hHeld)).trans (hbA.mono (And.left (And.left hHeld)).size)⟩
set_option maxHeartbeats 600000 in
theorem tell_11 (FA : Option Addr) (fn FC : Nat) (VA : Option Addr) (vn VC : Nat) (ad : Addr) (n c : Nat) (nm : ByteArray) (v : Vl) (w : World) (A0 : Option Addr) (n0 c0 : Nat) (m0 : ByteArray) (y0 : Vl) (p0 : Int) (R0 : Vl × Int) (hq0 : ∀ W, Below w.heap.size w W → Kid W ad p0 A0 n0 c0 m0 y0) (h0 : ∀ W, Below w.heap.size w W → Calls Tryz.prog 148 #[agR FA fn FC VA vn VC, agX p0 A0 n0 c0 m0 y0] W (TellP R0 W)) (hv0 : R0.2 = 0 → okV R0.1) (A1 : Option Addr) (n1 c1 : Nat) (m1 : ByteArray) (y1 : Vl) (p1 : Int) (R1 : Vl × Int) (hq1 : ∀ W, Below w.heap.size w W → Kid W ⟨ad.block, ad.off + 8, none⟩ p1 A1 n1 c1 m1 y1) (h1 : ∀ W, Below w.heap.size w W → Calls Tryz.prog 148 #[agR FA fn FC VA vn VC, agX p1 A1 n1 c1 m1 y1] W (TellP R1 W)) (hv1 : R1.2 = 0 → okV R1.1) (hn : 1 < n) :
    Calls Tryz.prog 148 #[agR FA fn FC VA vn VC, agX 11 (some ad) n c nm v] w (TellP (if R0.2 ≠ 0 then (vZero, R0.2) else (if R0.1.b = true then (R0.1, 0) else R1)) w) := by
  have hi1 : (1 : Int) < (n : Int) := by omega
  have hsf := fun (w : World) (a : Addr) (m : Mode) (b : Nat) => run_store Tryz.prog w a (.float .f64 b) m rfl
  have hi : (0 : Int) < (n : Int) := by omega
  have hn0 : 0 < n := by omega
  have HQ1 := Lib.hid hq1
  have H1 := Lib.hid h1
  clear hq1 h1 hv1
  obtain ⟨r1, r2⟩ := R0
  have H0 := Lib.hid h0
  clear h0
  by_cases hz : r2 = 0
  · subst hz
    rw [if_neg (fun h => h rfl)]
    have h0 := fun W hb => (H0.out W hb).mono (fun e w' h => (⟨h.1.trans (if_pos rfl), h.2⟩ : e = .returned (agV r1) ∧ Below W.heap.size W w'))
    clear H0
    have H0 := Lib.hid h0
    clear h0 hv0
    rcases hb : r1.b with _ | _
    · rw [if_neg (by decide)]
      have HBB := Lib.hid hb
      clear hb
      have htb : TB w FA fn FC VA vn VC 11 (some ad) n c nm v (((w.alloc (.cells #[.slice FA fn FC, .slice VA vn VC] 126)).alloc (.cells #[.int .i64 11, .slice (some ad) n c, .string nm, .int .i64 v.k, .int .i64 v.i, .bool v.b, .string v.s, .float .f64 v.n] 27)).alloc (.cells #[.int .i64 0, .int .i64 0, .bool false, .string { data := #[] }, .float .f64 0] 25)) := TB_new w FA fn FC VA vn VC 11 (some ad) n c nm v
      have HHELD := Lib.hid (fun W (hb : TB w FA fn FC VA vn VC 11 (some ad) n c nm v W) => (show THeld w FA fn FC VA vn VC ad n c p0 A0 n0 c0 m0 y0 W from let q := hq0 W hb.1; ⟨hb.2.2.1, hb.2.2.2.1, hb.2.2.2.2.1.2.1, q.1, q.2.1, q.2.2.1, q.2.2.2.1, q.2.2.2.2.1, q.2.2.2.2.2.1, q.2.2.2.2.2.2.1, q.2.2.2.2.2.2.2⟩))
      clear hq0
      have HKP := Lib.hid (fun (W W' : World) (h : TB w FA fn FC VA vn VC 11 (some ad) n c nm v W ∧ THeld w FA fn FC VA vn VC ad n c p0 A0 n0 c0 m0 y0 W) (hb : Below W.heap.size W W') => And.intro (h.1.below hb) (HHELD.out _ (h.1.below hb)))
      have HKS := Lib.hid (fun (W : World) (b : Nat) (u0 u1 u2 u3 u4 : Value) (hge : w.heap.size + 3 ≤ b) (h : TB w FA fn FC VA vn VC 11 (some ad) n c nm v W ∧ THeld w FA fn FC VA vn VC ad n c p0 A0 n0 c0 m0 y0 W) => let hb := below_set5 (Below.refl (w.heap.size + 3) W) hge u0 u1 u2 u3 u4; And.intro (h.1.below3 hb) (HHELD.out _ (h.1.below3 hb)))
      go_enter Tryz.func148, Tryz.ntmps148
      go_upto_region 6 with fail
      generalize ((w.alloc (.cells #[.slice FA fn FC, .slice VA vn VC] 126)).alloc (.cells #[.int .i64 11, .slice (some ad) n c, .string nm, .int .i64 v.k, .int .i64 v.i, .bool v.b, .string v.s, .float .f64 v.n] 27)).alloc (.cells #[.int .i64 0, .int .i64 0, .bool false, .string { data := #[] }, .float .f64 0] 25) = wb at *
      go_cut [5] from 23 to 28 (fun s5 wx => ∃ b, s5 = .pointer (some ⟨b, 0, none⟩) ∧ w.heap.size + 3 ≤ b ∧ TB w FA fn FC VA vn VC 11 (some ad) n c nm v wx ∧ Bx wx b r1)
      case first =>
        have hS0 : TB w FA fn FC VA vn VC 11 (some ad) n c nm v wb.drew ∧ THeld w FA fn FC VA vn VC ad n c p0 A0 n0 c0 m0 y0 wb.drew := ⟨htb.below (Below.refl _ _).drew, HHELD.out _ (htb.below (Below.refl _ _).drew)⟩
        refine wp_region_held_drew (S := (fun W => TB w FA fn FC VA vn VC 11 (some ad) n c nm v W ∧ THeld w FA fn FC VA vn VC ad n c p0 A0 n0 c0 m0 y0 W)) (by kernel_rfl) (hS0) (fun hHeld => ?_)
        refine wpAnyH_take (i := 0) (oi := ?oi114) (v := ?v114) ?hi114 (by kernel_rfl) (by kernel_rfl) (by kernel_rfl) ?hQ114 (Or.inl ⟨?hw114, ?hy114⟩) (by assumption) ?rest114
        case hi114 => (simp only [gA, gB, gC]; rfl)
        case hQ114 => exact fun _ _ _ h => h
        case hw114 => rfl
        case hy114 => (intro w hSw; (try dsimp only at hSw); go_simp; try with_reducible rfl)
        (try simp only [Act.put, sA, sB, sC])
        refine wpAnyH_take (i := 1) (oi := ?oi115) (v := ?v115) ?hi115 (by kernel_rfl) (by kernel_rfl) (by kernel_rfl) ?hQ115 (Or.inl ⟨?hw115, ?hy115⟩) (by assumption) ?rest115
        case hi115 => (simp only [gA, gB, gC]; rfl)
        case hQ115 => exact fun _ _ _ h => h
        case hw115 => rfl
        case hy115 => (intro w hSw; (try dsimp only at hSw); go_simp; try with_reducible rfl)
        (try simp only [Act.put, sA, sB, sC])
        refine wpAnyH_take (i := 2) (oi := ?oi116) (v := ?v116) ?hi116 (by kernel_rfl) (by kernel_rfl) (by kernel_rfl) ?hQ116 (Or.inl ⟨?hw116, ?hy116⟩) (by assumption) ?rest116
        case hi116 => (simp only [gA, gB, gC]; rfl)
        case hQ116 => exact fun _ _ _ h => h
        case hw116 => rfl
        case hy116 => (intro w hSw; (try dsimp only at hSw); go_simp; try with_reducible rfl)
        (try simp only [Act.put, sA, sB, sC])
        refine wpAnyH_take (i := 3) (oi := ?oi117) (v := ?v117) ?hi117 (by kernel_rfl) (by kernel_rfl) (by kernel_rfl) ?hQ117 (Or.inl ⟨?hw117, ?hy117⟩) (by assumption) ?rest117
        case hi117 => (simp only [gA, gB, gC]; rfl)
        case hQ117 => exact fun _ _ _ h => h
        case hw117 => rfl
        case hy117 => (intro w hSw; (try dsimp only at hSw); go_simp; try with_reducible rfl)
        (try simp only [Act.put, sA, sB, sC])
        refine wpAnyH_take (i := 4) (oi := ?oi118) (v := ?v118) ?hi118 (by kernel_rfl) (by kernel_rfl) (by kernel_rfl) ?hQ118 (Or.inl ⟨?hw118, ?hy118⟩) (by assumption) ?rest118
        case hi118 => (simp only [gA, gB, gC]; rfl)
        case hQ118 => exact fun _ _ _ h => h
        case hw118 => rfl
        case hy118 => (intro w hSw; (try dsimp only at hSw); go_simp; try with_reducible rfl)
        (try simp only [Act.put, sA, sB, sC])
        refine wpAnyH_ready (rs := [5, 6]) (by kernel_rfl) (by simp) ?_
        refine AllReadyH.cons (o := ?o119) ?ho119 (fun K hK => ?st119) (AllReadyH.cons (o := ?o120) ?ho120 (fun K hK => ?st120) AllReadyH.nil)
        case ho119 => (simp only [gA, gB, gC]; rfl)
        case ho120 => (simp only [gA, gB, gC]; rfl)
        · go_simp
          refine (H0.out _ (And.left (And.left hHeld))).mono ?_; rintro e wA ⟨rfl, hbA⟩; have hSA := HKP.out _ _ hHeld hbA
          refine hK.out _ _ ?_ (fun hHeld => ?_)
          · (try dsimp only); exact hSA
          clear hK K
          (try simp only [Act.put, sA, sB, sC])
          refine wpAnyH_ready (rs := [6]) (by kernel_rfl) (by simp) ?_
          refine AllReadyH.cons (o := ?o121) ?ho121 (fun K hK => ?st121) AllReadyH.nil
          case ho121 => (simp only [gA, gB, gC]; rfl)
          go_simp
          refine hK.out _ _ ?_ (fun hHeld => ?_)
          · (try dsimp only); exact HKP.out _ _ hSA (alloc1 _ _)
          clear hK K
          (try simp only [Act.put, sA, sB, sC])
          refine wpAnyH_ready (rs := [7]) (by kernel_rfl) (by simp) ?_
          refine AllReadyH.cons (o := ?o122) ?ho122 (fun K hK => ?st122) AllReadyH.nil
          case ho122 => (simp only [gA, gB, gC]; rfl)
          go_simp
          refine hK.out _ _ ?_ (fun hHeld => ?_)
          · (try dsimp only); exact HKP.out _ _ hSA (alloc1 _ _)
          clear hK K
          (try simp only [Act.put, sA, sB, sC])
          refine wpAnyH_done (by kernel_rfl) ?_ _
          go_wp2_with fail
          go_meet
          exact ⟨_, rfl, hSA.1.2.1, hHeld.1, Bx.new _ r1⟩
        · go_simp
          refine hK.out _ _ ?_ (fun hHeld => ?_)
          · (try dsimp only); exact HKP.out _ _ hS0 (alloc1 _ _)
          clear hK K
          (try simp only [Act.put, sA, sB, sC])
          refine wpAnyH_ready (rs := [5]) (by kernel_rfl) (by simp) ?_
          refine AllReadyH.cons (o := ?o123) ?ho123 (fun K hK => ?st123) AllReadyH.nil
          case ho123 => (simp only [gA, gB, gC]; rfl)
          go_simp
          refine (H0.out _ (And.left (And.left hHeld))).mono ?_; rintro e wA ⟨rfl, hbA⟩; have hSA := HKP.out _ _ hHeld hbA; obtain ⟨e0, e1, e2, e3, e4, ef⟩ := newcells hbA
          refine hK.out _ _ ?_ (fun hHeld => ?_)
          · (try dsimp only); exact hSA
          clear hK K
          (try simp only [Act.put, sA, sB, sC])
          refine wpAnyH_ready (rs := [7]) (by kernel_rfl) (by simp) ?_
          refine AllReadyH.cons (o := ?o124) ?ho124 (fun K hK => ?st124) AllReadyH.nil
          case ho124 => (simp only [gA, gB, gC]; rfl)
          go_simp
          refine hK.out _ _ ?_ (fun hHeld => ?_)
          · (try dsimp only); exact HKS.out _ _ _ _ _ _ _ htb.2.1 hSA
          clear hK K
          (try simp only [Act.put, sA, sB, sC])
          refine wpAnyH_done (by kernel_rfl) ?_ _
          go_wp2_with fail
          go_meet
          exact ⟨_, rfl, htb.2.1, hHeld.1, bx_set e0 e1 e2 e3 e4⟩
      case rest =>
        clear htb HHELD HKP HKS
        obtain ⟨b, rfl, hbge, hTB, hx0, hx1, hx2, hx3, hx4⟩ := hcut
        obtain ⟨d0, d1, d2, d3, d4, d5, d6, d7⟩ := hTB.2.2.2.2.1
        have g0 := hTB.2.2.1
        have g1 := hTB.2.2.2.1
        have hb := HBB.out
        rw [hb] at hx2
        clear hb
        obtain ⟨s1, s2⟩ := R1
        by_cases hz1 : s2 = 0
        · subst hz1
          have h1 := fun W hb => (H1.out W hb).mono (fun e w' h => (⟨h.1.trans (if_pos rfl), h.2⟩ : e = .returned (agV s1) ∧ Below W.heap.size W w'))
          clear H1
          have H1 := Lib.hid h1
          clear h1
          have HT := Lib.hid (fun W (hb : TC w FA fn FC VA vn VC 11 (some ad) n c nm v W) => (show THeldK w FA fn FC VA vn VC 11 ad n c ⟨ad.block, ad.off + 8, none⟩ p1 A1 n1 c1 m1 y1 W from let q := HQ1.out W hb.1; ⟨hb.2.2.1, hb.2.2.2.1, hb.2.2.2.2.1, hb.2.2.2.2.2.1, q.1, q.2.1, q.2.2.1, q.2.2.2.1, q.2.2.2.2.1, q.2.2.2.2.2.1, q.2.2.2.2.2.2.1, q.2.2.2.2.2.2.2⟩))
          have HK1 := Lib.hid (fun (W W' : World) (h : (TC w FA fn FC VA vn VC 11 (some ad) n c nm v W ∧ THeldK w FA fn FC VA vn VC 11 ad n c ⟨ad.block, ad.off + 8, none⟩ p1 A1 n1 c1 m1 y1 W)) (hb : Below W.heap.size W W') => (show (TC w FA fn FC VA vn VC 11 (some ad) n c nm v W' ∧ THeldK w FA fn FC VA vn VC 11 ad n c ⟨ad.block, ad.off + 8, none⟩ p1 A1 n1 c1 m1 y1 W') from ⟨h.1.below2 (hb.mono h.1.2.1), HT.out _ (h.1.below2 (hb.mono h.1.2.1))⟩))
          have HKZ := Lib.hid (fun (W : World) (u0 u1 u2 u3 u4 : Value) (h : (TC w FA fn FC VA vn VC 11 (some ad) n c nm v W ∧ THeldK w FA fn FC VA vn VC 11 ad n c ⟨ad.block, ad.off + 8, none⟩ p1 A1 n1 c1 m1 y1 W)) => let hb := below_set5 (Below.refl (w.heap.size + 2) W) (show w.heap.size + 2 ≤ w.heap.size + 1 + 1 by omega) u0 u1 u2 u3 u4; (show (TC w FA fn FC VA vn VC 11 (some ad) n c nm v (((((W.setCell ⟨w.heap.size + 1 + 1, 0, none⟩ u0).setCell ⟨w.heap.size + 1 + 1, 1, none⟩ u1).setCell ⟨w.heap.size + 1 + 1, 2, none⟩ u2).setCell ⟨w.heap.size + 1 + 1, 3, none⟩ u3).setCell ⟨w.heap.size + 1 + 1, 4, none⟩ u4) ∧ THeldK w FA fn FC VA vn VC 11 ad n c ⟨ad.block, ad.off + 8, none⟩ p1 A1 n1 c1 m1 y1 (((((W.setCell ⟨w.heap.size + 1 + 1, 0, none⟩ u0).setCell ⟨w.heap.size + 1 + 1, 1, none⟩ u1).setCell ⟨w.heap.size + 1 + 1, 2, none⟩ u2).setCell ⟨w.heap.size + 1 + 1, 3, none⟩ u3).setCell ⟨w.heap.size + 1 + 1, 4, none⟩ u4)) from ⟨h.1.below2 hb, HT.out _ (h.1.below2 hb)⟩))
          have hS1 : (fun W => (TC w FA fn FC VA vn VC 11 (some ad) n c nm v W ∧ THeldK w FA fn FC VA vn VC 11 ad n c ⟨ad.block, ad.off + 8, none⟩ p1 A1 n1 c1 m1 y1 W)) wc.drew := ⟨hTB.tc.below2 (Below.refl _ _).drew, HT.out _ (hTB.tc.below2 (Below.refl _ _).drew)⟩
          have HTB := Lib.hid hTB
          go_wp2_with fail
          refine wp_region_held_drew (S := (fun W => (TC w FA fn FC VA vn VC 11 (some ad) n c nm v W ∧ THeldK w FA fn FC VA vn VC 11 ad n c ⟨ad.block, ad.off + 8, none⟩ p1 A1 n1 c1 m1 y1 W))) (by kernel_rfl) (hS1) (fun hHeld => ?_)
          refine wpAnyH_take (i := 0) (oi := ?oi101) (v := ?v101) ?hi101 (by kernel_rfl) (by kernel_rfl) (by kernel_rfl) ?hQ101 (Or.inl ⟨?hw101, ?hy101⟩) (by assumption) ?rest101
          case hi101 => (simp only [gA, gB, gC]; rfl)
          case hQ101 => exact fun _ _ _ h => h
          case hw101 => rfl
          case hy101 => (intro w hSw; (try dsimp only at hSw); go_simp; try with_reducible rfl)
          (try simp only [Act.put, sA, sB, sC])
          refine wpAnyH_take (i := 1) (oi := ?oi102) (v := ?v102) ?hi102 (by kernel_rfl) (by kernel_rfl) (by kernel_rfl) ?hQ102 (Or.inl ⟨?hw102, ?hy102⟩) (by assumption) ?rest102
          case hi102 => (simp only [gA, gB, gC]; rfl)
          case hQ102 => exact fun _ _ _ h => h
          case hw102 => rfl
          case hy102 => (intro w hSw; (try dsimp only at hSw); go_simp; try with_reducible rfl)
          (try simp only [Act.put, sA, sB, sC])
          refine wpAnyH_take (i := 2) (oi := ?oi103) (v := ?v103) ?hi103 (by kernel_rfl) (by kernel_rfl) (by kernel_rfl) ?hQ103 (Or.inl ⟨?hw103, ?hy103⟩) (by assumption) ?rest103
          case hi103 => (simp only [gA, gB, gC]; rfl)
          case hQ103 => exact fun _ _ _ h => h
          case hw103 => rfl
          case hy103 => (intro w hSw; (try dsimp only at hSw); go_simp; try with_reducible rfl)
          (try simp only [Act.put, sA, sB, sC])
          refine wpAnyH_take (i := 3) (oi := ?oi104) (v := ?v104) ?hi104 (by kernel_rfl) (by kernel_rfl) (by kernel_rfl) ?hQ104 (Or.inl ⟨?hw104, ?hy104⟩) (by assumption) ?rest104
          case hi104 => (simp only [gA, gB, gC]; rfl)
          case hQ104 => exact fun _ _ _ h => h
          case hw104 => rfl
          case hy104 => (intro w hSw; (try dsimp only at hSw); go_simp; try with_reducible rfl)
          (try simp only [Act.put, sA, sB, sC])
          refine wpAnyH_take (i := 4) (oi := ?oi105) (v := ?v105) ?hi105 (by kernel_rfl) (by kernel_rfl) (by kernel_rfl) ?hQ105 (Or.inl ⟨?hw105, ?hy105⟩) (by assumption) ?rest105
          case hi105 => (simp only [gA, gB, gC]; rfl)
          case hQ105 => exact fun _ _ _ h => h
          case hw105 => rfl
          case hy105 => (intro w hSw; (try dsimp only at hSw); go_simp; try with_reducible rfl)
          (try simp only [Act.put, sA, sB, sC])
          refine wpAnyH_ready (rs := [5]) (by kernel_rfl) (by simp) ?_
          refine AllReadyH.cons (o := ?o106) ?ho106 (fun K hK => ?st106) AllReadyH.nil
          case ho106 => (simp only [gA, gB, gC]; rfl)
          go_simp
          refine (H1.out _ hHeld.1.1).mono ?_; rintro e w2 ⟨rfl, hb2⟩; obtain ⟨ou0, ou1, ou2, ou3, ou4, ov0, ov1, ov2, ov3, ov4, ovf⟩ := TB.out ((HTB.out.below (Below.refl _ _).drew).below hb2)
          refine hK.out _ _ ?_ (fun hHeld => ?_)
          · (try dsimp only); exact HK1.out _ _ hHeld hb2
          clear hK K
          (try simp only [Act.put, sA, sB, sC])
          refine wpAnyH_ready (rs := [6]) (by kernel_rfl) (by simp) ?_
          refine AllReadyH.cons (o := ?o107) ?ho107 (fun K hK => ?st107) AllReadyH.nil
          case ho107 => (simp only [gA, gB, gC]; rfl)
          go_simp
          refine hK.out _ _ ?_ (fun hHeld => ?_)
          · (try dsimp only); exact HKZ.out _ _ _ _ _ _ hHeld
          clear hK K
          (try simp only [Act.put, sA, sB, sC])
          refine wpAnyH_done (by kernel_rfl) ?_ _
          go_wp2_with fail
          exact bodyPost_ret (v := agV s1) (by simp [results, Tryz.results148, go_sem, ov0, ov1, ov2, ov3, ov4]) rfl ⟨rfl, TB.done ((HTB.out.below (Below.refl _ _).drew).below hb2) _ _ _ _ _⟩
        · have h1 := fun W hb => (H1.out W hb).mono (fun e w' h => (⟨h.1.trans (if_neg hz1), h.2⟩ : e = .panicked (PV s2) ∧ Below W.heap.size W w'))
          clear H1
          have H1 := Lib.hid h1
          have HZ1 := Lib.hid hz1
          clear h1 hz1
          have HT := Lib.hid (fun W (hb : TC w FA fn FC VA vn VC 11 (some ad) n c nm v W) => (show THeldK w FA fn FC VA vn VC 11 ad n c ⟨ad.block, ad.off + 8, none⟩ p1 A1 n1 c1 m1 y1 W from let q := HQ1.out W hb.1; ⟨hb.2.2.1, hb.2.2.2.1, hb.2.2.2.2.1, hb.2.2.2.2.2.1, q.1, q.2.1, q.2.2.1, q.2.2.2.1, q.2.2.2.2.1, q.2.2.2.2.2.1, q.2.2.2.2.2.2.1, q.2.2.2.2.2.2.2⟩))
          have HK1 := Lib.hid (fun (W W' : World) (h : (TC w FA fn FC VA vn VC 11 (some ad) n c nm v W ∧ THeldK w FA fn FC VA vn VC 11 ad n c ⟨ad.block, ad.off + 8, none⟩ p1 A1 n1 c1 m1 y1 W)) (hb : Below W.heap.size W W') => (show (TC w FA fn FC VA vn VC 11 (some ad) n c nm v W' ∧ THeldK w FA fn FC VA vn VC 11 ad n c ⟨ad.block, ad.off + 8, none⟩ p1 A1 n1 c1 m1 y1 W') from ⟨h.1.below2 (hb.mono h.1.2.1), HT.out _ (h.1.below2 (hb.mono h.1.2.1))⟩))
          have HKZ := Lib.hid (fun (W : World) (u0 u1 u2 u3 u4 : Value) (h : (TC w FA fn FC VA vn VC 11 (some ad) n c nm v W ∧ THeldK w FA fn FC VA vn VC 11 ad n c ⟨ad.block, ad.off + 8, none⟩ p1 A1 n1 c1 m1 y1 W)) => let hb := below_set5 (Below.refl (w.heap.size + 2) W) (show w.heap.size + 2 ≤ w.heap.size + 1 + 1 by omega) u0 u1 u2 u3 u4; (show (TC w FA fn FC VA vn VC 11 (some ad) n c nm v (((((W.setCell ⟨w.heap.size + 1 + 1, 0, none⟩ u0).setCell ⟨w.heap.size + 1 + 1, 1, none⟩ u1).setCell ⟨w.heap.size + 1 + 1, 2, none⟩ u2).setCell ⟨w.heap.size + 1 + 1, 3, none⟩ u3).setCell ⟨w.heap.size + 1 + 1, 4, none⟩ u4) ∧ THeldK w FA fn FC VA vn VC 11 ad n c ⟨ad.block, ad.off + 8, none⟩ p1 A1 n1 c1 m1 y1 (((((W.setCell ⟨w.heap.size + 1 + 1, 0, none⟩ u0).setCell ⟨w.heap.size + 1 + 1, 1, none⟩ u1).setCell ⟨w.heap.size + 1 + 1, 2, none⟩ u2).setCell ⟨w.heap.size + 1 + 1, 3, none⟩ u3).setCell ⟨w.heap.size + 1 + 1, 4, none⟩ u4)) from ⟨h.1.below2 hb, HT.out _ (h.1.below2 hb)⟩))
          have hS1 : (fun W => (TC w FA fn FC VA vn VC 11 (some ad) n c nm v W ∧ THeldK w FA fn FC VA vn VC 11 ad n c ⟨ad.block, ad.off + 8, none⟩ p1 A1 n1 c1 m1 y1 W)) wc.drew := ⟨hTB.tc.below2 (Below.refl _ _).drew, HT.out _ (hTB.tc.below2 (Below.refl _ _).drew)⟩
          have HTB := Lib.hid hTB
          go_wp2_with fail
          refine wp_region_held_drew (S := (fun W => (TC w FA fn FC VA vn VC 11 (some ad) n c nm v W ∧ THeldK w FA fn FC VA vn VC 11 ad n c ⟨ad.block, ad.off + 8, none⟩ p1 A1 n1 c1 m1 y1 W))) (by kernel_rfl) (hS1) (fun hHeld => ?_)
          refine wpAnyH_take (i := 0) (oi := ?oi108) (v := ?v108) ?hi108 (by kernel_rfl) (by kernel_rfl) (by kernel_rfl) ?hQ108 (Or.inl ⟨?hw108, ?hy108⟩) (by assumption) ?rest108
          case hi108 => (simp only [gA, gB, gC]; rfl)
          case hQ108 => exact fun _ _ _ h => h
          case hw108 => rfl
          case hy108 => (intro w hSw; (try dsimp only at hSw); go_simp; try with_reducible rfl)
          (try simp only [Act.put, sA, sB, sC])
          refine wpAnyH_take (i := 1) (oi := ?oi109) (v := ?v109) ?hi109 (by kernel_rfl) (by kernel_rfl) (by kernel_rfl) ?hQ109 (Or.inl ⟨?hw109, ?hy109⟩) (by assumption) ?rest109
          case hi109 => (simp only [gA, gB, gC]; rfl)
          case hQ109 => exact fun _ _ _ h => h
          case hw109 => rfl
          case hy109 => (intro w hSw; (try dsimp only at hSw); go_simp; try with_reducible rfl)
          (try simp only [Act.put, sA, sB, sC])
          refine wpAnyH_take (i := 2) (oi := ?oi110) (v := ?v110) ?hi110 (by kernel_rfl) (by kernel_rfl) (by kernel_rfl) ?hQ110 (Or.inl ⟨?hw110, ?hy110⟩) (by assumption) ?rest110
          case hi110 => (simp only [gA, gB, gC]; rfl)
          case hQ110 => exact fun _ _ _ h => h
          case hw110 => rfl
          case hy110 => (intro w hSw; (try dsimp only at hSw); go_simp; try with_reducible rfl)
          (try simp only [Act.put, sA, sB, sC])
          refine wpAnyH_take (i := 3) (oi := ?oi111) (v := ?v111) ?hi111 (by kernel_rfl) (by kernel_rfl) (by kernel_rfl) ?hQ111 (Or.inl ⟨?hw111, ?hy111⟩) (by assumption) ?rest111
          case hi111 => (simp only [gA, gB, gC]; rfl)
          case hQ111 => exact fun _ _ _ h => h
          case hw111 => rfl
          case hy111 => (intro w hSw; (try dsimp only at hSw); go_simp; try with_reducible rfl)
          (try simp only [Act.put, sA, sB, sC])
          refine wpAnyH_take (i := 4) (oi := ?oi112) (v := ?v112) ?hi112 (by kernel_rfl) (by kernel_rfl) (by kernel_rfl) ?hQ112 (Or.inl ⟨?hw112, ?hy112⟩) (by assumption) ?rest112
          case hi112 => (simp only [gA, gB, gC]; rfl)
          case hQ112 => exact fun _ _ _ h => h
          case hw112 => rfl
          case hy112 => (intro w hSw; (try dsimp only at hSw); go_simp; try with_reducible rfl)
          (try simp only [Act.put, sA, sB, sC])
          refine wpAnyH_ready (rs := [5]) (by kernel_rfl) (by simp) ?_
          refine AllReadyH.cons (o := ?o113) ?ho113 (fun K hK => ?st113) AllReadyH.nil
          case ho113 => (simp only [gA, gB, gC]; rfl)
          go_simp
          refine (H1.out _ hHeld.1.1).mono ?_; rintro e w2 ⟨rfl, hb2⟩
          exact ⟨rfl, (if_neg HZ1.out).symm, ((HTB.out.below (Below.refl _ _).drew).below hb2).1⟩
    · rw [if_pos rfl]
      have HBB := Lib.hid hb
      clear hb
      have htb : TB w FA fn FC VA vn VC 11 (some ad) n c nm v (((w.alloc (.cells #[.slice FA fn FC, .slice VA vn VC] 126)).alloc (.cells #[.int .i64 11, .slice (some ad) n c, .string nm, .int .i64 v.k, .int .i64 v.i, .bool v.b, .string v.s, .float .f64 v.n] 27)).alloc (.cells #[.int .i64 0, .int .i64 0, .bool false, .string { data := #[] }, .float .f64 0] 25)) := TB_new w FA fn FC VA vn VC 11 (some ad) n c nm v
      have HHELD := Lib.hid (fun W (hb : TB w FA fn FC VA vn VC 11 (some ad) n c nm v W) => (show THeld w FA fn FC VA vn VC ad n c p0 A0 n0 c0 m0 y0 W from let q := hq0 W hb.1; ⟨hb.2.2.1, hb.2.2.2.1, hb.2.2.2.2.1.2.1, q.1, q.2.1, q.2.2.1, q.2.2.2.1, q.2.2.2.2.1, q.2.2.2.2.2.1, q.2.2.2.2.2.2.1, q.2.2.2.2.2.2.2⟩))
      clear hq0
      have HKP := Lib.hid (fun (W W' : World) (h : TB w FA fn FC VA vn VC 11 (some ad) n c nm v W ∧ THeld w FA fn FC VA vn VC ad n c p0 A0 n0 c0 m0 y0 W) (hb : Below W.heap.size W W') => And.intro (h.1.below hb) (HHELD.out _ (h.1.below hb)))
      have HKS := Lib.hid (fun (W : World) (b : Nat) (u0 u1 u2 u3 u4 : Value) (hge : w.heap.size + 3 ≤ b) (h : TB w FA fn FC VA vn VC 11 (some ad) n c nm v W ∧ THeld w FA fn FC VA vn VC ad n c p0 A0 n0 c0 m0 y0 W) => let hb := below_set5 (Below.refl (w.heap.size + 3) W) hge u0 u1 u2 u3 u4; And.intro (h.1.below3 hb) (HHELD.out _ (h.1.below3 hb)))
      go_enter Tryz.func148, Tryz.ntmps148
      go_upto_region 6 with fail
      generalize ((w.alloc (.cells #[.slice FA fn FC, .slice VA vn VC] 126)).alloc (.cells #[.int .i64 11, .slice (some ad) n c, .string nm, .int .i64 v.k, .int .i64 v.i, .bool v.b, .string v.s, .float .f64 v.n] 27)).alloc (.cells #[.int .i64 0, .int .i64 0, .bool false, .string { data := #[] }, .float .f64 0] 25) = wb at *
      go_cut [5] from 23 to 28 (fun s5 wx => ∃ b, s5 = .pointer (some ⟨b, 0, none⟩) ∧ w.heap.size + 3 ≤ b ∧ TB w FA fn FC VA vn VC 11 (some ad) n c nm v wx ∧ Bx wx b r1)
      case first =>
        have hS0 : TB w FA fn FC VA vn VC 11 (some ad) n c nm v wb.drew ∧ THeld w FA fn FC VA vn VC ad n c p0 A0 n0 c0 m0 y0 wb.drew := ⟨htb.below (Below.refl _ _).drew, HHELD.out _ (htb.below (Below.refl _ _).drew)⟩
        refine wp_region_held_drew (S := (fun W => TB w FA fn FC VA vn VC 11 (some ad) n c nm v W ∧ THeld w FA fn FC VA vn VC ad n c p0 A0 n0 c0 m0 y0 W)) (by kernel_rfl) (hS0) (fun hHeld => ?_)
        refine wpAnyH_take (i := 0) (oi := ?oi125) (v := ?v125) ?hi125 (by kernel_rfl) (by kernel_rfl) (by kernel_rfl) ?hQ125 (Or.inl ⟨?hw125, ?hy125⟩) (by assumption) ?rest125
        case hi125 => (simp only [gA, gB, gC]; rfl)
        case hQ125 => exact fun _ _ _ h => h
        case hw125 => rfl
        case hy125 => (intro w hSw; (try dsimp only at hSw); go_simp; try with_reducible rfl)
        (try simp only [Act.put, sA, sB, sC])
        refine wpAnyH_take (i := 1) (oi := ?oi126) (v := ?v126) ?hi126 (by kernel_rfl) (by kernel_rfl) (by kernel_rfl) ?hQ126 (Or.inl ⟨?hw126, ?hy126⟩) (by assumption) ?rest126
        case hi126 => (simp only [gA, gB, gC]; rfl)
        case hQ126 => exact fun _ _ _ h => h
        case hw126 => rfl
        case hy126 => (intro w hSw; (try dsimp only at hSw); go_simp; try with_reducible rfl)
        (try simp only [Act.put, sA, sB, sC])
        refine wpAnyH_take (i := 2) (oi := ?oi127) (v := ?v127) ?hi127 (by kernel_rfl) (by kernel_rfl) (by kernel_rfl) ?hQ127 (Or.inl ⟨?hw127, ?hy127⟩) (by assumption) ?rest127
        case hi127 => (simp only [gA, gB, gC]; rfl)
        case hQ127 => exact fun _ _ _ h => h
        case hw127 => rfl
        case hy127 => (intro w hSw; (try dsimp only at hSw); go_simp; try with_reducible rfl)
        (try simp only [Act.put, sA, sB, sC])
        refine wpAnyH_take (i := 3) (oi := ?oi128) (v := ?v128) ?hi128 (by kernel_rfl) (by kernel_rfl) (by kernel_rfl) ?hQ128 (Or.inl ⟨?hw128, ?hy128⟩) (by assumption) ?rest128
        case hi128 => (simp only [gA, gB, gC]; rfl)
        case hQ128 => exact fun _ _ _ h => h
        case hw128 => rfl
        case hy128 => (intro w hSw; (try dsimp only at hSw); go_simp; try with_reducible rfl)
        (try simp only [Act.put, sA, sB, sC])
        refine wpAnyH_take (i := 4) (oi := ?oi129) (v := ?v129) ?hi129 (by kernel_rfl) (by kernel_rfl) (by kernel_rfl) ?hQ129 (Or.inl ⟨?hw129, ?hy129⟩) (by assumption) ?rest129
        case hi129 => (simp only [gA, gB, gC]; rfl)
        case hQ129 => exact fun _ _ _ h => h
        case hw129 => rfl
        case hy129 => (intro w hSw; (try dsimp only at hSw); go_simp; try with_reducible rfl)
        (try simp only [Act.put, sA, sB, sC])
        refine wpAnyH_ready (rs := [5, 6]) (by kernel_rfl) (by simp) ?_
        refine AllReadyH.cons (o := ?o130) ?ho130 (fun K hK => ?st130) (AllReadyH.cons (o := ?o131) ?ho131 (fun K hK => ?st131) AllReadyH.nil)
        case ho130 => (simp only [gA, gB, gC]; rfl)
        case ho131 => (simp only [gA, gB, gC]; rfl)
        · go_simp
          refine (H0.out _ (And.left (And.left hHeld))).mono ?_; rintro e wA ⟨rfl, hbA⟩; have hSA := HKP.out _ _ hHeld hbA
          refine hK.out _ _ ?_ (fun hHeld => ?_)
          · (try dsimp only); exact hSA
          clear hK K
          (try simp only [Act.put, sA, sB, sC])
          refine wpAnyH_ready (rs := [6]) (by kernel_rfl) (by simp) ?_
          refine AllReadyH.cons (o := ?o132) ?ho132 (fun K hK => ?st132) AllReadyH.nil
          case ho132 => (simp only [gA, gB, gC]; rfl)
          go_simp
          refine hK.out _ _ ?_ (fun hHeld => ?_)
          · (try dsimp only); exact HKP.out _ _ hSA (alloc1 _ _)
          clear hK K
          (try simp only [Act.put, sA, sB, sC])
          refine wpAnyH_ready (rs := [7]) (by kernel_rfl) (by simp) ?_
          refine AllReadyH.cons (o := ?o133) ?ho133 (fun K hK => ?st133) AllReadyH.nil
          case ho133 => (simp only [gA, gB, gC]; rfl)
          go_simp
          refine hK.out _ _ ?_ (fun hHeld => ?_)
          · (try dsimp only); exact HKP.out _ _ hSA (alloc1 _ _)
          clear hK K
          (try simp only [Act.put, sA, sB, sC])
          refine wpAnyH_done (by kernel_rfl) ?_ _
          go_wp2_with fail
          go_meet
          exact ⟨_, rfl, hSA.1.2.1, hHeld.1, Bx.new _ r1⟩
        · go_simp
          refine hK.out _ _ ?_ (fun hHeld => ?_)
          · (try dsimp only); exact HKP.out _ _ hS0 (alloc1 _ _)
          clear hK K
          (try simp only [Act.put, sA, sB, sC])
          refine wpAnyH_ready (rs := [5]) (by kernel_rfl) (by simp) ?_
          refine AllReadyH.cons (o := ?o134) ?ho134 (fun K hK => ?st134) AllReadyH.nil
          case ho134 => (simp only [gA, gB, gC]; rfl)
          go_simp
          refine (H0.out _ (And.left (And.left hHeld))).mono ?_; rintro e wA ⟨rfl, hbA⟩; have hSA := HKP.out _ _ hHeld hbA; obtain ⟨e0, e1, e2, e3, e4, ef⟩ := newcells hbA
          refine hK.out _ _ ?_ (fun hHeld => ?_)
          · (try dsimp only); exact hSA
          clear hK K
          (try simp only [Act.put, sA, sB, sC])
          refine wpAnyH_ready (rs := [7]) (by kernel_rfl) (by simp) ?_
          refine AllReadyH.cons (o := ?o135) ?ho135 (fun K hK => ?st135) AllReadyH.nil
          case ho135 => (simp only [gA, gB, gC]; rfl)
          go_simp
          refine hK.out _ _ ?_ (fun hHeld => ?_)
          · (try dsimp only); exact HKS.out _ _ _ _ _ _ _ htb.2.1 hSA
          clear hK K
          (try simp only [Act.put, sA, sB, sC])
          refine wpAnyH_done (by kernel_rfl) ?_ _
          go_wp2_with fail
          go_meet
          exact ⟨_, rfl, htb.2.1, hHeld.1, bx_set e0 e1 e2 e3 e4⟩
      case rest =>
        clear htb HHELD HKP HKS
        obtain ⟨b, rfl, hbge, hTB, hx0, hx1, hx2, hx3, hx4⟩ := hcut
        obtain ⟨d0, d1, d2, d3, d4, d5, d6, d7⟩ := hTB.2.2.2.2.1
        have g0 := hTB.2.2.1
        have g1 := hTB.2.2.2.1
        have hb := HBB.out
        rw [hb] at hx2
        clear hb
        obtain ⟨ou0, ou1, ou2, ou3, ou4, ov0, ov1, ov2, ov3, ov4, ovf⟩ := TB.out hTB
        go_wp2_with fail
        exact bodyPost_ret (v := agV r1) (by simp [results, Tryz.results148, go_sem, HBB.out, ov0, ov1, ov2, ov3, ov4]) rfl ⟨rfl, TB.done hTB _ _ _ _ _⟩
  · have h0 := fun W hb => (H0.out W hb).mono (fun e w' h => (⟨h.1.trans (if_neg hz), h.2⟩ : e = .panicked (PV r2) ∧ Below W.heap.size W w'))
    clear H0
    have H0 := Lib.hid h0
    have HZ := Lib.hid hz
    rw [if_pos hz]
    clear h0 hv0 hz
    have htb : TB w FA fn FC VA vn VC 11 (some ad) n c nm v (((w.alloc (.cells #[.slice FA fn FC, .slice VA vn VC] 126)).alloc (.cells #[.int .i64 11, .slice (some ad) n c, .string nm, .int .i64 v.k, .int .i64 v.i, .bool v.b, .string v.s, .float .f64 v.n] 27)).alloc (.cells #[.int .i64 0, .int .i64 0, .bool false, .string { data := #[] }, .float .f64 0] 25)) := TB_new w FA fn FC VA vn VC 11 (some ad) n c nm v
    have HHELD := Lib.hid (fun W (hb : TB w FA fn FC VA vn VC 11 (some ad) n c nm v W) => (show THeld w FA fn FC VA vn VC ad n c p0 A0 n0 c0 m0 y0 W from let q := hq0 W hb.1; ⟨hb.2.2.1, hb.2.2.2.1, hb.2.2.2.2.1.2.1, q.1, q.2.1, q.2.2.1, q.2.2.2.1, q.2.2.2.2.1, q.2.2.2.2.2.1, q.2.2.2.2.2.2.1, q.2.2.2.2.2.2.2⟩))
    clear hq0
    have HKP := Lib.hid (fun (W W' : World) (h : TB w FA fn FC VA vn VC 11 (some ad) n c nm v W ∧ THeld w FA fn FC VA vn VC ad n c p0 A0 n0 c0 m0 y0 W) (hb : Below W.heap.size W W') => And.intro (h.1.below hb) (HHELD.out _ (h.1.below hb)))
    have HKS := Lib.hid (fun (W : World) (b : Nat) (u0 u1 u2 u3 u4 : Value) (hge : w.heap.size + 3 ≤ b) (h : TB w FA fn FC VA vn VC 11 (some ad) n c nm v W ∧ THeld w FA fn FC VA vn VC ad n c p0 A0 n0 c0 m0 y0 W) => let hb := below_set5 (Below.refl (w.heap.size + 3) W) hge u0 u1 u2 u3 u4; And.intro (h.1.below3 hb) (HHELD.out _ (h.1.below3 hb)))
    go_enter Tryz.func148, Tryz.ntmps148
    go_upto_region 6 with fail
    generalize ((w.alloc (.cells #[.slice FA fn FC, .slice VA vn VC] 126)).alloc (.cells #[.int .i64 11, .slice (some ad) n c, .string nm, .int .i64 v.k, .int .i64 v.i, .bool v.b, .string v.s, .float .f64 v.n] 27)).alloc (.cells #[.int .i64 0, .int .i64 0, .bool false, .string { data := #[] }, .float .f64 0] 25) = wb at *
    have hS0 : TB w FA fn FC VA vn VC 11 (some ad) n c nm v wb.drew ∧ THeld w FA fn FC VA vn VC ad n c p0 A0 n0 c0 m0 y0 wb.drew := ⟨htb.below (Below.refl _ _).drew, HHELD.out _ (htb.below (Below.refl _ _).drew)⟩
    refine wp_region_held_drew (S := (fun W => TB w FA fn FC VA vn VC 11 (some ad) n c nm v W ∧ THeld w FA fn FC VA vn VC ad n c p0 A0 n0 c0 m0 y0 W)) (by kernel_rfl) (hS0) (fun hHeld => ?_)
    refine wpAnyH_take (i := 0) (oi := ?oi136) (v := ?v136) ?hi136 (by kernel_rfl) (by kernel_rfl) (by kernel_rfl) ?hQ136 (Or.inl ⟨?hw136, ?hy136⟩) (by assumption) ?rest136
    case hi136 => (simp only [gA, gB, gC]; rfl)
    case hQ136 => exact fun _ _ _ h => h
    case hw136 => rfl
    case hy136 => (intro w hSw; (try dsimp only at hSw); go_simp; try with_reducible rfl)
    (try simp only [Act.put, sA, sB, sC])
    refine wpAnyH_take (i := 1) (oi := ?oi137) (v := ?v137) ?hi137 (by kernel_rfl) (by kernel_rfl) (by kernel_rfl) ?hQ137 (Or.inl ⟨?hw137, ?hy137⟩) (by assumption) ?rest137
    case hi137 => (simp only [gA, gB, gC]; rfl)
    case hQ137 => exact fun _ _ _ h => h
    case hw137 => rfl
    case hy137 => (intro w hSw; (try dsimp only at hSw); go_simp; try with_reducible rfl)
    (try simp only [Act.put, sA, sB, sC])
    refine wpAnyH_take (i := 2) (oi := ?oi138) (v := ?v138) ?hi138 (by kernel_rfl) (by kernel_rfl) (by kernel_rfl) ?hQ138 (Or.inl ⟨?hw138, ?hy138⟩) (by assumption) ?rest138
    case hi138 => (simp only [gA, gB, gC]; rfl)
    case hQ138 => exact fun _ _ _ h => h
    case hw138 => rfl
    case hy138 => (intro w hSw; (try dsimp only at hSw); go_simp; try with_reducible rfl)
    (try simp only [Act.put, sA, sB, sC])
    refine wpAnyH_take (i := 3) (oi := ?oi139) (v := ?v139) ?hi139 (by kernel_rfl) (by kernel_rfl) (by kernel_rfl) ?hQ139 (Or.inl ⟨?hw139, ?hy139⟩) (by assumption) ?rest139
    case hi139 => (simp only [gA, gB, gC]; rfl)
    case hQ139 => exact fun _ _ _ h => h
    case hw139 => rfl
    case hy139 => (intro w hSw; (try dsimp only at hSw); go_simp; try with_reducible rfl)
    (try simp only [Act.put, sA, sB, sC])
    refine wpAnyH_take (i := 4) (oi := ?oi140) (v := ?v140) ?hi140 (by kernel_rfl) (by kernel_rfl) (by kernel_rfl) ?hQ140 (Or.inl ⟨?hw140, ?hy140⟩) (by assumption) ?rest140
    case hi140 => (simp only [gA, gB, gC]; rfl)
    case hQ140 => exact fun _ _ _ h => h
    case hw140 => rfl
    case hy140 => (intro w hSw; (try dsimp only at hSw); go_simp; try with_reducible rfl)
    (try simp only [Act.put, sA, sB, sC])
    refine wpAnyH_ready (rs := [5, 6]) (by kernel_rfl) (by simp) ?_
    refine AllReadyH.cons (o := ?o141) ?ho141 (fun K hK => ?st141) (AllReadyH.cons (o := ?o142) ?ho142 (fun K hK => ?st142) AllReadyH.nil)
    case ho141 => (simp only [gA, gB, gC]; rfl)
    case ho142 => (simp only [gA, gB, gC]; rfl)
    · go_simp
      refine (H0.out _ (And.left (And.left hHeld))).mono ?_; rintro e wA ⟨rfl, hbA⟩
      exact ⟨rfl, (if_neg HZ.out).symm, (And.left (And.left hHeld)).trans (hbA.mono (And.left (And.left hHeld)).size)⟩
    · go_simp
      refine hK.out _ _ ?_ (fun hHeld => ?_)
      · (try dsimp only); exact HKP.out _ _ hS0 (alloc1 _ _)
      clear hK K
      (try simp only [Act.put, sA, sB, sC])
      refine wpAnyH_ready (rs := [5]) (by kernel_rfl) (by simp) ?_
      refine AllReadyH.cons (o := ?o143) ?ho143 (fun K hK => ?st143) AllReadyH.nil
      case ho143 => (simp only [gA, gB, gC]; rfl)
      go_simp
      refine (H0.out _ (And.left (And.left hHeld))).mono ?_; rintro e wA ⟨rfl, hbA⟩
      exact ⟨rfl, (if_neg HZ.out).symm, (And.left (And.left hHeld)).trans (hbA.mono (And.left (And.left hHeld)).size)⟩
end Go.Proofs.YtkhpgejammgolaaGreat

/- Layer 5: what an expression tells, by the program. -/
namespace Go.Proofs.YtkhpgejammgolaaGreat
open Go.RowKit
set_option linter.unusedVariables false
set_option linter.unusedSimpArgs false
set_option maxRecDepth 20000

theorem alike_of {a b : Vl} (ha : goodV a = true) (hb : goodV b = true) (h : a.k = b.k) : alikeV a b = true := by
  unfold alikeV; rw [ha, hb, h, beq_self_eq_true]; rfl
theorem snd_ok {r : Vl × Int} {k : Int} (h : Snd r k) (h0 : r.2 = 0) : goodV r.1 = true ∧ okV r.1 ∧ r.1.k = k := by
  rcases h with ⟨_, h1, h2, h3⟩ | ⟨h1, _⟩
  · exact ⟨h1, h2, h3⟩
  · omega
/-- kid j of a row -/
theorem kid_at {w : World} {D : Nat} {A : Option Addr} {c : Nat} {e : Ex} (h : ExK w (D + 1) A c e) (j : Nat) (hj : j < e.kids.length) : ∃ ad A' c', A = some ad ∧ (∀ W, Below w.heap.size w W → Kid W (ad.add (j * 8)) e.kids[j].op A' e.kids[j].kids.length c' e.kids[j].name e.kids[j].val) ∧ ExK w D A' c' e.kids[j] := by
  obtain ⟨-, -, -, h4⟩ := h
  obtain ⟨ad, A', c', h5, h6, h7, h8⟩ := h4 j hj
  exact ⟨ad, A', c', h5, fun W hb => h7.below hb (by rw [block_add]; exact h6), h8⟩
theorem tell_any (FA : Option Addr) (FC : Nat) (fs : List Fd) (VA : Option Addr) (VC : Nat) (vs : List Vl) (hfit : fitX fs vs = true) (hvs : ∀ v ∈ vs, okV v) : ∀ (D d : Nat) (e : Ex) (A : Option Addr) (c : Nat) (k : Int) (w : World), ExK w D A c e → FdK w FA FC fs → VlK w VA VC vs → okX d e → deepX d e → chkX d e fs = (k, 0) →
    Calls Tryz.prog 148 #[agR FA fs.length FC VA vs.length VC, agX e.op A e.kids.length c e.name e.val] w (TellP (evX d e fs vs) w)
  | 0, _, _, _, _, _, _, h, _, _, _, _, _ => False.elim h
  | D + 1, 0, _, _, _, _, _, _, _, _, _, h, _ => False.elim h
  | D + 1, d + 1, e, A, c, k, w, hx, hfd, hvl, hok, hdeep, h => by
    obtain ⟨h1, h2⟩ := chkX_ok h
    have hform := (kindX_form h1).1
    have isnd : ∀ x ∈ e.kids, Snd (evX d x fs vs) (chkX d x fs).1 := fun x hx => ev_sound fs vs hfit hvs d x _ (hok.2.2 x hx) (hdeep x hx) (pair_of (h2 x hx))
    have ih : ∀ (x : Ex) (A' : Option Addr) (c' : Nat), x ∈ e.kids → ExK w D A' c' x → ∀ W, Below w.heap.size w W → Calls Tryz.prog 148 #[agR FA fs.length FC VA vs.length VC, agX x.op A' x.kids.length c' x.name x.val] W (TellP (evX d x fs vs) W) :=
      fun x A' c' hm hk W hb => tell_any FA FC fs VA VC vs hfit hvs D d x A' c' _ W (hk.below hb (Nat.le_refl _)) (hfd.below hb (Nat.le_refl _)) (hvl.below hb (Nat.le_refl _)) (hok.2.2 x hm) (hdeep x hm) (pair_of (h2 x hm))
    have hk := kindX_kinds h1
    have hat := fun j hj => kid_at hx j hj
    have hokv := hok.1
    clear h h1 h2 hdeep hok
    rcases hk with ⟨o, g, rfl⟩ | ⟨o, g, rfl⟩ | ⟨o, g, rfl⟩ | ⟨o, g, rfl⟩ | ⟨o, g, rfl⟩ | ⟨o, g1, g2, rfl⟩ | ⟨o, g, rfl⟩ | ⟨o, g, g1, rfl⟩ | ⟨o, g1, g2, rfl⟩ | ⟨o, g, g1, rfl⟩
    · rw [evX, if_pos o, o]
      exact tell_1 FA fs.length FC VA vs.length VC A e.kids.length c e.name e.val w
    · rw [evX, if_neg (by omega), if_pos o, o]
      obtain ⟨j, hj, hl⟩ := findX_at e.name fs 0 g
      rw [Nat.zero_add] at hj
      have hjj : (findX e.name fs 0).toNat = j := by omega
      rw [hjj]
      obtain ⟨v, e1, e2, e3⟩ := fit_at hfit j hl
      obtain ⟨hjv, e4⟩ := List.getElem?_eq_some_iff.1 e1
      obtain ⟨vad, e5, e6, e7⟩ := hvl.2.2.2 j hjv
      subst e5
      rw [e4] at e7
      rw [e1]
      exact tell_2 FA fs.length FC vad vs.length VC A e.kids.length c e.name e.val v w j _ rfl hjv (fun W hb => by rw [← hj]; exact place_any e.name FA FC fs W (hfd.below hb (Nat.le_refl _))) (fun W hb => e7.below hb (by rw [block_add]; exact e6))
    · obtain ⟨a, ha⟩ := kids_one (l := e.kids) (by rw [kidsN_1 (Or.inl o)] at hform; omega)
      rw [evX_one ha (Or.inl o), o]
      simp only [ha] at hat isnd ih g ⊢
      obtain ⟨ad, A0, c0, rfl, q0, x0⟩ := hat 0 (by simp)
      simp only [List.getElem_cons_zero, Nat.zero_mul, Addr.add_zero'] at q0 x0
      have s0 := isnd a (List.mem_cons_self ..)
      exact tell_3 FA fs.length FC VA vs.length VC ad 1 c e.name e.val w A0 _ c0 _ _ _ (evX d a fs vs) q0 (ih a A0 c0 (List.mem_cons_self ..) x0) (fun h0 => (snd_ok s0 h0).2.1) (by omega) (fun h0 W => Neg_any _ W (snd_ok s0 h0).2.1.2.1)
    · obtain ⟨a, ha⟩ := kids_one (l := e.kids) (by rw [kidsN_1 (Or.inr (Or.inr o))] at hform; omega)
      rw [evX_one ha (Or.inr (Or.inl o)), o]
      simp only [ha] at hat isnd ih g ⊢
      obtain ⟨ad, A0, c0, rfl, q0, x0⟩ := hat 0 (by simp)
      simp only [List.getElem_cons_zero, Nat.zero_mul, Addr.add_zero'] at q0 x0
      have s0 := isnd a (List.mem_cons_self ..)
      exact tell_16 FA fs.length FC VA vs.length VC ad 1 c e.name e.val w A0 _ c0 _ _ _ (evX d a fs vs) q0 (ih a A0 c0 (List.mem_cons_self ..) x0) (fun h0 => (snd_ok s0 h0).2.1) (by omega) (fun h0 W => Float_any _ W)
    · obtain ⟨a, ha⟩ := kids_one (l := e.kids) (by rw [kidsN_1 (Or.inr (Or.inl o))] at hform; omega)
      rw [evX_one ha (Or.inr (Or.inr o)), o]
      simp only [ha] at hat isnd ih g ⊢
      obtain ⟨ad, A0, c0, rfl, q0, x0⟩ := hat 0 (by simp)
      simp only [List.getElem_cons_zero, Nat.zero_mul, Addr.add_zero'] at q0 x0
      have s0 := isnd a (List.mem_cons_self ..)
      exact tell_12 FA fs.length FC VA vs.length VC ad 1 c e.name e.val w A0 _ c0 _ _ _ (evX d a fs vs) q0 (ih a A0 c0 (List.mem_cons_self ..) x0) (fun h0 => (snd_ok s0 h0).2.1) (by omega)
    · obtain ⟨a, b, ha⟩ := kids_two (l := e.kids) (by rw [kidsN_2 (by omega)] at hform; omega)
      rw [evX_lazy ha o]
      simp only [ha] at hat isnd ih ⊢
      obtain ⟨ad, A0, c0, rfl, q0, x0⟩ := hat 0 (by simp)
      obtain ⟨ad', A1, c1, hae, q1, x1⟩ := hat 1 (by simp)
      injection hae with hae; subst hae
      simp only [List.getElem_cons_zero, List.getElem_cons_succ, Nat.zero_mul, Nat.one_mul, Addr.add_zero', Addr.add_succ'] at q0 x0 q1 x1
      have s0 := isnd a (List.mem_cons_self ..)
      have s1 := isnd b (by simp)
      rcases o with o | o
      · rw [o]
        exact tell_10 FA fs.length FC VA vs.length VC ad 2 c e.name e.val w A0 _ c0 _ _ _ (evX d a fs vs) q0 (ih a A0 c0 (List.mem_cons_self ..) x0) (fun h0 => (snd_ok s0 h0).2.1) A1 _ c1 _ _ _ (evX d b fs vs) q1 (ih b A1 c1 (by simp) x1) (fun h0 => (snd_ok s1 h0).2.1) (by omega)
      · rw [o]
        exact tell_11 FA fs.length FC VA vs.length VC ad 2 c e.name e.val w A0 _ c0 _ _ _ (evX d a fs vs) q0 (ih a A0 c0 (List.mem_cons_self ..) x0) (fun h0 => (snd_ok s0 h0).2.1) A1 _ c1 _ _ _ (evX d b fs vs) q1 (ih b A1 c1 (by simp) x1) (fun h0 => (snd_ok s1 h0).2.1) (by omega)
    · obtain ⟨a, b, ha⟩ := kids_two (l := e.kids) (by rw [kidsN_2 (by omega)] at hform; omega)
      rw [evX_two ha (by omega)]
      simp only [ha] at hat isnd ih g ⊢
      obtain ⟨ad, A0, c0, rfl, q0, x0⟩ := hat 0 (by simp)
      obtain ⟨ad', A1, c1, hae, q1, x1⟩ := hat 1 (by simp)
      injection hae with hae; subst hae
      simp only [List.getElem_cons_zero, List.getElem_cons_succ, Nat.zero_mul, Nat.one_mul, Addr.add_zero', Addr.add_succ'] at q0 x0 q1 x1
      have s0 := isnd a (List.mem_cons_self ..)
      have s1 := isnd b (by simp)
      simp only [List.map_cons, List.map_nil, List.getD_cons_zero, List.getD_cons_succ] at g
      exact tell_two FA fs.length FC VA vs.length VC ad 2 c e.name e.val w e.op A0 _ c0 _ _ _ (evX d a fs vs) q0 (ih a A0 c0 (List.mem_cons_self ..) x0) (fun h0 => (snd_ok s0 h0).2.1) A1 _ c1 _ _ _ (evX d b fs vs) q1 (ih b A1 c1 (by simp) x1) (fun h0 => (snd_ok s1 h0).2.1) (by omega) (by omega) (by omega) (by omega) (by omega) (by omega) (by omega) (by omega) (by omega)
        (fun h0 h1 W => pair_any e.op _ _ W (snd_ok s0 h0).2.1 (snd_ok s1 h1).2.1 (fun h8 => by unfold eqV; rw [if_pos (alike_of (snd_ok s0 h0).1 (snd_ok s1 h1).1 (by rw [(snd_ok s0 h0).2.2, (snd_ok s1 h1).2.2]; exact g))]) (fun h9 => absurd (o.symm.trans h9) (by decide)))
    · obtain ⟨a, b, ha⟩ := kids_two (l := e.kids) (by rw [kidsN_2 (by omega)] at hform; omega)
      rw [evX_two ha (by omega)]
      simp only [ha] at hat isnd ih g g1 ⊢
      obtain ⟨ad, A0, c0, rfl, q0, x0⟩ := hat 0 (by simp)
      obtain ⟨ad', A1, c1, hae, q1, x1⟩ := hat 1 (by simp)
      injection hae with hae; subst hae
      simp only [List.getElem_cons_zero, List.getElem_cons_succ, Nat.zero_mul, Nat.one_mul, Addr.add_zero', Addr.add_succ'] at q0 x0 q1 x1
      have s0 := isnd a (List.mem_cons_self ..)
      have s1 := isnd b (by simp)
      simp only [List.map_cons, List.map_nil, List.getD_cons_zero, List.getD_cons_succ] at g g1
      exact tell_two FA fs.length FC VA vs.length VC ad 2 c e.name e.val w e.op A0 _ c0 _ _ _ (evX d a fs vs) q0 (ih a A0 c0 (List.mem_cons_self ..) x0) (fun h0 => (snd_ok s0 h0).2.1) A1 _ c1 _ _ _ (evX d b fs vs) q1 (ih b A1 c1 (by simp) x1) (fun h0 => (snd_ok s1 h0).2.1) (by omega) (by omega) (by omega) (by omega) (by omega) (by omega) (by omega) (by omega) (by omega)
        (fun h0 h1 W => pair_any e.op _ _ W (snd_ok s0 h0).2.1 (snd_ok s1 h1).2.1 (fun h8 => absurd (o.symm.trans h8) (by decide)) (fun h9 => by unfold ltV; rw [(alike_of (snd_ok s0 h0).1 (snd_ok s1 h1).1 (by rw [(snd_ok s0 h0).2.2, (snd_ok s1 h1).2.2]; exact g)), show ((evX d a fs vs).1.k == 2) = false from by rw [(snd_ok s0 h0).2.2]; rcases g1 with h | h | h <;> rw [h] <;> rfl]; rfl))
    · obtain ⟨a, b, c', ha⟩ := kids_three (l := e.kids) (by rw [kidsN_3 o] at hform; omega)
      rw [evX_if ha o, o]
      simp only [ha] at hat isnd ih ⊢
      obtain ⟨ad, A0, c0, rfl, q0, x0⟩ := hat 0 (by simp)
      obtain ⟨ad', A1, c1, hae, q1, x1⟩ := hat 1 (by simp)
      injection hae with hae; subst hae
      obtain ⟨ad', A2, c2, hae, q2, x2⟩ := hat 2 (by simp)
      injection hae with hae; subst hae
      simp only [List.getElem_cons_zero, List.getElem_cons_succ, Nat.zero_mul, Nat.one_mul, Addr.add_zero', Addr.add_succ', show (2 * 8 : Nat) = 15 + 1 from rfl] at q0 x0 q1 x1 q2 x2
      have s0 := isnd a (List.mem_cons_self ..)
      have s1 := isnd b (by simp)
      have s2 := isnd c' (by simp)
      exact tell_13 FA fs.length FC VA vs.length VC ad 3 c e.name e.val w A0 _ c0 _ _ _ (evX d a fs vs) q0 (ih a A0 c0 (List.mem_cons_self ..) x0) (fun h0 => (snd_ok s0 h0).2.1) A1 _ c1 _ _ _ (evX d b fs vs) q1 (ih b A1 c1 (by simp) x1) (fun h0 => (snd_ok s1 h0).2.1) A2 _ c2 _ _ _ (evX d c' fs vs) q2 (ih c' A2 c2 (by simp) x2) (fun h0 => (snd_ok s2 h0).2.1) (by omega)
    · have og := o
      obtain ⟨a, b, ha⟩ := kids_two (l := e.kids) (by rw [kidsN_2 (by have := (opsB_iff e.op).1 og; omega)] at hform; omega)
      rw [evX_two ha (by have := (opsB_iff e.op).1 og; omega)]
      simp only [ha] at hat isnd ih g ⊢
      obtain ⟨ad, A0, c0, rfl, q0, x0⟩ := hat 0 (by simp)
      obtain ⟨ad', A1, c1, hae, q1, x1⟩ := hat 1 (by simp)
      injection hae with hae; subst hae
      simp only [List.getElem_cons_zero, List.getElem_cons_succ, Nat.zero_mul, Nat.one_mul, Addr.add_zero', Addr.add_succ'] at q0 x0 q1 x1
      have s0 := isnd a (List.mem_cons_self ..)
      have s1 := isnd b (by simp)
      simp only [List.map_cons, List.map_nil, List.getD_cons_zero, List.getD_cons_succ] at g
      exact tell_two FA fs.length FC VA vs.length VC ad 2 c e.name e.val w e.op A0 _ c0 _ _ _ (evX d a fs vs) q0 (ih a A0 c0 (List.mem_cons_self ..) x0) (fun h0 => (snd_ok s0 h0).2.1) A1 _ c1 _ _ _ (evX d b fs vs) q1 (ih b A1 c1 (by simp) x1) (fun h0 => (snd_ok s1 h0).2.1) (by omega) (by have := (opsB_iff e.op).1 og; omega) (by have := (opsB_iff e.op).1 og; omega) (by have := (opsB_iff e.op).1 og; omega) (by have := (opsB_iff e.op).1 og; omega) (by have := (opsB_iff e.op).1 og; omega) (by have := (opsB_iff e.op).1 og; omega) (by have := (opsB_iff e.op).1 og; omega) (by have := (opsB_iff e.op).1 og; omega)
        (fun h0 h1 W => pair_any e.op _ _ W (snd_ok s0 h0).2.1 (snd_ok s1 h1).2.1 (fun h8 => absurd ((opsB_iff e.op).1 og) (by omega)) (fun h9 => absurd ((opsB_iff e.op).1 og) (by omega)))
end Go.Proofs.YtkhpgejammgolaaGreat

/- Layer 5: reckoning, and where it gives up, by the program. -/
namespace Go.Proofs.YtkhpgejammgolaaGreat
open Go.RowKit
set_option linter.unusedVariables false
set_option linter.unusedSimpArgs false
set_option maxRecDepth 20000

/-- 4's float that is answered for whatever NaN -/
def setV (v : Vl) : Vl := if v.k = 4 then (reckV 14 v v).1 else v
theorem reck_self {v : Vl} (h : goodV v = true) (h4 : v.k = 4) : reckV 14 v v = (vNum (numsV 14 v.n v.n), 0) := by
  unfold reckV
  rw [if_pos (show opsB 14 = true from rfl), if_pos (alike_of h h rfl), if_neg (by omega), if_pos h4]
set_option maxHeartbeats 1000000 in
theorem settled_any (v : Vl) (w : World) (hg : goodV v = true) (hok : okV v) : Calls Tryz.prog 147 #[agV v] w (VMk (agV (setV v)) w) := by
  have hsf := fun (w : World) (a : Addr) (m : Mode) (b : Nat) => run_store Tryz.prog w a (.float .f64 b) m rfl
  by_cases h4 : v.k = 4
  · have hr : ∀ W, Calls Tryz.prog 186 #[.int .i64 14, agV v, agV v] W (VMk (pairVE (setV v) 0) W) := fun W => by
      have := Reckon_any 14 v v W hok.2.1 hok.2.1 hok.2.2 hok.2.2
      unfold setV
      rw [if_pos h4]
      rw [reck_self hg h4] at this ⊢
      exact this
    generalize setV v = r at hr ⊢
    have HR := Lib.hid hr
    have hk : (v.k != 4) = false := by simpa using h4
    clear hr h4
    go_enter Tryz.func147, Tryz.ntmps147
    go_wp2_with (first
      | (go_at_call 186; refine (HR.out _).mono ?_; rintro e w1 ⟨rfl, hb1⟩; obtain ⟨hc1, hf1⟩ := bcell hb1; have hz1 : w.heap.size + 1 < w1.heap.size := by { have := hb1.size; simp at this; omega })
      | (go_at_call 185; refine (sure_ok _ _).mono ?_; rintro e w3 ⟨rfl, hb3⟩; obtain ⟨hc3, hf3⟩ := bcell hb3; have hy2 : w.heap.size + 1 < w3.heap.size := by { have := hb3.size; omega }))
    exact bodyPost_ret (v := agV r) (by simp [results, Tryz.results147, go_sem, hc1, hc3, hz1, hy2]) rfl ⟨rfl, vbox2_set w _ _ hb1 hb3 _ _ _ _ _⟩
  · have hr : setV v = v := by unfold setV; rw [if_neg h4]
    rw [hr]
    have hk : (v.k != 4) = true := by simpa using h4
    clear hr h4
    go_enter Tryz.func147, Tryz.ntmps147
    go_wp2
    exact bodyPost_ret (v := agV v) (by simp [results, Tryz.results147, go_sem]) rfl ⟨rfl, vbox2 w _ _⟩

/-- the cells of the two answers -/
def Two7 (w : World) (b : Nat) : Prop := (∃ cs, w.heap[b]? = some (.cells cs 25 (0, 0)) ∧ cs.size = 5) ∧ ∃ x, w.heap[b + 1]? = some (.cells #[x] 33 (0, 0))
theorem Two7.open {w : World} {b : Nat} (h : Two7 w b) : ∃ u0 u1 u2 u3 u4 u5, w.cell? ⟨b, 0, none⟩ = some u0 ∧ w.cell? ⟨b, 1, none⟩ = some u1 ∧ w.cell? ⟨b, 2, none⟩ = some u2 ∧ w.cell? ⟨b, 3, none⟩ = some u3 ∧ w.cell? ⟨b, 4, none⟩ = some u4 ∧ w.cell? ⟨b + 1, 0, none⟩ = some u5 ∧ (∀ j, w.frozen? ⟨b, j, none⟩ = false) ∧ (∀ j, w.frozen? ⟨b + 1, j, none⟩ = false) := by
  obtain ⟨⟨cs, h1, h2⟩, x, h3⟩ := h
  have hat : ∀ (j : Nat) (hj : j < 5), w.cell? ⟨b, j, none⟩ = some (cs[j]'(by omega)) := fun j hj => by
    have := cell_of_row w b j _ _ (0, 0) h1
    rw [this, Array.getElem?_eq_getElem (by omega)]
  exact ⟨_, _, _, _, _, _, hat 0 (by omega), hat 1 (by omega), hat 2 (by omega), hat 3 (by omega), hat 4 (by omega), (cell_of_row w (b + 1) 0 _ _ (0, 0) h3).trans rfl, fun j => by unfold World.frozen?; simp only [h1]; simp, fun j => by unfold World.frozen?; simp only [h3]; simp⟩
theorem set5_off (W : World) (g b o : Nat) (hne : b ≠ g) (u0 u1 u2 u3 u4 : Value) : (((((W.setCell ⟨g, 0, none⟩ u0).setCell ⟨g, 1, none⟩ u1).setCell ⟨g, 2, none⟩ u2).setCell ⟨g, 3, none⟩ u3).setCell ⟨g, 4, none⟩ u4).cell? ⟨b, o, none⟩ = W.cell? ⟨b, o, none⟩ := by
  have hk : ∀ (W : World) (o j : Nat) (u : Value), (W.setCell ⟨g, j, none⟩ u).cell? ⟨b, o, none⟩ = W.cell? ⟨b, o, none⟩ := fun W o j u => World.cell?_setCell_other W (a := ⟨g, j, none⟩) (b := ⟨b, o, none⟩) (v := u) (by intro e; injection e with e _ _; exact hne e.symm)
  simp only [hk]
theorem one_off {W : World} {b : Nat} {r : Vl} (h : Bx W b r) (g : Nat) (hne : b ≠ g) (u : Value) : Bx (W.setCell ⟨g, 0, none⟩ u) b r := by
  have hk : ∀ (o : Nat), (W.setCell ⟨g, 0, none⟩ u).cell? ⟨b, o, none⟩ = W.cell? ⟨b, o, none⟩ := fun o => World.cell?_setCell_other W (a := ⟨g, 0, none⟩) (b := ⟨b, o, none⟩) (v := u) (by intro e; injection e with e _ _; exact hne e.symm)
  unfold Bx
  simp only [hk]
  exact h
theorem Bx.drewn {W : World} {b : Nat} {r : Vl} (h : Bx W b r) : Bx W.drew b r := h
theorem cell_drewn {W : World} {a : Addr} {x : Value} (h : W.cell? a = some x) : W.drew.cell? a = some x := h
set_option maxHeartbeats 400000 in
theorem catch_panicking (b : Nat) (err : Int) (older : List PanicEntry) (w : World) (h : Two7 w b) :
    CallsD Tryz.prog 146 #[.pointer (some ⟨b, 0, none⟩), .pointer (some ⟨b + 1, 0, none⟩)] (.panicking ({ v := .iface 33 (.int .i64 err), recovered := false } :: older)) w fun e u' w' =>
      e = .returned (.tuple #[]) ∧ u' = .panicking ({ v := .iface 33 (.int .i64 err), recovered := true } :: older) ∧ Below b w w' ∧ Bx w' b vZero ∧ w'.cell? ⟨b + 1, 0, none⟩ = some (.int .i64 err) := by
  obtain ⟨u0, u1, u2, u3, u4, u5, c0, c1, c2, c3, c4, c5, f0, f1⟩ := h.open
  have hsf := fun (w : World) (a : Addr) (m : Mode) (b : Nat) => run_store Tryz.prog w a (.float .f64 b) m rfl
  refine callsD_of_wpS Tryz.func146 rfl fun c₀ cs hu => ?_
  apply wpS_seq
  apply wpS_region
  simp [wpOpsS, go_sem, recoverD, hu, Tryz.ntmps146, Exit.thenS]
  refine wpS_of_wp ?_
  go_wp2
  have hta : ∀ w : World, (Instr.typeAssert (.iface 33 (.int .i64 err)) 20 33 false).run Tryz.prog w = .ok (.int .i64 err) w := fun w => by kernel_rfl
  clear hu
  change Code.wp _ _ _ { tmps := #[.pointer (some ⟨b, 0, none⟩), .pointer (some ⟨b + 1, 0, none⟩), .iface 33 (.int .i64 err), .iface 33 (.int .i64 err), .iface 33 (.int .i64 err), .bool true, undef, undef, undef], defers := [] } w
  have hS1 : Below b w w.drew := (Below.refl _ _).drew
  refine wp_region_held_drew (S := (fun W => Below b w W)) (by kernel_rfl) (hS1) (fun hHeld => ?_)
  refine wpAnyH_take (i := 0) (oi := ?oi1) (v := ?v1) ?hi1 (by kernel_rfl) (by kernel_rfl) (by kernel_rfl) ?hQ1 (Or.inl ⟨?hw1, ?hy1⟩) (by assumption) ?rest1
  case hi1 => (simp only [gA, gB, gC]; rfl)
  case hQ1 => exact fun _ _ _ h => h
  case hw1 => rfl
  case hy1 => (intro w hSw; (try dsimp only at hSw); go_simp; try with_reducible rfl)
  (try simp only [Act.put, sA, sB, sC])
  refine wpAnyH_take (i := 1) (oi := ?oi2) (v := ?v2) ?hi2 (by kernel_rfl) (by kernel_rfl) (by kernel_rfl) ?hQ2 (Or.inl ⟨?hw2, ?hy2⟩) (by assumption) ?rest2
  case hi2 => (simp only [gA, gB, gC]; rfl)
  case hQ2 => exact fun _ _ _ h => h
  case hw2 => rfl
  case hy2 => (intro w hSw; (try dsimp only at hSw); go_simp; try with_reducible rfl)
  (try simp only [Act.put, sA, sB, sC])
  refine wpAnyH_take (i := 2) (oi := ?oi3) (v := ?v3) ?hi3 (by kernel_rfl) (by kernel_rfl) (by kernel_rfl) ?hQ3 (Or.inl ⟨?hw3, ?hy3⟩) (by assumption) ?rest3
  case hi3 => (simp only [gA, gB, gC]; rfl)
  case hQ3 => exact fun _ _ _ h => h
  case hw3 => rfl
  case hy3 => (intro w hSw; (try dsimp only at hSw); go_simp; try with_reducible rfl)
  (try simp only [Act.put, sA, sB, sC])
  refine wpAnyH_ready (rs := [3]) (by kernel_rfl) (by simp) ?_
  refine AllReadyH.cons (o := ?o4) ?ho4 (fun K hK => ?st4) AllReadyH.nil
  case ho4 => (simp only [gA, gB, gC]; rfl)
  go_simp
  refine hK.out _ _ ?_ (fun hHeld => ?_)
  · (try dsimp only); exact Below.drew (below_set5 (Below.refl _ _) (Nat.le_refl _) _ _ _ _ _)
  clear hK K
  (try simp only [Act.put, sA, sB, sC])
  refine wpAnyH_ready (rs := [4]) (by kernel_rfl) (by simp) ?_
  refine AllReadyH.cons (o := ?o5) ?ho5 (fun K hK => ?st5) AllReadyH.nil
  case ho5 => (simp only [gA, gB, gC]; rfl)
  go_simp
  refine hK.out _ _ ?_ (fun hHeld => ?_)
  · (try dsimp only); exact Below.drew (Below.setCell (below_set5 (Below.refl _ _) (Nat.le_refl _) _ _ _ _ _) (p := ⟨b + 1, 0, none⟩) (Nat.le_succ b) _)
  clear hK K
  (try simp only [Act.put, sA, sB, sC])
  refine wpAnyH_done (by kernel_rfl) ?_ _
  have hfin1 : Bx (((((w.setCell ⟨b, 0, none⟩ (.int .i64 0)).setCell ⟨b, 1, none⟩ (.int .i64 0)).setCell ⟨b, 2, none⟩ (.bool false)).setCell ⟨b, 3, none⟩ (.string { data := #[] })).setCell ⟨b, 4, none⟩ (.float .f64 0)) b vZero := bx_set (r := vZero) c0 c1 c2 c3 c4
  have hfin2 : (((((w.setCell ⟨b, 0, none⟩ (.int .i64 0)).setCell ⟨b, 1, none⟩ (.int .i64 0)).setCell ⟨b, 2, none⟩ (.bool false)).setCell ⟨b, 3, none⟩ (.string { data := #[] })).setCell ⟨b, 4, none⟩ (.float .f64 0)).cell? ⟨b + 1, 0, none⟩ = some u5 := (set5_off w b (b + 1) 0 (by omega) _ _ _ _ _).trans c5
  have hfin3 := one_off hfin1 (b + 1) (by omega) (.int .i64 err)
  have hfin4 := World.cell?_setCell_same _ ⟨b + 1, 0, none⟩ (.int .i64 err) hfin2
  show bodyPostS _ _ _ _ _ _ _ _ _
  cases c₀
  simp only [bodyPostS]
  exact ⟨trivial, _, rfl, _, by simp [results, Tryz.results146, go_sem], rfl, rfl, hHeld, hfin3.drewn, cell_drewn hfin4⟩
theorem catch_idle (b : Nat) (w : World) :
    CallsD Tryz.prog 146 #[.pointer (some ⟨b, 0, none⟩), .pointer (some ⟨b + 1, 0, none⟩)] .returning w fun e u' w' => e = .returned (.tuple #[]) ∧ u' = .returning ∧ w' = w := by
  refine callsD_of_wpS Tryz.func146 rfl fun c₀ cs hu => ?_
  apply wpS_seq
  apply wpS_region
  simp [wpOpsS, go_sem, recoverD, hu, Tryz.ntmps146, Exit.thenS]
  refine wpS_of_wp ?_
  go_wp2
  cases c₀
  simp_all [bodyPostS, results, Tryz.results146]
end Go.Proofs.YtkhpgejammgolaaGreat

/- Layer 5: Eval, by the program. -/
namespace Go.Proofs.YtkhpgejammgolaaGreat
open Go.RowKit
set_option linter.unusedVariables false
set_option linter.unusedSimpArgs false
set_option maxRecDepth 20000

/-- what an answer comes to where reckoning ends -/
def endV (r : Vl × Int) : Vl × Int := if r.2 = 0 then (setV r.1, 0) else (vZero, r.2)
theorem box4 (w : World) (o p q s : Obj) : Below w.heap.size w ((((w.alloc o).alloc p).alloc q).alloc s) := (vbox3 w o p q).alloc (by simp; omega) s
theorem two7_new (w : World) (o p : Obj) : Two7 ((((w.alloc o).alloc p).alloc (.cells #[.int .i64 0, .int .i64 0, .bool false, .string { data := #[] }, .float .f64 0] 25)).alloc (.cells #[.int .i64 0] 33)) (w.heap.size + 1 + 1) := by
  have h1 := heap_alloc_new ((w.alloc o).alloc p) (.cells #[.int .i64 0, .int .i64 0, .bool false, .string { data := #[] }, .float .f64 0] 25)
  have h2 := heap_alloc_new (((w.alloc o).alloc p).alloc (.cells #[.int .i64 0, .int .i64 0, .bool false, .string { data := #[] }, .float .f64 0] 25)) (.cells #[.int .i64 0] 33)
  have e1 : ((w.alloc o).alloc p).heap.size = w.heap.size + 1 + 1 := by simp
  have e2 : (((w.alloc o).alloc p).alloc (.cells #[.int .i64 0, .int .i64 0, .bool false, .string { data := #[] }, .float .f64 0] 25)).heap.size = w.heap.size + 1 + 1 + 1 := by simp
  rw [e1] at h1
  rw [e2] at h2
  exact ⟨⟨_, (Below.heap_alloc _ _ _ (by rw [e2]; omega)).trans h1, rfl⟩, _, h2⟩
theorem Two7.below {w w' : World} {b : Nat} (h : Two7 w b) (hb : Below w.heap.size w w') : Two7 w' b := by
  obtain ⟨⟨cs, h1, h2⟩, x, h3⟩ := h
  exact ⟨⟨cs, (hb.block b (Array.getElem?_eq_some_iff.1 h1).1).trans h1, h2⟩, x, (hb.block _ (Array.getElem?_eq_some_iff.1 h3).1).trans h3⟩
set_option maxHeartbeats 1000000 in
theorem reckon_good (FA : Option Addr) (fn FC : Nat) (VA : Option Addr) (vn VC : Nat) (op : Int) (A : Option Addr) (n c : Nat) (nm : ByteArray) (v : Vl) (w : World) (r : Vl) (hg : goodV r = true) (hok : okV r)
    (ht : ∀ W, Below w.heap.size w W → Calls Tryz.prog 148 #[agR FA fn FC VA vn VC, agX op A n c nm v] W (VMk (agV r) W)) :
    Calls Tryz.prog 89 #[agR FA fn FC VA vn VC, agX op A n c nm v] w (VMk (pairVE (setV r) 0) w) := by
  have hmf : ∀ (fn : Fn) (first cap : Array Value) (w : World), (Instr.makeFunc fn first cap).run Tryz.prog w = .ok (.func fn first cap) w := fun _ _ _ _ => rfl
  have hsf := fun (w : World) (a : Addr) (m : Mode) (b : Nat) => run_store Tryz.prog w a (.float .f64 b) m rfl
  have hse := fun W => settled_any r W hg hok
  generalize setV r = s at hse ⊢
  have HT := Lib.hid ht
  have HS := Lib.hid hse
  clear ht hse hok hg
  have h27 := two7_new w (.cells #[.slice FA fn FC, .slice VA vn VC] 126) (bxX op A n c nm v)
  have H27 := Lib.hid h27
  clear h27
  go_enter_defers Tryz.func89, Tryz.ntmps89
  go_wp2_with (first
    | (go_at_call 148; refine (HT.out _ (box4 w _ _ _ _)).mono ?_; rintro e w1 ⟨rfl, hb1⟩; have h271 := H27.out.below hb1; have H271 := Lib.hid h271; clear h271)
    | (go_at_call 147; refine (HS.out _).mono ?_; rintro e w2 ⟨rfl, hb2⟩; have h272 := H271.out.below hb2; obtain ⟨u0, u1, u2, u3, u4, u5, c0, c1, c2, c3, c4, c5, f0, f1⟩ := h272.open))
  have hfin1 : Bx (((((w2.setCell ⟨w.heap.size + 1 + 1, 0, none⟩ (.int .i64 s.k)).setCell ⟨w.heap.size + 1 + 1, 1, none⟩ (.int .i64 s.i)).setCell ⟨w.heap.size + 1 + 1, 2, none⟩ (.bool s.b)).setCell ⟨w.heap.size + 1 + 1, 3, none⟩ (.string s.s)).setCell ⟨w.heap.size + 1 + 1, 4, none⟩ (.float .f64 s.n)) (w.heap.size + 1 + 1) s := bx_set (r := s) c0 c1 c2 c3 c4
  have hfin2 : (((((w2.setCell ⟨w.heap.size + 1 + 1, 0, none⟩ (.int .i64 s.k)).setCell ⟨w.heap.size + 1 + 1, 1, none⟩ (.int .i64 s.i)).setCell ⟨w.heap.size + 1 + 1, 2, none⟩ (.bool s.b)).setCell ⟨w.heap.size + 1 + 1, 3, none⟩ (.string s.s)).setCell ⟨w.heap.size + 1 + 1, 4, none⟩ (.float .f64 s.n)).cell? ⟨w.heap.size + 1 + 1 + 1, 0, none⟩ = some u5 := (set5_off w2 _ _ 0 (by omega) _ _ _ _ _).trans c5
  have hfin3 := one_off hfin1 (w.heap.size + 1 + 1 + 1) (by omega) (.int .i64 0)
  have hfin4 := World.cell?_setCell_same _ ⟨w.heap.size + 1 + 1 + 1, 0, none⟩ (.int .i64 0) hfin2
  have hbel : Below w.heap.size w ((((((w2.setCell ⟨w.heap.size + 1 + 1, 0, none⟩ (.int .i64 s.k)).setCell ⟨w.heap.size + 1 + 1, 1, none⟩ (.int .i64 s.i)).setCell ⟨w.heap.size + 1 + 1, 2, none⟩ (.bool s.b)).setCell ⟨w.heap.size + 1 + 1, 3, none⟩ (.string s.s)).setCell ⟨w.heap.size + 1 + 1, 4, none⟩ (.float .f64 s.n)).setCell ⟨w.heap.size + 1 + 1 + 1, 0, none⟩ (.int .i64 0)) := Below.setCell (below_set5 ((box4 w _ _ _ _).trans ((hb1.mono (by simp; omega)).trans (hb2.mono (by have := hb1.size; simp at this; omega)))) (by omega) _ _ _ _ _) (p := ⟨w.heap.size + 1 + 1 + 1, 0, none⟩) (by show w.heap.size ≤ w.heap.size + 1 + 1 + 1; omega) _
  generalize ((((((w2.setCell ⟨w.heap.size + 1 + 1, 0, none⟩ (.int .i64 s.k)).setCell ⟨w.heap.size + 1 + 1, 1, none⟩ (.int .i64 s.i)).setCell ⟨w.heap.size + 1 + 1, 2, none⟩ (.bool s.b)).setCell ⟨w.heap.size + 1 + 1, 3, none⟩ (.string s.s)).setCell ⟨w.heap.size + 1 + 1, 4, none⟩ (.float .f64 s.n)).setCell ⟨w.heap.size + 1 + 1 + 1, 0, none⟩ (.int .i64 0)) = wf at *
  clear hfin1 hfin2
  obtain ⟨z0, z1, z2, z3, z4⟩ := hfin3
  clear hb1 hb2 c0 c1 c2 c3 c4 c5 f0 f1 h272 H271
  refine leaves_cons (f := 146) (args := #[.pointer (some ⟨w.heap.size + 1 + 1, 0, none⟩), .pointer (some ⟨w.heap.size + 1 + 1 + 1, 0, none⟩)]) (by simp) (by simp [go_sem]) ?_
  refine (catch_idle (w.heap.size + 1 + 1) _).mono ?_
  rintro e u' w'' ⟨rfl, rfl, rfl⟩
  simp [Leaves, settle, results, Tryz.results89, go_sem, z0, z1, z2, z3, z4, hfin4]
  exact ⟨rfl, hbel⟩
set_option maxHeartbeats 1000000 in
theorem reckon_bad (FA : Option Addr) (fn FC : Nat) (VA : Option Addr) (vn VC : Nat) (op : Int) (A : Option Addr) (n c : Nat) (nm : ByteArray) (v : Vl) (w : World) (err : Int)
    (ht : ∀ W, Below w.heap.size w W → Calls Tryz.prog 148 #[agR FA fn FC VA vn VC, agX op A n c nm v] W (fun e w' => e = .panicked (PV err) ∧ Below W.heap.size W w')) :
    Calls Tryz.prog 89 #[agR FA fn FC VA vn VC, agX op A n c nm v] w (VMk (pairVE vZero err) w) := by
  have hmf : ∀ (fn : Fn) (first cap : Array Value) (w : World), (Instr.makeFunc fn first cap).run Tryz.prog w = .ok (.func fn first cap) w := fun _ _ _ _ => rfl
  have HT := Lib.hid ht
  clear ht
  have h27 := two7_new w (.cells #[.slice FA fn FC, .slice VA vn VC] 126) (bxX op A n c nm v)
  have H27 := Lib.hid h27
  clear h27
  go_enter_defers Tryz.func89, Tryz.ntmps89
  go_wp2_with (go_at_call 148; refine (HT.out _ (box4 w _ _ _ _)).mono ?_; rintro e w1 ⟨rfl, hb1⟩; have h271 := H27.out.below hb1; have H271 := Lib.hid h271; clear h271)
  have hbw : Below w.heap.size w w1 := (box4 w _ _ _ _).trans (hb1.mono (by simp; omega))
  clear hb1
  refine leaves_cons (f := 146) (args := #[.pointer (some ⟨w.heap.size + 1 + 1, 0, none⟩), .pointer (some ⟨w.heap.size + 1 + 1 + 1, 0, none⟩)]) (by simp) (by simp [go_sem]) ?_
  refine (catch_panicking (w.heap.size + 1 + 1) err [] _ H271.out).mono ?_
  rintro e u' w'' ⟨rfl, rfl, hb2, ⟨z0, z1, z2, z3, z4⟩, z5⟩
  simp [Leaves, settle, results, Tryz.results89, go_sem, z0, z1, z2, z3, z4, z5]
  exact ⟨rfl, hbw.trans (hb2.mono (by omega))⟩
theorem reckon_any (FA : Option Addr) (fn FC : Nat) (VA : Option Addr) (vn VC : Nat) (op : Int) (A : Option Addr) (n c : Nat) (nm : ByteArray) (v : Vl) (w : World) (r : Vl × Int) (hr : r.2 = 0 → goodV r.1 = true ∧ okV r.1)
    (ht : ∀ W, Below w.heap.size w W → Calls Tryz.prog 148 #[agR FA fn FC VA vn VC, agX op A n c nm v] W (TellP r W)) :
    Calls Tryz.prog 89 #[agR FA fn FC VA vn VC, agX op A n c nm v] w (VMk (pairVE (endV r).1 (endV r).2) w) := by
  by_cases h0 : r.2 = 0
  · have he : endV r = (setV r.1, 0) := by unfold endV; rw [if_pos h0]
    rw [he]
    exact reckon_good FA fn FC VA vn VC op A n c nm v w r.1 (hr h0).1 (hr h0).2 (fun W hb => (ht W hb).mono fun e w' h => ⟨h.1.trans (if_pos h0), h.2⟩)
  · have he : endV r = (vZero, r.2) := by unfold endV; rw [if_neg h0]
    rw [he]
    exact reckon_bad FA fn FC VA vn VC op A n c nm v w r.2 (fun W hb => (ht W hb).mono fun e w' h => ⟨h.1.trans (if_neg h0), h.2⟩)
end Go.Proofs.YtkhpgejammgolaaGreat

/- Layer 5: do values fit fields, by the program and by the document. (Made by gen/genfit.py.) -/
namespace Go.Proofs.YtkhpgejammgolaaGreat
open Go.RowKit
set_option linter.unusedVariables false
set_option linter.unusedSimpArgs false
set_option maxRecDepth 20000

def fitB (f : Fd) (v : Vl) : Bool := goodV v && (v.k == f.kind)
theorem fit_all (fs : List Fd) (vs : List Vl) (h : fs.length = vs.length) (ha : ∀ (j : Nat) (hj : j < fs.length) (hj' : j < vs.length), fitB fs[j] vs[j] = true) : fitX fs vs = true := by
  unfold fitX
  rw [Bool.and_eq_true, List.all_eq_true]
  refine ⟨by simpa using h, fun p hp => ?_⟩
  obtain ⟨j, hj, e⟩ := List.getElem_of_mem hp
  rw [List.length_zip] at hj
  have := ha j (by omega) (by omega)
  rw [← e, List.getElem_zip]
  exact this
theorem fit_len (fs : List Fd) (vs : List Vl) (h : fs.length ≠ vs.length) : fitX fs vs = false := by
  unfold fitX
  rw [show (fs.length == vs.length) = false by simpa using h]; rfl
theorem fit_no (fs : List Fd) (vs : List Vl) (j : Nat) (hj : j < fs.length) (hj' : j < vs.length) (ha : fitB fs[j] vs[j] = false) : fitX fs vs = false := by
  unfold fitX
  rw [Bool.and_eq_false_iff]
  refine .inr ?_
  rw [← Bool.not_eq_true, List.all_eq_true]
  intro h
  have := h (fs[j], vs[j]) (by rw [List.mem_iff_getElem]; exact ⟨j, by rw [List.length_zip]; omega, List.getElem_zip⟩)
  unfold fitB at ha
  rw [ha] at this
  cases this
set_option maxHeartbeats 2000000 in
theorem fit_prog (FA : Option Addr) (FC : Nat) (fs : List Fd) (VA : Option Addr) (VC : Nat) (vs : List Vl) (w : World) (hf : FdK w FA FC fs) (hv : VlK w VA VC vs) :
    Calls Tryz.prog 88 #[.slice VA vs.length VC, .slice FA fs.length FC] w (VMk (.bool (fitX fs vs)) w) := by
  obtain ⟨f1, f2, f3, f4⟩ := hf
  obtain ⟨v1, v2, v3, v4⟩ := hv
  unfold maxLen at f2 v2
  have hfl : fs.length ≤ 9223372036854775807 := by omega
  have hvl : vs.length ≤ 9223372036854775807 := by omega
  have F4 := Lib.hid f4
  have V4 := Lib.hid v4
  clear f1 f2 f3 f4 v1 v2 v3 v4
  have hsf := fun (w : World) (a : Addr) (m : Mode) (b : Nat) => run_store Tryz.prog w a (.float .f64 b) m rfl
  by_cases hl : fs.length = vs.length
  · have hne : ((vs.length : Int) != (fs.length : Int)) = false := by simp [hl]
    have HALLF := Lib.hid (fit_all fs vs hl)
    have HNOF := Lib.hid (fit_no fs vs)
    have HL := Lib.hid hl
    clear hl
    go_enter Tryz.func88, Tryz.ntmps88
    go_wp2
    go_loopw [14] (fun i wr => ∃ k : Nat, k ≤ vs.length ∧ i = .int .i64 k ∧ (∀ (j : Nat) (hj : j < fs.length) (hj' : j < vs.length), j < k → fitB fs[j] vs[j] = true) ∧ Below w.heap.size w wr) (fun i _ => vs.length - (intOf i).toNat)
    case atStart => exact ⟨0, Nat.zero_le _, rfl, fun j hj hj' h => absurd h (Nat.not_lt_zero _), Below.refl _ _⟩
    case round =>
      obtain ⟨k, hk, rfl, hall, hb⟩ := hrel
      by_cases hlt : k < vs.length
      · have hlf : k < fs.length := by rw [HL.out]; exact hlt
        have hltF : (k : Int) < (fs.length : Int) := by omega
        have hltV : (k : Int) < (vs.length : Int) := by omega
        have hi0 : (0 : Int) ≤ (k : Int) := by omega
        obtain ⟨fad, A', n', c', y, rfl, hbl, hq⟩ := F4.out k hlf
        obtain ⟨vad, rfl, hbl2, hq2⟩ := V4.out k hlt
        have hqf := fun W (h : Below w.heap.size w W) => (hq.below h (by rw [block_add]; exact hbl)).2.1
        have hqv := fun W (h : Below w.heap.size w W) => hq2.below h (by rw [block_add]; exact hbl2)
        have hall2 : fitB fs[k] vs[k] = true → ∀ (j : Nat) (hj : j < fs.length) (hj' : j < vs.length), j < k + 1 → fitB fs[j] vs[j] = true := fun h j hj hj' hjk => by
          by_cases e : j < k
          · exact hall j hj hj' e
          · obtain rfl : j = k := by omega
            exact h
        have hno : fitB fs[k] vs[k] = false → fitX fs vs = false := HNOF.out k hlf hlt
        unfold fitB at hall2 hno
        have hg := Good_val vs[k]
        clear hall hq hq2
        generalize fs[k].kind = fk at *
        generalize vs[k] = vv at *
        have HQF := Lib.hid hqf
        have HQV := Lib.hid hqv
        generalize goodV vv = gv at hg hall2 hno
        have HG := Lib.hid hg
        clear hg hqf hqv
        obtain ⟨q0, q1, q2, q3, q4⟩ := HQV.out _ hb
        have hbox := Bx.new wr vv
        have HK := Lib.hid (fun (W W' : World) (h : Below w.heap.size w W ∧ W.cell? ⟨(fad.add (k * 8)).block, (fad.add (k * 8)).off + 1, none⟩ = some (.int .i64 fk) ∧ W.cell? ⟨wr.heap.size, 0, none⟩ = some (.int .i64 vv.k) ∧ W.cell? ⟨wr.heap.size, 1, none⟩ = some (.int .i64 vv.i) ∧ W.cell? ⟨wr.heap.size, 2, none⟩ = some (.bool vv.b) ∧ W.cell? ⟨wr.heap.size, 3, none⟩ = some (.string vv.s) ∧ W.cell? ⟨wr.heap.size, 4, none⟩ = some (.float .f64 vv.n)) (hb : Below W.heap.size W W') => (show Below w.heap.size w W' ∧ W'.cell? ⟨(fad.add (k * 8)).block, (fad.add (k * 8)).off + 1, none⟩ = some (.int .i64 fk) ∧ W'.cell? ⟨wr.heap.size, 0, none⟩ = some (.int .i64 vv.k) ∧ W'.cell? ⟨wr.heap.size, 1, none⟩ = some (.int .i64 vv.i) ∧ W'.cell? ⟨wr.heap.size, 2, none⟩ = some (.bool vv.b) ∧ W'.cell? ⟨wr.heap.size, 3, none⟩ = some (.string vv.s) ∧ W'.cell? ⟨wr.heap.size, 4, none⟩ = some (.float .f64 vv.n) from ⟨h.1.trans (hb.mono h.1.size), HQF.out _ (h.1.trans (hb.mono h.1.size)), (show Bx W wr.heap.size vv from h.2.2).below hb⟩))
        have hS1 : (fun W => Below w.heap.size w W ∧ W.cell? ⟨(fad.add (k * 8)).block, (fad.add (k * 8)).off + 1, none⟩ = some (.int .i64 fk) ∧ W.cell? ⟨wr.heap.size, 0, none⟩ = some (.int .i64 vv.k) ∧ W.cell? ⟨wr.heap.size, 1, none⟩ = some (.int .i64 vv.i) ∧ W.cell? ⟨wr.heap.size, 2, none⟩ = some (.bool vv.b) ∧ W.cell? ⟨wr.heap.size, 3, none⟩ = some (.string vv.s) ∧ W.cell? ⟨wr.heap.size, 4, none⟩ = some (.float .f64 vv.n)) (wr.alloc (.cells #[.int .i64 vv.k, .int .i64 vv.i, .bool vv.b, .string vv.s, .float .f64 vv.n] 25)).drew := ⟨(hb.alloc hb.size _).drew, HQF.out _ (hb.alloc hb.size _).drew, hbox⟩
        clear hbox
        rcases gv with _ | _
        · have HNO := Lib.hid (hno (by rfl))
          clear hall2 hno
          go_wp2_with fail
          refine wp_region_held_drew (S := (fun W => Below w.heap.size w W ∧ W.cell? ⟨(fad.add (k * 8)).block, (fad.add (k * 8)).off + 1, none⟩ = some (.int .i64 fk) ∧ W.cell? ⟨wr.heap.size, 0, none⟩ = some (.int .i64 vv.k) ∧ W.cell? ⟨wr.heap.size, 1, none⟩ = some (.int .i64 vv.i) ∧ W.cell? ⟨wr.heap.size, 2, none⟩ = some (.bool vv.b) ∧ W.cell? ⟨wr.heap.size, 3, none⟩ = some (.string vv.s) ∧ W.cell? ⟨wr.heap.size, 4, none⟩ = some (.float .f64 vv.n))) (by kernel_rfl) (hS1) (fun hHeld => ?_)
          refine wpAnyH_take (i := 0) (oi := ?oi1) (v := ?v1) ?hi1 (by kernel_rfl) (by kernel_rfl) (by kernel_rfl) ?hQ1 (Or.inl ⟨?hw1, ?hy1⟩) (by assumption) ?rest1
          case hi1 => (simp only [gA, gB, gC]; rfl)
          case hQ1 => exact fun _ _ _ h => h
          case hw1 => rfl
          case hy1 => (intro w hSw; (try dsimp only at hSw); go_simp; try with_reducible rfl)
          (try simp only [Act.put, sA, sB, sC])
          refine wpAnyH_ready (rs := [1]) (by kernel_rfl) (by simp) ?_
          refine AllReadyH.cons (o := ?o2) ?ho2 (fun K hK => ?st2) AllReadyH.nil
          case ho2 => (simp only [gA, gB, gC]; rfl)
          go_simp
          refine (HG.out _).mono ?_; rintro e w2 ⟨rfl, hb2⟩
          refine hK.out _ _ ?_ (fun hHeld => ?_)
          · (try dsimp only); exact HK.out _ _ hHeld hb2
          clear hK K
          (try simp only [Act.put, sA, sB, sC])
          refine wpAnyH_take (i := 2) (oi := ?oi3) (v := ?v3) ?hi3 (by kernel_rfl) (by kernel_rfl) (by kernel_rfl) ?hQ3 (Or.inl ⟨?hw3, ?hy3⟩) (by assumption) ?rest3
          case hi3 => (simp only [gA, gB, gC]; rfl)
          case hQ3 => exact fun _ _ _ h => h
          case hw3 => rfl
          case hy3 => (intro w hSw; (try dsimp only at hSw); go_simp; try with_reducible rfl)
          (try simp only [Act.put, sA, sB, sC])
          refine wpAnyH_take (i := 3) (oi := ?oi4) (v := ?v4) ?hi4 (by kernel_rfl) (by kernel_rfl) (by kernel_rfl) ?hQ4 (Or.inl ⟨?hw4, ?hy4⟩) (by assumption) ?rest4
          case hi4 => (simp only [gA, gB, gC]; rfl)
          case hQ4 => exact fun _ _ _ h => h
          case hw4 => rfl
          case hy4 => (intro w hSw; (try dsimp only at hSw); go_simp; try with_reducible rfl)
          (try simp only [Act.put, sA, sB, sC])
          refine wpAnyH_take (i := 4) (oi := ?oi5) (v := undef) ?hi5 (by kernel_rfl) (by kernel_rfl) (by kernel_rfl) ?hQ5 (Or.inr ⟨?hw5, rfl⟩) (by assumption) ?rest5
          case hi5 => (simp only [gA, gB, gC]; rfl)
          case hQ5 => exact fun _ _ _ h => h
          case hw5 => rfl
          (try simp only [Act.put, sA, sB, sC])
          refine wpAnyH_take (i := 5) (oi := ?oi6) (v := undef) ?hi6 (by kernel_rfl) (by kernel_rfl) (by kernel_rfl) ?hQ6 (Or.inr ⟨?hw6, rfl⟩) (by assumption) ?rest6
          case hi6 => (simp only [gA, gB, gC]; rfl)
          case hQ6 => exact fun _ _ _ h => h
          case hw6 => rfl
          (try simp only [Act.put, sA, sB, sC])
          refine wpAnyH_take (i := 6) (oi := ?oi7) (v := undef) ?hi7 (by kernel_rfl) (by kernel_rfl) (by kernel_rfl) ?hQ7 (Or.inr ⟨?hw7, rfl⟩) (by assumption) ?rest7
          case hi7 => (simp only [gA, gB, gC]; rfl)
          case hQ7 => exact fun _ _ _ h => h
          case hw7 => rfl
          (try simp only [Act.put, sA, sB, sC])
          refine wpAnyH_take (i := 7) (oi := ?oi8) (v := undef) ?hi8 (by kernel_rfl) (by kernel_rfl) (by kernel_rfl) ?hQ8 (Or.inr ⟨?hw8, rfl⟩) (by assumption) ?rest8
          case hi8 => (simp only [gA, gB, gC]; rfl)
          case hQ8 => exact fun _ _ _ h => h
          case hw8 => rfl
          (try simp only [Act.put, sA, sB, sC])
          refine wpAnyH_take (i := 8) (oi := ?oi9) (v := undef) ?hi9 (by kernel_rfl) (by kernel_rfl) (by kernel_rfl) ?hQ9 (Or.inr ⟨?hw9, rfl⟩) (by assumption) ?rest9
          case hi9 => (simp only [gA, gB, gC]; rfl)
          case hQ9 => exact fun _ _ _ h => h
          case hw9 => rfl
          (try simp only [Act.put, sA, sB, sC])
          refine wpAnyH_take (i := 9) (oi := ?oi10) (v := undef) ?hi10 (by kernel_rfl) (by kernel_rfl) (by kernel_rfl) ?hQ10 (Or.inr ⟨?hw10, rfl⟩) (by assumption) ?rest10
          case hi10 => (simp only [gA, gB, gC]; rfl)
          case hQ10 => exact fun _ _ _ h => h
          case hw10 => rfl
          (try simp only [Act.put, sA, sB, sC])
          refine wpAnyH_take (i := 10) (oi := ?oi11) (v := undef) ?hi11 (by kernel_rfl) (by kernel_rfl) (by kernel_rfl) ?hQ11 (Or.inr ⟨?hw11, rfl⟩) (by assumption) ?rest11
          case hi11 => (simp only [gA, gB, gC]; rfl)
          case hQ11 => exact fun _ _ _ h => h
          case hw11 => rfl
          (try simp only [Act.put, sA, sB, sC])
          refine wpAnyH_take (i := 11) (oi := ?oi12) (v := undef) ?hi12 (by kernel_rfl) (by kernel_rfl) (by kernel_rfl) ?hQ12 (Or.inr ⟨?hw12, rfl⟩) (by assumption) ?rest12
          case hi12 => (simp only [gA, gB, gC]; rfl)
          case hQ12 => exact fun _ _ _ h => h
          case hw12 => rfl
          (try simp only [Act.put, sA, sB, sC])
          refine wpAnyH_take (i := 12) (oi := ?oi13) (v := ?v13) ?hi13 (by kernel_rfl) (by kernel_rfl) (by kernel_rfl) ?hQ13 (Or.inl ⟨?hw13, ?hy13⟩) (by assumption) ?rest13
          case hi13 => (simp only [gA, gB, gC]; rfl)
          case hQ13 => exact fun _ _ _ h => h
          case hw13 => rfl
          case hy13 => (intro w hSw; (try dsimp only at hSw); go_simp; try with_reducible rfl)
          (try simp only [Act.put, sA, sB, sC])
          refine wpAnyH_done (by kernel_rfl) ?_ _
          go_wp2_with fail
          go_ret
          exact ⟨ret_bool HNO.out.symm, hHeld.1⟩
        · rcases hk : (vv.k == fk) with _ | _
          · have hkk : (vv.k != fk) = true := by rw [bne, hk]; rfl
            have HNO := Lib.hid (hno (by rw [hk]; rfl))
            clear hall2 hno
            go_wp2_with fail
            refine wp_region_held_drew (S := (fun W => Below w.heap.size w W ∧ W.cell? ⟨(fad.add (k * 8)).block, (fad.add (k * 8)).off + 1, none⟩ = some (.int .i64 fk) ∧ W.cell? ⟨wr.heap.size, 0, none⟩ = some (.int .i64 vv.k) ∧ W.cell? ⟨wr.heap.size, 1, none⟩ = some (.int .i64 vv.i) ∧ W.cell? ⟨wr.heap.size, 2, none⟩ = some (.bool vv.b) ∧ W.cell? ⟨wr.heap.size, 3, none⟩ = some (.string vv.s) ∧ W.cell? ⟨wr.heap.size, 4, none⟩ = some (.float .f64 vv.n))) (by kernel_rfl) (hS1) (fun hHeld => ?_)
            refine wpAnyH_take (i := 0) (oi := ?oi14) (v := ?v14) ?hi14 (by kernel_rfl) (by kernel_rfl) (by kernel_rfl) ?hQ14 (Or.inl ⟨?hw14, ?hy14⟩) (by assumption) ?rest14
            case hi14 => (simp only [gA, gB, gC]; rfl)
            case hQ14 => exact fun _ _ _ h => h
            case hw14 => rfl
            case hy14 => (intro w hSw; (try dsimp only at hSw); go_simp; try with_reducible rfl)
            (try simp only [Act.put, sA, sB, sC])
            refine wpAnyH_ready (rs := [1]) (by kernel_rfl) (by simp) ?_
            refine AllReadyH.cons (o := ?o15) ?ho15 (fun K hK => ?st15) AllReadyH.nil
            case ho15 => (simp only [gA, gB, gC]; rfl)
            go_simp
            refine (HG.out _).mono ?_; rintro e w2 ⟨rfl, hb2⟩
            refine hK.out _ _ ?_ (fun hHeld => ?_)
            · (try dsimp only); exact HK.out _ _ hHeld hb2
            clear hK K
            (try simp only [Act.put, sA, sB, sC])
            refine wpAnyH_take (i := 2) (oi := ?oi16) (v := ?v16) ?hi16 (by kernel_rfl) (by kernel_rfl) (by kernel_rfl) ?hQ16 (Or.inl ⟨?hw16, ?hy16⟩) (by assumption) ?rest16
            case hi16 => (simp only [gA, gB, gC]; rfl)
            case hQ16 => exact fun _ _ _ h => h
            case hw16 => rfl
            case hy16 => (intro w hSw; (try dsimp only at hSw); go_simp; try with_reducible rfl)
            (try simp only [Act.put, sA, sB, sC])
            refine wpAnyH_take (i := 3) (oi := ?oi17) (v := ?v17) ?hi17 (by kernel_rfl) (by kernel_rfl) (by kernel_rfl) ?hQ17 (Or.inl ⟨?hw17, ?hy17⟩) (by assumption) ?rest17
            case hi17 => (simp only [gA, gB, gC]; rfl)
            case hQ17 => exact fun _ _ _ h => h
            case hw17 => rfl
            case hy17 => (intro w hSw; (try dsimp only at hSw); go_simp; try with_reducible rfl)
            (try simp only [Act.put, sA, sB, sC])
            refine wpAnyH_take (i := 4) (oi := ?oi18) (v := ?v18) ?hi18 (by kernel_rfl) (by kernel_rfl) (by kernel_rfl) ?hQ18 (Or.inl ⟨?hw18, ?hy18⟩) (by assumption) ?rest18
            case hi18 => (simp only [gA, gB, gC]; rfl)
            case hQ18 => exact fun _ _ _ h => h
            case hw18 => rfl
            case hy18 => (intro w hSw; (try dsimp only at hSw); go_simp; try with_reducible rfl)
            (try simp only [Act.put, sA, sB, sC])
            refine wpAnyH_take (i := 5) (oi := ?oi19) (v := ?v19) ?hi19 (by kernel_rfl) (by kernel_rfl) (by kernel_rfl) ?hQ19 (Or.inl ⟨?hw19, ?hy19⟩) (by assumption) ?rest19
            case hi19 => (simp only [gA, gB, gC]; rfl)
            case hQ19 => exact fun _ _ _ h => h
            case hw19 => rfl
            case hy19 => (intro w hSw; (try dsimp only at hSw); go_simp; try with_reducible rfl)
            (try simp only [Act.put, sA, sB, sC])
            refine wpAnyH_take (i := 6) (oi := ?oi20) (v := ?v20) ?hi20 (by kernel_rfl) (by kernel_rfl) (by kernel_rfl) ?hQ20 (Or.inl ⟨?hw20, ?hy20⟩) (by assumption) ?rest20
            case hi20 => (simp only [gA, gB, gC]; rfl)
            case hQ20 => exact fun _ _ _ h => h
            case hw20 => rfl
            case hy20 => (intro w hSw; (try dsimp only at hSw); go_simp; try with_reducible rfl)
            (try simp only [Act.put, sA, sB, sC])
            refine wpAnyH_take (i := 7) (oi := ?oi21) (v := ?v21) ?hi21 (by kernel_rfl) (by kernel_rfl) (by kernel_rfl) ?hQ21 (Or.inl ⟨?hw21, ?hy21⟩) (by assumption) ?rest21
            case hi21 => (simp only [gA, gB, gC]; rfl)
            case hQ21 => exact fun _ _ _ h => h
            case hw21 => rfl
            case hy21 => (intro w hSw; (try dsimp only at hSw); go_simp; try with_reducible rfl)
            (try simp only [Act.put, sA, sB, sC])
            refine wpAnyH_take (i := 8) (oi := ?oi22) (v := ?v22) ?hi22 (by kernel_rfl) (by kernel_rfl) (by kernel_rfl) ?hQ22 (Or.inl ⟨?hw22, ?hy22⟩) (by assumption) ?rest22
            case hi22 => (simp only [gA, gB, gC]; rfl)
            case hQ22 => exact fun _ _ _ h => h
            case hw22 => rfl
            case hy22 => (intro w hSw; (try dsimp only at hSw); go_simp; try with_reducible rfl)
            (try simp only [Act.put, sA, sB, sC])
            refine wpAnyH_take (i := 9) (oi := ?oi23) (v := ?v23) ?hi23 (by kernel_rfl) (by kernel_rfl) (by kernel_rfl) ?hQ23 (Or.inl ⟨?hw23, ?hy23⟩) (by assumption) ?rest23
            case hi23 => (simp only [gA, gB, gC]; rfl)
            case hQ23 => exact fun _ _ _ h => h
            case hw23 => rfl
            case hy23 => (intro w hSw; (try dsimp only at hSw); go_simp; try with_reducible rfl)
            (try simp only [Act.put, sA, sB, sC])
            refine wpAnyH_take (i := 10) (oi := ?oi24) (v := ?v24) ?hi24 (by kernel_rfl) (by kernel_rfl) (by kernel_rfl) ?hQ24 (Or.inl ⟨?hw24, ?hy24⟩) (by assumption) ?rest24
            case hi24 => (simp only [gA, gB, gC]; rfl)
            case hQ24 => exact fun _ _ _ h => h
            case hw24 => rfl
            case hy24 => (intro w hSw; (try dsimp only at hSw); go_simp; try with_reducible rfl)
            (try simp only [Act.put, sA, sB, sC])
            refine wpAnyH_take (i := 11) (oi := ?oi25) (v := ?v25) ?hi25 (by kernel_rfl) (by kernel_rfl) (by kernel_rfl) ?hQ25 (Or.inl ⟨?hw25, ?hy25⟩) (by assumption) ?rest25
            case hi25 => (simp only [gA, gB, gC]; rfl)
            case hQ25 => exact fun _ _ _ h => h
            case hw25 => rfl
            case hy25 => (intro w hSw; (try dsimp only at hSw); go_simp; try with_reducible rfl)
            (try simp only [Act.put, sA, sB, sC])
            refine wpAnyH_take (i := 12) (oi := ?oi26) (v := ?v26) ?hi26 (by kernel_rfl) (by kernel_rfl) (by kernel_rfl) ?hQ26 (Or.inl ⟨?hw26, ?hy26⟩) (by assumption) ?rest26
            case hi26 => (simp only [gA, gB, gC]; rfl)
            case hQ26 => exact fun _ _ _ h => h
            case hw26 => rfl
            case hy26 => (intro w hSw; (try dsimp only at hSw); go_simp; try with_reducible rfl)
            (try simp only [Act.put, sA, sB, sC])
            refine wpAnyH_done (by kernel_rfl) ?_ _
            go_wp2_with fail
            go_ret
            exact ⟨ret_bool HNO.out.symm, hHeld.1⟩
          · have hkk : (vv.k != fk) = false := by rw [bne, hk]; rfl
            have HALL := Lib.hid (hall2 (by rw [hk]; rfl))
            clear hall2 hno
            go_wp2_with fail
            refine wp_region_held_drew (S := (fun W => Below w.heap.size w W ∧ W.cell? ⟨(fad.add (k * 8)).block, (fad.add (k * 8)).off + 1, none⟩ = some (.int .i64 fk) ∧ W.cell? ⟨wr.heap.size, 0, none⟩ = some (.int .i64 vv.k) ∧ W.cell? ⟨wr.heap.size, 1, none⟩ = some (.int .i64 vv.i) ∧ W.cell? ⟨wr.heap.size, 2, none⟩ = some (.bool vv.b) ∧ W.cell? ⟨wr.heap.size, 3, none⟩ = some (.string vv.s) ∧ W.cell? ⟨wr.heap.size, 4, none⟩ = some (.float .f64 vv.n))) (by kernel_rfl) (hS1) (fun hHeld => ?_)
            refine wpAnyH_take (i := 0) (oi := ?oi27) (v := ?v27) ?hi27 (by kernel_rfl) (by kernel_rfl) (by kernel_rfl) ?hQ27 (Or.inl ⟨?hw27, ?hy27⟩) (by assumption) ?rest27
            case hi27 => (simp only [gA, gB, gC]; rfl)
            case hQ27 => exact fun _ _ _ h => h
            case hw27 => rfl
            case hy27 => (intro w hSw; (try dsimp only at hSw); go_simp; try with_reducible rfl)
            (try simp only [Act.put, sA, sB, sC])
            refine wpAnyH_ready (rs := [1]) (by kernel_rfl) (by simp) ?_
            refine AllReadyH.cons (o := ?o28) ?ho28 (fun K hK => ?st28) AllReadyH.nil
            case ho28 => (simp only [gA, gB, gC]; rfl)
            go_simp
            refine (HG.out _).mono ?_; rintro e w2 ⟨rfl, hb2⟩
            refine hK.out _ _ ?_ (fun hHeld => ?_)
            · (try dsimp only); exact HK.out _ _ hHeld hb2
            clear hK K
            (try simp only [Act.put, sA, sB, sC])
            refine wpAnyH_take (i := 2) (oi := ?oi29) (v := ?v29) ?hi29 (by kernel_rfl) (by kernel_rfl) (by kernel_rfl) ?hQ29 (Or.inl ⟨?hw29, ?hy29⟩) (by assumption) ?rest29
            case hi29 => (simp only [gA, gB, gC]; rfl)
            case hQ29 => exact fun _ _ _ h => h
            case hw29 => rfl
            case hy29 => (intro w hSw; (try dsimp only at hSw); go_simp; try with_reducible rfl)
            (try simp only [Act.put, sA, sB, sC])
            refine wpAnyH_take (i := 3) (oi := ?oi30) (v := ?v30) ?hi30 (by kernel_rfl) (by kernel_rfl) (by kernel_rfl) ?hQ30 (Or.inl ⟨?hw30, ?hy30⟩) (by assumption) ?rest30
            case hi30 => (simp only [gA, gB, gC]; rfl)
            case hQ30 => exact fun _ _ _ h => h
            case hw30 => rfl
            case hy30 => (intro w hSw; (try dsimp only at hSw); go_simp; try with_reducible rfl)
            (try simp only [Act.put, sA, sB, sC])
            refine wpAnyH_take (i := 4) (oi := ?oi31) (v := ?v31) ?hi31 (by kernel_rfl) (by kernel_rfl) (by kernel_rfl) ?hQ31 (Or.inl ⟨?hw31, ?hy31⟩) (by assumption) ?rest31
            case hi31 => (simp only [gA, gB, gC]; rfl)
            case hQ31 => exact fun _ _ _ h => h
            case hw31 => rfl
            case hy31 => (intro w hSw; (try dsimp only at hSw); go_simp; try with_reducible rfl)
            (try simp only [Act.put, sA, sB, sC])
            refine wpAnyH_take (i := 5) (oi := ?oi32) (v := ?v32) ?hi32 (by kernel_rfl) (by kernel_rfl) (by kernel_rfl) ?hQ32 (Or.inl ⟨?hw32, ?hy32⟩) (by assumption) ?rest32
            case hi32 => (simp only [gA, gB, gC]; rfl)
            case hQ32 => exact fun _ _ _ h => h
            case hw32 => rfl
            case hy32 => (intro w hSw; (try dsimp only at hSw); go_simp; try with_reducible rfl)
            (try simp only [Act.put, sA, sB, sC])
            refine wpAnyH_take (i := 6) (oi := ?oi33) (v := ?v33) ?hi33 (by kernel_rfl) (by kernel_rfl) (by kernel_rfl) ?hQ33 (Or.inl ⟨?hw33, ?hy33⟩) (by assumption) ?rest33
            case hi33 => (simp only [gA, gB, gC]; rfl)
            case hQ33 => exact fun _ _ _ h => h
            case hw33 => rfl
            case hy33 => (intro w hSw; (try dsimp only at hSw); go_simp; try with_reducible rfl)
            (try simp only [Act.put, sA, sB, sC])
            refine wpAnyH_take (i := 7) (oi := ?oi34) (v := ?v34) ?hi34 (by kernel_rfl) (by kernel_rfl) (by kernel_rfl) ?hQ34 (Or.inl ⟨?hw34, ?hy34⟩) (by assumption) ?rest34
            case hi34 => (simp only [gA, gB, gC]; rfl)
            case hQ34 => exact fun _ _ _ h => h
            case hw34 => rfl
            case hy34 => (intro w hSw; (try dsimp only at hSw); go_simp; try with_reducible rfl)
            (try simp only [Act.put, sA, sB, sC])
            refine wpAnyH_take (i := 8) (oi := ?oi35) (v := ?v35) ?hi35 (by kernel_rfl) (by kernel_rfl) (by kernel_rfl) ?hQ35 (Or.inl ⟨?hw35, ?hy35⟩) (by assumption) ?rest35
            case hi35 => (simp only [gA, gB, gC]; rfl)
            case hQ35 => exact fun _ _ _ h => h
            case hw35 => rfl
            case hy35 => (intro w hSw; (try dsimp only at hSw); go_simp; try with_reducible rfl)
            (try simp only [Act.put, sA, sB, sC])
            refine wpAnyH_take (i := 9) (oi := ?oi36) (v := ?v36) ?hi36 (by kernel_rfl) (by kernel_rfl) (by kernel_rfl) ?hQ36 (Or.inl ⟨?hw36, ?hy36⟩) (by assumption) ?rest36
            case hi36 => (simp only [gA, gB, gC]; rfl)
            case hQ36 => exact fun _ _ _ h => h
            case hw36 => rfl
            case hy36 => (intro w hSw; (try dsimp only at hSw); go_simp; try with_reducible rfl)
            (try simp only [Act.put, sA, sB, sC])
            refine wpAnyH_take (i := 10) (oi := ?oi37) (v := ?v37) ?hi37 (by kernel_rfl) (by kernel_rfl) (by kernel_rfl) ?hQ37 (Or.inl ⟨?hw37, ?hy37⟩) (by assumption) ?rest37
            case hi37 => (simp only [gA, gB, gC]; rfl)
            case hQ37 => exact fun _ _ _ h => h
            case hw37 => rfl
            case hy37 => (intro w hSw; (try dsimp only at hSw); go_simp; try with_reducible rfl)
            (try simp only [Act.put, sA, sB, sC])
            refine wpAnyH_take (i := 11) (oi := ?oi38) (v := ?v38) ?hi38 (by kernel_rfl) (by kernel_rfl) (by kernel_rfl) ?hQ38 (Or.inl ⟨?hw38, ?hy38⟩) (by assumption) ?rest38
            case hi38 => (simp only [gA, gB, gC]; rfl)
            case hQ38 => exact fun _ _ _ h => h
            case hw38 => rfl
            case hy38 => (intro w hSw; (try dsimp only at hSw); go_simp; try with_reducible rfl)
            (try simp only [Act.put, sA, sB, sC])
            refine wpAnyH_take (i := 12) (oi := ?oi39) (v := ?v39) ?hi39 (by kernel_rfl) (by kernel_rfl) (by kernel_rfl) ?hQ39 (Or.inl ⟨?hw39, ?hy39⟩) (by assumption) ?rest39
            case hi39 => (simp only [gA, gB, gC]; rfl)
            case hQ39 => exact fun _ _ _ h => h
            case hw39 => rfl
            case hy39 => (intro w hSw; (try dsimp only at hSw); go_simp; try with_reducible rfl)
            (try simp only [Act.put, sA, sB, sC])
            refine wpAnyH_done (by kernel_rfl) ?_ _
            go_wp2_with fail
            go_roundw
            case rel => exact ⟨k + 1, by omega, by go_num, HALL.out, hHeld.1⟩
            case measure => simp [intOf]; omega
      · have HF := Lib.hid (HALLF.out fun j hj hj' => hall j hj hj' (by omega))
        have hkl : k = vs.length := by omega
        have hkf : ¬ (k : Int) < (fs.length : Int) := by rw [HL.out]; omega
        have hkv : ¬ (k : Int) < (vs.length : Int) := by omega
        clear hall hkl
        go_wp2
        go_ret
        exact ⟨ret_bool HF.out.symm, hb⟩
  · have hne : ((vs.length : Int) != (fs.length : Int)) = true := by simp; omega
    have HNO := Lib.hid (fit_len fs vs hl)
    clear hl
    go_enter Tryz.func88, Tryz.ntmps88
    go_wp2
    go_ret
    exact ⟨ret_bool HNO.out.symm, Below.refl _ _⟩
end Go.Proofs.YtkhpgejammgolaaGreat

/- Layer 5: Eval, by the program. -/
namespace Go.Proofs.YtkhpgejammgolaaGreat
open Go.RowKit
set_option linter.unusedVariables false
set_option linter.unusedSimpArgs false
set_option maxRecDepth 20000

/-- 5.2, a NaN's bits settled -/
def evalP (e : Ex) (fs : List Fd) (vs : List Vl) : Vl × Int := if (checkX e fs).2 ≠ 0 then (vZero, (checkX e fs).2) else if fitX fs vs = true then endV (evX 6 e fs vs) else (vZero, 1)
set_option maxHeartbeats 1000000 in
theorem Eval_any (FA : Option Addr) (FC : Nat) (fs : List Fd) (VA : Option Addr) (VC : Nat) (vs : List Vl) (D : Nat) (e : Ex) (A : Option Addr) (c : Nat) (w : World) (hx : ExK w D A c e) (hf : FdK w FA FC fs) (hv : VlK w VA VC vs) (hok : okX 6 e) (hvs : ∀ v ∈ vs, okV v) :
    Calls Tryz.prog 41 #[agX e.op A e.kids.length c e.name e.val, .slice FA fs.length FC, .slice VA vs.length VC] w (VMk (pairVE (evalP e fs vs).1 (evalP e fs vs).2) w) := by
  have hsf := fun (w : World) (a : Addr) (m : Mode) (b : Nat) => run_store Tryz.prog w a (.float .f64 b) m rfl
  have hc : ∀ W, Below w.heap.size w W → Calls Tryz.prog 24 #[agX e.op A e.kids.length c e.name e.val, .slice FA fs.length FC] W (VMk (pairII (checkX e fs)) W) := fun W hb => eCheck_any FA FC fs D e A c W (hx.below hb (Nat.le_refl _)) (hf.below hb (Nat.le_refl _))
  have hfit : ∀ W, Below w.heap.size w W → Calls Tryz.prog 88 #[.slice VA vs.length VC, .slice FA fs.length FC] W (VMk (.bool (fitX fs vs)) W) := fun W hb => fit_prog FA FC fs VA VC vs W (hf.below hb (Nat.le_refl _)) (hv.below hb (Nat.le_refl _))
  have hrk : (checkX e fs).2 = 0 → fitX fs vs = true → ∀ W, Below w.heap.size w W → Calls Tryz.prog 89 #[agR FA fs.length FC VA vs.length VC, agX e.op A e.kids.length c e.name e.val] W (VMk (pairVE (endV (evX 6 e fs vs)).1 (endV (evX 6 e fs vs)).2) W) := fun h0 hft W hb => by
    have hsm : smallX e = true := by
      cases hs : smallX e with
      | true => rfl
      | false =>
        have : checkX e fs = (0, 51) := by unfold checkX; rw [hs]; rfl
        rw [this] at h0; exact absurd h0 (by decide)
    have hck : chkX 6 e fs = ((chkX 6 e fs).1, 0) := by
      have : checkX e fs = chkX 6 e fs := by unfold checkX; rw [hsm]; rfl
      rw [this] at h0
      exact pair_of h0
    have hdp := ((smallX_iff e).1 hsm).1
    have hsd := ev_sound fs vs hft hvs 6 e _ hok hdp hck
    exact reckon_any FA fs.length FC VA vs.length VC e.op A e.kids.length c e.name e.val W (evX 6 e fs vs) (fun h => ⟨(snd_ok hsd h).1, (snd_ok hsd h).2.1⟩) (fun W' hb' => tell_any FA FC fs VA VC vs hft hvs D 6 e A c _ W' (hx.below (hb.trans (hb'.mono hb.size)) (Nat.le_refl _)) (hf.below (hb.trans (hb'.mono hb.size)) (Nat.le_refl _)) (hv.below (hb.trans (hb'.mono hb.size)) (Nat.le_refl _)) hok hdp hck)
  have hev : evalP e fs vs = if (checkX e fs).2 ≠ 0 then (vZero, (checkX e fs).2) else if fitX fs vs = true then endV (evX 6 e fs vs) else (vZero, 1) := rfl
  rw [hev]
  clear hev hx hf hv hok hvs
  generalize endV (evX 6 e fs vs) = r at hrk ⊢
  generalize checkX e fs = ck at hc hrk ⊢
  generalize fitX fs vs = ft at hfit hrk ⊢
  generalize e.kids.length = n at *
  generalize e.op = eop at *
  generalize e.name = enm at *
  generalize e.val = ev at *
  obtain ⟨ck1, ck2⟩ := ck
  have HC := Lib.hid hc
  have HF := Lib.hid hfit
  clear hc hfit
  by_cases h0 : ck2 = 0
  · subst h0
    rw [if_neg (fun h => h rfl)]
    rcases ft with _ | _
    · rw [if_neg (by decide)]
      clear hrk
      go_enter Tryz.func41, Tryz.ntmps41
      go_wp2_with (first
        | (go_at_call 24; refine (HC.out _ (vbox2 w _ _)).mono ?_; rintro e w1 ⟨rfl, hb1⟩; have B1 : Below w.heap.size w w1 := (vbox2 w _ _).trans (hb1.mono (by simp; omega)); have hz : w.heap.size + 1 < w1.heap.size := by { have := hb1.size; simp at this; omega }; obtain ⟨hc1, hf1⟩ := bcell hb1)
        | (go_at_call 88; refine (HF.out _ B1).mono ?_; rintro e w2 ⟨rfl, hb2⟩; obtain ⟨hc2, hf2⟩ := bcell hb2; have hz2 : w.heap.size + 1 < w2.heap.size := by { have := hb2.size; omega }))
      exact bodyPost_ret (v := pairVE vZero 1) (by simp [results, Tryz.results41, go_sem, hc1, hc2, hz, hz2]) rfl ⟨rfl, vbox2_set w _ _ hb1 hb2 _ _ _ _ _⟩
    · rw [if_pos rfl]
      have hrk := hrk rfl rfl
      have HR := Lib.hid hrk
      clear hrk
      obtain ⟨r1, r2⟩ := r
      have hbx := (Kid_new w eop A n c enm ev).below (alloc1 _ (.cells #[.int .i64 0, .int .i64 0, .bool false, .string { data := #[] }, .float .f64 0] 25))
      have HBX := Lib.hid hbx
      clear hbx
      go_enter Tryz.func41, Tryz.ntmps41
      go_wp2_with (first
        | (go_at_call 24; refine (HC.out _ (vbox2 w _ _)).mono ?_; rintro e w1 ⟨rfl, hb1⟩; have B1 : Below w.heap.size w w1 := (vbox2 w _ _).trans (hb1.mono (by simp; omega)); have hz : w.heap.size + 1 < w1.heap.size := by { have := hb1.size; simp at this; omega }; have HB1 := Lib.hid (HBX.out.below hb1); obtain ⟨hc1, hf1⟩ := bcell hb1)
        | (go_at_call 88; refine (HF.out _ B1).mono ?_; rintro e w2 ⟨rfl, hb2⟩; have B2 : Below w.heap.size w w2 := B1.trans (hb2.mono B1.size); obtain ⟨d0, d1, d2, d3, d4, d5, d6, d7⟩ := HB1.out.below hb2; obtain ⟨hc2, hf2⟩ := bcell hb2; have hz2 : w.heap.size + 1 < w2.heap.size := by { have := hb2.size; omega })
        | (go_at_call 89; refine (HR.out _ B2).mono ?_; rintro e w3 ⟨rfl, hb3⟩; obtain ⟨hc3, hf3⟩ := bcell hb3; have hz3 : w.heap.size + 1 < w3.heap.size := by { have := hb3.size; omega }))
      exact bodyPost_ret (v := pairVE r1 r2) (by simp [results, Tryz.results41, go_sem, hc1, hc2, hc3, hz, hz2, hz3]) rfl ⟨rfl, below_set5 (B2.trans (hb3.mono B2.size)) (by omega) _ _ _ _ _⟩
  · rw [if_pos h0]
    have hne : (ck2 != 0) = true := by simpa using h0
    clear hrk h0
    go_enter Tryz.func41, Tryz.ntmps41
    go_wp2_with (first
      | (go_at_call 24; refine (HC.out _ (vbox2 w _ _)).mono ?_; rintro e w1 ⟨rfl, hb1⟩; obtain ⟨hc1, hf1⟩ := bcell hb1; have hz : w.heap.size + 1 < w1.heap.size := by { have := hb1.size; simp at this; omega }))
    exact bodyPost_ret (v := pairVE vZero ck2) (by simp [results, Tryz.results41, go_sem, hc1, hz]) rfl ⟨rfl, vbox2_set w _ _ hb1 (Below.refl _ _) _ _ _ _ _⟩
end Go.Proofs.YtkhpgejammgolaaGreat

/- Layer 5: what the laws begin with. -/
namespace Go.Proofs.YtkhpgejammgolaaGreat
open Go.RowKit
set_option linter.unusedVariables false
set_option linter.unusedSimpArgs false
set_option maxRecDepth 20000

theorem con_any (v : Vl) (w : World) : Calls Tryz.prog 51 #[agV v] w (VMk (agX 1 none 0 0 ⟨#[]⟩ v) w) := by
  have hsf := fun (w : World) (a : Addr) (m : Mode) (b : Nat) => run_store Tryz.prog w a (.float .f64 b) m rfl
  go_enter Tryz.func51, Tryz.ntmps51
  go_wp2
  exact bodyPost_ret (v := agX 1 none 0 0 ⟨#[]⟩ v) (by simp [results, Tryz.results51, go_sem]) rfl ⟨rfl, vbox2 w _ _⟩
theorem op_any (o : Int) (A : Option Addr) (n c : Nat) (w : World) : Calls Tryz.prog 53 #[.int .i64 o, .slice A n c] w (VMk (agX o A n c ⟨#[]⟩ vZero) w) := by
  have hsf := fun (w : World) (a : Addr) (m : Mode) (b : Nat) => run_store Tryz.prog w a (.float .f64 b) m rfl
  go_enter Tryz.func53, Tryz.ntmps53
  go_wp2
  exact bodyPost_ret (v := agX o A n c ⟨#[]⟩ vZero) (by simp [results, Tryz.results53, go_sem]) rfl ⟨rfl, (Below.refl _ _).alloc (Nat.le_refl _) _⟩

end Go.Proofs.YtkhpgejammgolaaGreat
