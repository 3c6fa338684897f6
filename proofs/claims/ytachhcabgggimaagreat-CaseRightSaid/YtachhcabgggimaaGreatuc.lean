/- uc: ETell3 ETell6 ETell7 ETell8 EFit ETell9 ELaw EAw0 CMem EArgs CArgs ERFit ESound EPut ERSmall ERPut ERows ERows2 EKid ERSame EGet1 EGet2 EGet3 EGet4 EBack CByt CSnd0 KDef KStay CNew KMem KArgs CConcat CIdx (made by shake.py). -/
import Derived.StillTailTactics
import Derived.Deep.RegionHeld3
import Derived.Lib.AppendZeros
import Derived.Test.YtachhcabgggimaaGreatub
namespace Go.Proofs.YtachhcabgggimaaGreat
open Go.RowKit
set_option linter.unusedVariables false
set_option linter.unusedSimpArgs false
set_option maxRecDepth 20000

set_option maxHeartbeats 600000 in
theorem tell_10 (FA : Option Addr) (fn FC : Nat) (VA : Option Addr) (vn VC : Nat) (ad : Addr) (n c : Nat) (nm : ByteArray) (v : Vl) (w : World) (A0 : Option Addr) (n0 c0 : Nat) (m0 : ByteArray) (y0 : Vl) (p0 : Int) (R0 : Vl × Int) (hq0 : ∀ W, Below w.heap.size w W → Kid W ad p0 A0 n0 c0 m0 y0) (h0 : ∀ W, Below w.heap.size w W → Calls Tryz.prog 256 #[agR FA fn FC VA vn VC, agX p0 A0 n0 c0 m0 y0] W (TellP R0 W)) (hv0 : R0.2 = 0 → okV R0.1) (A1 : Option Addr) (n1 c1 : Nat) (m1 : ByteArray) (y1 : Vl) (p1 : Int) (R1 : Vl × Int) (hq1 : ∀ W, Below w.heap.size w W → Kid W ⟨ad.block, ad.off + 8, none⟩ p1 A1 n1 c1 m1 y1) (h1 : ∀ W, Below w.heap.size w W → Calls Tryz.prog 256 #[agR FA fn FC VA vn VC, agX p1 A1 n1 c1 m1 y1] W (TellP R1 W)) (hv1 : R1.2 = 0 → okV R1.1) (hn : 1 < n) :
    Calls Tryz.prog 256 #[agR FA fn FC VA vn VC, agX 10 (some ad) n c nm v] w (TellP (if R0.2 ≠ 0 then (vZero, R0.2) else (if R0.1.b = false then (R0.1, 0) else R1)) w) := by
  have hi1 : (1 : Int) < (n : Int) := by omega
  have hsf := fun (w : World) (a : Addr) (m : Mode) (b : Nat) => run_store Tryz.prog w a (.float .f64 b) m rfl
  have hi : (0 : Int) < (n : Int) := by omega
  have hn0 : 0 < n := by omega
  have HQ1 := Lib.hid hq1
  have H1 := Lib.hid h1
  clear hq1 h1 hv1
  obtain ⟨r1, r2⟩ := R0
  have H0 := Lib.hid h0
  clear h0
  by_cases hz : r2 = 0
  · subst hz
    rw [if_neg (fun h => h rfl)]
    have h0 := fun W hb => (H0.out W hb).mono (fun e w' h => (⟨h.1.trans (if_pos rfl), h.2⟩ : e = .returned (agV r1) ∧ Below W.heap.size W w'))
    clear H0
    have H0 := Lib.hid h0
    clear h0 hv0
    rcases hb : r1.b with _ | _
    · rw [if_pos rfl]
      have HBB := Lib.hid hb
      clear hb
      have htb : TB w FA fn FC VA vn VC 10 (some ad) n c nm v (((w.alloc (.cells #[.slice FA fn FC, .slice VA vn VC] 247)).alloc (.cells #[.int .i64 10, .slice (some ad) n c, .string nm, .int .i64 v.k, .int .i64 v.i, .bool v.b, .string v.s, .float .f64 v.n] 77)).alloc (.cells #[.int .i64 0, .int .i64 0, .bool false, .string { data := #[] }, .float .f64 0] 55)) := TB_new w FA fn FC VA vn VC 10 (some ad) n c nm v
      have HHELD := Lib.hid (fun W (hb : TB w FA fn FC VA vn VC 10 (some ad) n c nm v W) => (show THeld w FA fn FC VA vn VC ad n c p0 A0 n0 c0 m0 y0 W from let q := hq0 W hb.1; ⟨hb.2.2.1, hb.2.2.2.1, hb.2.2.2.2.1.2.1, q.1, q.2.1, q.2.2.1, q.2.2.2.1, q.2.2.2.2.1, q.2.2.2.2.2.1, q.2.2.2.2.2.2.1, q.2.2.2.2.2.2.2⟩))
      clear hq0
      have HKP := Lib.hid (fun (W W' : World) (h : TB w FA fn FC VA vn VC 10 (some ad) n c nm v W ∧ THeld w FA fn FC VA vn VC ad n c p0 A0 n0 c0 m0 y0 W) (hb : Below W.heap.size W W') => And.intro (h.1.below hb) (HHELD.out _ (h.1.below hb)))
      have HKS := Lib.hid (fun (W : World) (b : Nat) (u0 u1 u2 u3 u4 : Value) (hge : w.heap.size + 3 ≤ b) (h : TB w FA fn FC VA vn VC 10 (some ad) n c nm v W ∧ THeld w FA fn FC VA vn VC ad n c p0 A0 n0 c0 m0 y0 W) => let hb := below_set5 (Below.refl (w.heap.size + 3) W) hge u0 u1 u2 u3 u4; And.intro (h.1.below3 hb) (HHELD.out _ (h.1.below3 hb)))
      go_enter Tryz.func256, Tryz.ntmps256
      go_upto_region 6 with fail
      generalize ((w.alloc (.cells #[.slice FA fn FC, .slice VA vn VC] 247)).alloc (.cells #[.int .i64 10, .slice (some ad) n c, .string nm, .int .i64 v.k, .int .i64 v.i, .bool v.b, .string v.s, .float .f64 v.n] 77)).alloc (.cells #[.int .i64 0, .int .i64 0, .bool false, .string { data := #[] }, .float .f64 0] 55) = wb at *
      go_cut [5] from 23 to 28 (fun s5 wx => ∃ b, s5 = .pointer (some ⟨b, 0, none⟩) ∧ w.heap.size + 3 ≤ b ∧ TB w FA fn FC VA vn VC 10 (some ad) n c nm v wx ∧ Bx wx b r1)
      case first =>
        have hS0 : TB w FA fn FC VA vn VC 10 (some ad) n c nm v wb.drew ∧ THeld w FA fn FC VA vn VC ad n c p0 A0 n0 c0 m0 y0 wb.drew := ⟨htb.below (Below.refl _ _).drew, HHELD.out _ (htb.below (Below.refl _ _).drew)⟩
        refine wp_region_held_drew (S := (fun W => TB w FA fn FC VA vn VC 10 (some ad) n c nm v W ∧ THeld w FA fn FC VA vn VC ad n c p0 A0 n0 c0 m0 y0 W)) (by kernel_rfl) (hS0) (fun hHeld => ?_)
        refine tk 0 ?_
        (try simp only [Act.put, sA, sB, sC])
        refine tk 1 ?_
        (try simp only [Act.put, sA, sB, sC])
        refine tk 2 ?_
        (try simp only [Act.put, sA, sB, sC])
        refine tk 3 ?_
        (try simp only [Act.put, sA, sB, sC])
        refine tk 4 ?_
        (try simp only [Act.put, sA, sB, sC])
        refine wpAnyH_ready (rs := [5, 6]) (by kernel_rfl) (by simp) ?_
        refine AllReadyH.cons (o := ?o76) ?g76 (fun K hK => ?j76) (AllReadyH.cons (o := ?o77) ?g77 (fun K hK => ?j77) AllReadyH.nil)
        case g76 => (simp only [gA, gB, gC]; rfl)
        case g77 => (simp only [gA, gB, gC]; rfl)
        · go_simp
          refine (H0.out _ (And.left (And.left hHeld))).mono ?_; rintro e wA ⟨rfl, hbA⟩; have hSA := HKP.out _ _ hHeld hbA
          refine hK.out _ _ ?_ (fun hHeld => ?_)
          · (try dsimp only); exact hSA
          clear hK K
          (try simp only [Act.put, sA, sB, sC])
          refine wpAnyH_ready (rs := [6]) (by kernel_rfl) (by simp) ?_
          refine AllReadyH.cons (o := ?o78) ?g78 (fun K hK => ?j78) AllReadyH.nil
          case g78 => (simp only [gA, gB, gC]; rfl)
          go_simp
          refine hK.out _ _ ?_ (fun hHeld => ?_)
          · (try dsimp only); exact HKP.out _ _ hSA (alloc1 _ _)
          clear hK K
          (try simp only [Act.put, sA, sB, sC])
          refine wpAnyH_ready (rs := [7]) (by kernel_rfl) (by simp) ?_
          refine AllReadyH.cons (o := ?o79) ?g79 (fun K hK => ?j79) AllReadyH.nil
          case g79 => (simp only [gA, gB, gC]; rfl)
          go_simp
          refine hK.out _ _ ?_ (fun hHeld => ?_)
          · (try dsimp only); exact HKP.out _ _ hSA (alloc1 _ _)
          clear hK K
          (try simp only [Act.put, sA, sB, sC])
          refine wpAnyH_done (by kernel_rfl) ?_ _
          go_wp2_with fail
          go_meet
          exact ⟨_, rfl, hSA.1.2.1, hHeld.1, Bx.new _ r1⟩
        · go_simp
          refine hK.out _ _ ?_ (fun hHeld => ?_)
          · (try dsimp only); exact HKP.out _ _ hS0 (alloc1 _ _)
          clear hK K
          (try simp only [Act.put, sA, sB, sC])
          refine wpAnyH_ready (rs := [5]) (by kernel_rfl) (by simp) ?_
          refine AllReadyH.cons (o := ?o80) ?g80 (fun K hK => ?j80) AllReadyH.nil
          case g80 => (simp only [gA, gB, gC]; rfl)
          go_simp
          refine (H0.out _ (And.left (And.left hHeld))).mono ?_; rintro e wA ⟨rfl, hbA⟩; have hSA := HKP.out _ _ hHeld hbA; obtain ⟨e0, e1, e2, e3, e4, ef⟩ := newcells hbA
          refine hK.out _ _ ?_ (fun hHeld => ?_)
          · (try dsimp only); exact hSA
          clear hK K
          (try simp only [Act.put, sA, sB, sC])
          refine wpAnyH_ready (rs := [7]) (by kernel_rfl) (by simp) ?_
          refine AllReadyH.cons (o := ?o81) ?g81 (fun K hK => ?j81) AllReadyH.nil
          case g81 => (simp only [gA, gB, gC]; rfl)
          go_simp
          refine hK.out _ _ ?_ (fun hHeld => ?_)
          · (try dsimp only); exact HKS.out _ _ _ _ _ _ _ htb.2.1 hSA
          clear hK K
          (try simp only [Act.put, sA, sB, sC])
          refine wpAnyH_done (by kernel_rfl) ?_ _
          go_wp2_with fail
          go_meet
          exact ⟨_, rfl, htb.2.1, hHeld.1, bx_set e0 e1 e2 e3 e4⟩
      case rest =>
        clear htb HHELD HKP HKS
        obtain ⟨b, rfl, hbge, hTB, hx0, hx1, hx2, hx3, hx4⟩ := hcut
        obtain ⟨d0, d1, d2, d3, d4, d5, d6, d7⟩ := hTB.2.2.2.2.1
        have g0 := hTB.2.2.1
        have g1 := hTB.2.2.2.1
        have hb := HBB.out
        rw [hb] at hx2
        clear hb
        obtain ⟨ou0, ou1, ou2, ou3, ou4, ov0, ov1, ov2, ov3, ov4, ovf⟩ := TB.out hTB
        go_wp2_with fail
        exact bodyPost_ret (v := agV r1) (by simp [results, Tryz.results256, go_sem, HBB.out, ov0, ov1, ov2, ov3, ov4]) rfl ⟨rfl, TB.done hTB _ _ _ _ _⟩
    · rw [if_neg (by decide)]
      have HBB := Lib.hid hb
      clear hb
      have htb : TB w FA fn FC VA vn VC 10 (some ad) n c nm v (((w.alloc (.cells #[.slice FA fn FC, .slice VA vn VC] 247)).alloc (.cells #[.int .i64 10, .slice (some ad) n c, .string nm, .int .i64 v.k, .int .i64 v.i, .bool v.b, .string v.s, .float .f64 v.n] 77)).alloc (.cells #[.int .i64 0, .int .i64 0, .bool false, .string { data := #[] }, .float .f64 0] 55)) := TB_new w FA fn FC VA vn VC 10 (some ad) n c nm v
      have HHELD := Lib.hid (fun W (hb : TB w FA fn FC VA vn VC 10 (some ad) n c nm v W) => (show THeld w FA fn FC VA vn VC ad n c p0 A0 n0 c0 m0 y0 W from let q := hq0 W hb.1; ⟨hb.2.2.1, hb.2.2.2.1, hb.2.2.2.2.1.2.1, q.1, q.2.1, q.2.2.1, q.2.2.2.1, q.2.2.2.2.1, q.2.2.2.2.2.1, q.2.2.2.2.2.2.1, q.2.2.2.2.2.2.2⟩))
      clear hq0
      have HKP := Lib.hid (fun (W W' : World) (h : TB w FA fn FC VA vn VC 10 (some ad) n c nm v W ∧ THeld w FA fn FC VA vn VC ad n c p0 A0 n0 c0 m0 y0 W) (hb : Below W.heap.size W W') => And.intro (h.1.below hb) (HHELD.out _ (h.1.below hb)))
      have HKS := Lib.hid (fun (W : World) (b : Nat) (u0 u1 u2 u3 u4 : Value) (hge : w.heap.size + 3 ≤ b) (h : TB w FA fn FC VA vn VC 10 (some ad) n c nm v W ∧ THeld w FA fn FC VA vn VC ad n c p0 A0 n0 c0 m0 y0 W) => let hb := below_set5 (Below.refl (w.heap.size + 3) W) hge u0 u1 u2 u3 u4; And.intro (h.1.below3 hb) (HHELD.out _ (h.1.below3 hb)))
      go_enter Tryz.func256, Tryz.ntmps256
      go_upto_region 6 with fail
      generalize ((w.alloc (.cells #[.slice FA fn FC, .slice VA vn VC] 247)).alloc (.cells #[.int .i64 10, .slice (some ad) n c, .string nm, .int .i64 v.k, .int .i64 v.i, .bool v.b, .string v.s, .float .f64 v.n] 77)).alloc (.cells #[.int .i64 0, .int .i64 0, .bool false, .string { data := #[] }, .float .f64 0] 55) = wb at *
      go_cut [5] from 23 to 28 (fun s5 wx => ∃ b, s5 = .pointer (some ⟨b, 0, none⟩) ∧ w.heap.size + 3 ≤ b ∧ TB w FA fn FC VA vn VC 10 (some ad) n c nm v wx ∧ Bx wx b r1)
      case first =>
        have hS0 : TB w FA fn FC VA vn VC 10 (some ad) n c nm v wb.drew ∧ THeld w FA fn FC VA vn VC ad n c p0 A0 n0 c0 m0 y0 wb.drew := ⟨htb.below (Below.refl _ _).drew, HHELD.out _ (htb.below (Below.refl _ _).drew)⟩
        refine wp_region_held_drew (S := (fun W => TB w FA fn FC VA vn VC 10 (some ad) n c nm v W ∧ THeld w FA fn FC VA vn VC ad n c p0 A0 n0 c0 m0 y0 W)) (by kernel_rfl) (hS0) (fun hHeld => ?_)
        refine tk 0 ?_
        (try simp only [Act.put, sA, sB, sC])
        refine tk 1 ?_
        (try simp only [Act.put, sA, sB, sC])
        refine tk 2 ?_
        (try simp only [Act.put, sA, sB, sC])
        refine tk 3 ?_
        (try simp only [Act.put, sA, sB, sC])
        refine tk 4 ?_
        (try simp only [Act.put, sA, sB, sC])
        refine wpAnyH_ready (rs := [5, 6]) (by kernel_rfl) (by simp) ?_
        refine AllReadyH.cons (o := ?o87) ?g87 (fun K hK => ?j87) (AllReadyH.cons (o := ?o88) ?g88 (fun K hK => ?j88) AllReadyH.nil)
        case g87 => (simp only [gA, gB, gC]; rfl)
        case g88 => (simp only [gA, gB, gC]; rfl)
        · go_simp
          refine (H0.out _ (And.left (And.left hHeld))).mono ?_; rintro e wA ⟨rfl, hbA⟩; have hSA := HKP.out _ _ hHeld hbA
          refine hK.out _ _ ?_ (fun hHeld => ?_)
          · (try dsimp only); exact hSA
          clear hK K
          (try simp only [Act.put, sA, sB, sC])
          refine wpAnyH_ready (rs := [6]) (by kernel_rfl) (by simp) ?_
          refine AllReadyH.cons (o := ?o89) ?g89 (fun K hK => ?j89) AllReadyH.nil
          case g89 => (simp only [gA, gB, gC]; rfl)
          go_simp
          refine hK.out _ _ ?_ (fun hHeld => ?_)
          · (try dsimp only); exact HKP.out _ _ hSA (alloc1 _ _)
          clear hK K
          (try simp only [Act.put, sA, sB, sC])
          refine wpAnyH_ready (rs := [7]) (by kernel_rfl) (by simp) ?_
          refine AllReadyH.cons (o := ?o90) ?g90 (fun K hK => ?j90) AllReadyH.nil
          case g90 => (simp only [gA, gB, gC]; rfl)
          go_simp
          refine hK.out _ _ ?_ (fun hHeld => ?_)
          · (try dsimp only); exact HKP.out _ _ hSA (alloc1 _ _)
          clear hK K
          (try simp only [Act.put, sA, sB, sC])
          refine wpAnyH_done (by kernel_rfl) ?_ _
          go_wp2_with fail
          go_meet
          exact ⟨_, rfl, hSA.1.2.1, hHeld.1, Bx.new _ r1⟩
        · go_simp
          refine hK.out _ _ ?_ (fun hHeld => ?_)
          · (try dsimp only); exact HKP.out _ _ hS0 (alloc1 _ _)
          clear hK K
          (try simp only [Act.put, sA, sB, sC])
          refine wpAnyH_ready (rs := [5]) (by kernel_rfl) (by simp) ?_
          refine AllReadyH.cons (o := ?o91) ?g91 (fun K hK => ?j91) AllReadyH.nil
          case g91 => (simp only [gA, gB, gC]; rfl)
          go_simp
          refine (H0.out _ (And.left (And.left hHeld))).mono ?_; rintro e wA ⟨rfl, hbA⟩; have hSA := HKP.out _ _ hHeld hbA; obtain ⟨e0, e1, e2, e3, e4, ef⟩ := newcells hbA
          refine hK.out _ _ ?_ (fun hHeld => ?_)
          · (try dsimp only); exact hSA
          clear hK K
          (try simp only [Act.put, sA, sB, sC])
          refine wpAnyH_ready (rs := [7]) (by kernel_rfl) (by simp) ?_
          refine AllReadyH.cons (o := ?o92) ?g92 (fun K hK => ?j92) AllReadyH.nil
          case g92 => (simp only [gA, gB, gC]; rfl)
          go_simp
          refine hK.out _ _ ?_ (fun hHeld => ?_)
          · (try dsimp only); exact HKS.out _ _ _ _ _ _ _ htb.2.1 hSA
          clear hK K
          (try simp only [Act.put, sA, sB, sC])
          refine wpAnyH_done (by kernel_rfl) ?_ _
          go_wp2_with fail
          go_meet
          exact ⟨_, rfl, htb.2.1, hHeld.1, bx_set e0 e1 e2 e3 e4⟩
      case rest =>
        clear htb HHELD HKP HKS
        obtain ⟨b, rfl, hbge, hTB, hx0, hx1, hx2, hx3, hx4⟩ := hcut
        obtain ⟨d0, d1, d2, d3, d4, d5, d6, d7⟩ := hTB.2.2.2.2.1
        have g0 := hTB.2.2.1
        have g1 := hTB.2.2.2.1
        have hb := HBB.out
        rw [hb] at hx2
        clear hb
        obtain ⟨s1, s2⟩ := R1
        by_cases hz1 : s2 = 0
        · subst hz1
          have h1 := fun W hb => (H1.out W hb).mono (fun e w' h => (⟨h.1.trans (if_pos rfl), h.2⟩ : e = .returned (agV s1) ∧ Below W.heap.size W w'))
          clear H1
          have H1 := Lib.hid h1
          clear h1
          have HT := Lib.hid (fun W (hb : TC w FA fn FC VA vn VC 10 (some ad) n c nm v W) => (show THeldK w FA fn FC VA vn VC 10 ad n c ⟨ad.block, ad.off + 8, none⟩ p1 A1 n1 c1 m1 y1 W from let q := HQ1.out W hb.1; ⟨hb.2.2.1, hb.2.2.2.1, hb.2.2.2.2.1, hb.2.2.2.2.2.1, q.1, q.2.1, q.2.2.1, q.2.2.2.1, q.2.2.2.2.1, q.2.2.2.2.2.1, q.2.2.2.2.2.2.1, q.2.2.2.2.2.2.2⟩))
          have HK1 := Lib.hid (fun (W W' : World) (h : (TC w FA fn FC VA vn VC 10 (some ad) n c nm v W ∧ THeldK w FA fn FC VA vn VC 10 ad n c ⟨ad.block, ad.off + 8, none⟩ p1 A1 n1 c1 m1 y1 W)) (hb : Below W.heap.size W W') => (show (TC w FA fn FC VA vn VC 10 (some ad) n c nm v W' ∧ THeldK w FA fn FC VA vn VC 10 ad n c ⟨ad.block, ad.off + 8, none⟩ p1 A1 n1 c1 m1 y1 W') from ⟨h.1.below2 (hb.mono h.1.2.1), HT.out _ (h.1.below2 (hb.mono h.1.2.1))⟩))
          have HKZ := Lib.hid (fun (W : World) (u0 u1 u2 u3 u4 : Value) (h : (TC w FA fn FC VA vn VC 10 (some ad) n c nm v W ∧ THeldK w FA fn FC VA vn VC 10 ad n c ⟨ad.block, ad.off + 8, none⟩ p1 A1 n1 c1 m1 y1 W)) => let hb := below_set5 (Below.refl (w.heap.size + 2) W) (show w.heap.size + 2 ≤ w.heap.size + 1 + 1 by omega) u0 u1 u2 u3 u4; (show (TC w FA fn FC VA vn VC 10 (some ad) n c nm v (((((W.setCell ⟨w.heap.size + 1 + 1, 0, none⟩ u0).setCell ⟨w.heap.size + 1 + 1, 1, none⟩ u1).setCell ⟨w.heap.size + 1 + 1, 2, none⟩ u2).setCell ⟨w.heap.size + 1 + 1, 3, none⟩ u3).setCell ⟨w.heap.size + 1 + 1, 4, none⟩ u4) ∧ THeldK w FA fn FC VA vn VC 10 ad n c ⟨ad.block, ad.off + 8, none⟩ p1 A1 n1 c1 m1 y1 (((((W.setCell ⟨w.heap.size + 1 + 1, 0, none⟩ u0).setCell ⟨w.heap.size + 1 + 1, 1, none⟩ u1).setCell ⟨w.heap.size + 1 + 1, 2, none⟩ u2).setCell ⟨w.heap.size + 1 + 1, 3, none⟩ u3).setCell ⟨w.heap.size + 1 + 1, 4, none⟩ u4)) from ⟨h.1.below2 hb, HT.out _ (h.1.below2 hb)⟩))
          have hS1 : (fun W => (TC w FA fn FC VA vn VC 10 (some ad) n c nm v W ∧ THeldK w FA fn FC VA vn VC 10 ad n c ⟨ad.block, ad.off + 8, none⟩ p1 A1 n1 c1 m1 y1 W)) wc.drew := ⟨hTB.tc.below2 (Below.refl _ _).drew, HT.out _ (hTB.tc.below2 (Below.refl _ _).drew)⟩
          have HTB := Lib.hid hTB
          go_wp2_with fail
          refine wp_region_held_drew (S := (fun W => (TC w FA fn FC VA vn VC 10 (some ad) n c nm v W ∧ THeldK w FA fn FC VA vn VC 10 ad n c ⟨ad.block, ad.off + 8, none⟩ p1 A1 n1 c1 m1 y1 W))) (by kernel_rfl) (hS1) (fun hHeld => ?_)
          refine tk 0 ?_
          (try simp only [Act.put, sA, sB, sC])
          refine tk 1 ?_
          (try simp only [Act.put, sA, sB, sC])
          refine tk 2 ?_
          (try simp only [Act.put, sA, sB, sC])
          refine tk 3 ?_
          (try simp only [Act.put, sA, sB, sC])
          refine tk 4 ?_
          (try simp only [Act.put, sA, sB, sC])
          refine wpAnyH_ready (rs := [5]) (by kernel_rfl) (by simp) ?_
          refine AllReadyH.cons (o := ?o63) ?g63 (fun K hK => ?j63) AllReadyH.nil
          case g63 => (simp only [gA, gB, gC]; rfl)
          go_simp
          refine (H1.out _ hHeld.1.1).mono ?_; rintro e w2 ⟨rfl, hb2⟩; obtain ⟨ou0, ou1, ou2, ou3, ou4, ov0, ov1, ov2, ov3, ov4, ovf⟩ := TB.out ((HTB.out.below (Below.refl _ _).drew).below hb2)
          refine hK.out _ _ ?_ (fun hHeld => ?_)
          · (try dsimp only); exact HK1.out _ _ hHeld hb2
          clear hK K
          (try simp only [Act.put, sA, sB, sC])
          refine wpAnyH_ready (rs := [6]) (by kernel_rfl) (by simp) ?_
          refine AllReadyH.cons (o := ?o64) ?g64 (fun K hK => ?j64) AllReadyH.nil
          case g64 => (simp only [gA, gB, gC]; rfl)
          go_simp
          refine hK.out _ _ ?_ (fun hHeld => ?_)
          · (try dsimp only); exact HKZ.out _ _ _ _ _ _ hHeld
          clear hK K
          (try simp only [Act.put, sA, sB, sC])
          refine wpAnyH_done (by kernel_rfl) ?_ _
          go_wp2_with fail
          exact bodyPost_ret (v := agV s1) (by simp [results, Tryz.results256, go_sem, ov0, ov1, ov2, ov3, ov4]) rfl ⟨rfl, TB.done ((HTB.out.below (Below.refl _ _).drew).below hb2) _ _ _ _ _⟩
        · have h1 := fun W hb => (H1.out W hb).mono (fun e w' h => (⟨h.1.trans (if_neg hz1), h.2⟩ : e = .panicked (PV s2) ∧ Below W.heap.size W w'))
          clear H1
          have H1 := Lib.hid h1
          have HZ1 := Lib.hid hz1
          clear h1 hz1
          have HT := Lib.hid (fun W (hb : TC w FA fn FC VA vn VC 10 (some ad) n c nm v W) => (show THeldK w FA fn FC VA vn VC 10 ad n c ⟨ad.block, ad.off + 8, none⟩ p1 A1 n1 c1 m1 y1 W from let q := HQ1.out W hb.1; ⟨hb.2.2.1, hb.2.2.2.1, hb.2.2.2.2.1, hb.2.2.2.2.2.1, q.1, q.2.1, q.2.2.1, q.2.2.2.1, q.2.2.2.2.1, q.2.2.2.2.2.1, q.2.2.2.2.2.2.1, q.2.2.2.2.2.2.2⟩))
          have HK1 := Lib.hid (fun (W W' : World) (h : (TC w FA fn FC VA vn VC 10 (some ad) n c nm v W ∧ THeldK w FA fn FC VA vn VC 10 ad n c ⟨ad.block, ad.off + 8, none⟩ p1 A1 n1 c1 m1 y1 W)) (hb : Below W.heap.size W W') => (show (TC w FA fn FC VA vn VC 10 (some ad) n c nm v W' ∧ THeldK w FA fn FC VA vn VC 10 ad n c ⟨ad.block, ad.off + 8, none⟩ p1 A1 n1 c1 m1 y1 W') from ⟨h.1.below2 (hb.mono h.1.2.1), HT.out _ (h.1.below2 (hb.mono h.1.2.1))⟩))
          have HKZ := Lib.hid (fun (W : World) (u0 u1 u2 u3 u4 : Value) (h : (TC w FA fn FC VA vn VC 10 (some ad) n c nm v W ∧ THeldK w FA fn FC VA vn VC 10 ad n c ⟨ad.block, ad.off + 8, none⟩ p1 A1 n1 c1 m1 y1 W)) => let hb := below_set5 (Below.refl (w.heap.size + 2) W) (show w.heap.size + 2 ≤ w.heap.size + 1 + 1 by omega) u0 u1 u2 u3 u4; (show (TC w FA fn FC VA vn VC 10 (some ad) n c nm v (((((W.setCell ⟨w.heap.size + 1 + 1, 0, none⟩ u0).setCell ⟨w.heap.size + 1 + 1, 1, none⟩ u1).setCell ⟨w.heap.size + 1 + 1, 2, none⟩ u2).setCell ⟨w.heap.size + 1 + 1, 3, none⟩ u3).setCell ⟨w.heap.size + 1 + 1, 4, none⟩ u4) ∧ THeldK w FA fn FC VA vn VC 10 ad n c ⟨ad.block, ad.off + 8, none⟩ p1 A1 n1 c1 m1 y1 (((((W.setCell ⟨w.heap.size + 1 + 1, 0, none⟩ u0).setCell ⟨w.heap.size + 1 + 1, 1, none⟩ u1).setCell ⟨w.heap.size + 1 + 1, 2, none⟩ u2).setCell ⟨w.heap.size + 1 + 1, 3, none⟩ u3).setCell ⟨w.heap.size + 1 + 1, 4, none⟩ u4)) from ⟨h.1.below2 hb, HT.out _ (h.1.below2 hb)⟩))
          have hS1 : (fun W => (TC w FA fn FC VA vn VC 10 (some ad) n c nm v W ∧ THeldK w FA fn FC VA vn VC 10 ad n c ⟨ad.block, ad.off + 8, none⟩ p1 A1 n1 c1 m1 y1 W)) wc.drew := ⟨hTB.tc.below2 (Below.refl _ _).drew, HT.out _ (hTB.tc.below2 (Below.refl _ _).drew)⟩
          have HTB := Lib.hid hTB
          go_wp2_with fail
          refine wp_region_held_drew (S := (fun W => (TC w FA fn FC VA vn VC 10 (some ad) n c nm v W ∧ THeldK w FA fn FC VA vn VC 10 ad n c ⟨ad.block, ad.off + 8, none⟩ p1 A1 n1 c1 m1 y1 W))) (by kernel_rfl) (hS1) (fun hHeld => ?_)
          refine tk 0 ?_
          (try simp only [Act.put, sA, sB, sC])
          refine tk 1 ?_
          (try simp only [Act.put, sA, sB, sC])
          refine tk 2 ?_
          (try simp only [Act.put, sA, sB, sC])
          refine tk 3 ?_
          (try simp only [Act.put, sA, sB, sC])
          refine tk 4 ?_
          (try simp only [Act.put, sA, sB, sC])
          refine wpAnyH_ready (rs := [5]) (by kernel_rfl) (by simp) ?_
          refine AllReadyH.cons (o := ?o70) ?g70 (fun K hK => ?j70) AllReadyH.nil
          case g70 => (simp only [gA, gB, gC]; rfl)
          go_simp
          refine (H1.out _ hHeld.1.1).mono ?_; rintro e w2 ⟨rfl, hb2⟩
          exact ⟨rfl, (if_neg HZ1.out).symm, ((HTB.out.below (Below.refl _ _).drew).below hb2).1⟩
  · have h0 := fun W hb => (H0.out W hb).mono (fun e w' h => (⟨h.1.trans (if_neg hz), h.2⟩ : e = .panicked (PV r2) ∧ Below W.heap.size W w'))
    clear H0
    have H0 := Lib.hid h0
    have HZ := Lib.hid hz
    rw [if_pos hz]
    clear h0 hv0 hz
    have htb : TB w FA fn FC VA vn VC 10 (some ad) n c nm v (((w.alloc (.cells #[.slice FA fn FC, .slice VA vn VC] 247)).alloc (.cells #[.int .i64 10, .slice (some ad) n c, .string nm, .int .i64 v.k, .int .i64 v.i, .bool v.b, .string v.s, .float .f64 v.n] 77)).alloc (.cells #[.int .i64 0, .int .i64 0, .bool false, .string { data := #[] }, .float .f64 0] 55)) := TB_new w FA fn FC VA vn VC 10 (some ad) n c nm v
    have HHELD := Lib.hid (fun W (hb : TB w FA fn FC VA vn VC 10 (some ad) n c nm v W) => (show THeld w FA fn FC VA vn VC ad n c p0 A0 n0 c0 m0 y0 W from let q := hq0 W hb.1; ⟨hb.2.2.1, hb.2.2.2.1, hb.2.2.2.2.1.2.1, q.1, q.2.1, q.2.2.1, q.2.2.2.1, q.2.2.2.2.1, q.2.2.2.2.2.1, q.2.2.2.2.2.2.1, q.2.2.2.2.2.2.2⟩))
    clear hq0
    have HKP := Lib.hid (fun (W W' : World) (h : TB w FA fn FC VA vn VC 10 (some ad) n c nm v W ∧ THeld w FA fn FC VA vn VC ad n c p0 A0 n0 c0 m0 y0 W) (hb : Below W.heap.size W W') => And.intro (h.1.below hb) (HHELD.out _ (h.1.below hb)))
    have HKS := Lib.hid (fun (W : World) (b : Nat) (u0 u1 u2 u3 u4 : Value) (hge : w.heap.size + 3 ≤ b) (h : TB w FA fn FC VA vn VC 10 (some ad) n c nm v W ∧ THeld w FA fn FC VA vn VC ad n c p0 A0 n0 c0 m0 y0 W) => let hb := below_set5 (Below.refl (w.heap.size + 3) W) hge u0 u1 u2 u3 u4; And.intro (h.1.below3 hb) (HHELD.out _ (h.1.below3 hb)))
    go_enter Tryz.func256, Tryz.ntmps256
    go_upto_region 6 with fail
    generalize ((w.alloc (.cells #[.slice FA fn FC, .slice VA vn VC] 247)).alloc (.cells #[.int .i64 10, .slice (some ad) n c, .string nm, .int .i64 v.k, .int .i64 v.i, .bool v.b, .string v.s, .float .f64 v.n] 77)).alloc (.cells #[.int .i64 0, .int .i64 0, .bool false, .string { data := #[] }, .float .f64 0] 55) = wb at *
    have hS0 : TB w FA fn FC VA vn VC 10 (some ad) n c nm v wb.drew ∧ THeld w FA fn FC VA vn VC ad n c p0 A0 n0 c0 m0 y0 wb.drew := ⟨htb.below (Below.refl _ _).drew, HHELD.out _ (htb.below (Below.refl _ _).drew)⟩
    refine wp_region_held_drew (S := (fun W => TB w FA fn FC VA vn VC 10 (some ad) n c nm v W ∧ THeld w FA fn FC VA vn VC ad n c p0 A0 n0 c0 m0 y0 W)) (by kernel_rfl) (hS0) (fun hHeld => ?_)
    refine tk 0 ?_
    (try simp only [Act.put, sA, sB, sC])
    refine tk 1 ?_
    (try simp only [Act.put, sA, sB, sC])
    refine tk 2 ?_
    (try simp only [Act.put, sA, sB, sC])
    refine tk 3 ?_
    (try simp only [Act.put, sA, sB, sC])
    refine tk 4 ?_
    (try simp only [Act.put, sA, sB, sC])
    refine wpAnyH_ready (rs := [5, 6]) (by kernel_rfl) (by simp) ?_
    refine AllReadyH.cons (o := ?o98) ?g98 (fun K hK => ?j98) (AllReadyH.cons (o := ?o99) ?g99 (fun K hK => ?j99) AllReadyH.nil)
    case g98 => (simp only [gA, gB, gC]; rfl)
    case g99 => (simp only [gA, gB, gC]; rfl)
    · go_simp
      refine (H0.out _ (And.left (And.left hHeld))).mono ?_; rintro e wA ⟨rfl, hbA⟩
      exact ⟨rfl, (if_neg HZ.out).symm, (And.left (And.left hHeld)).trans (hbA.mono (And.left (And.left hHeld)).size)⟩
    · go_simp
      refine hK.out _ _ ?_ (fun hHeld => ?_)
      · (try dsimp only); exact HKP.out _ _ hS0 (alloc1 _ _)
      clear hK K
      (try simp only [Act.put, sA, sB, sC])
      refine wpAnyH_ready (rs := [5]) (by kernel_rfl) (by simp) ?_
      refine AllReadyH.cons (o := ?o100) ?g100 (fun K hK => ?j100) AllReadyH.nil
      case g100 => (simp only [gA, gB, gC]; rfl)
      go_simp
      refine (H0.out _ (And.left (And.left hHeld))).mono ?_; rintro e wA ⟨rfl, hbA⟩
      exact ⟨rfl, (if_neg HZ.out).symm, (And.left (And.left hHeld)).trans (hbA.mono (And.left (And.left hHeld)).size)⟩
set_option maxHeartbeats 600000 in
theorem tell_11 (FA : Option Addr) (fn FC : Nat) (VA : Option Addr) (vn VC : Nat) (ad : Addr) (n c : Nat) (nm : ByteArray) (v : Vl) (w : World) (A0 : Option Addr) (n0 c0 : Nat) (m0 : ByteArray) (y0 : Vl) (p0 : Int) (R0 : Vl × Int) (hq0 : ∀ W, Below w.heap.size w W → Kid W ad p0 A0 n0 c0 m0 y0) (h0 : ∀ W, Below w.heap.size w W → Calls Tryz.prog 256 #[agR FA fn FC VA vn VC, agX p0 A0 n0 c0 m0 y0] W (TellP R0 W)) (hv0 : R0.2 = 0 → okV R0.1) (A1 : Option Addr) (n1 c1 : Nat) (m1 : ByteArray) (y1 : Vl) (p1 : Int) (R1 : Vl × Int) (hq1 : ∀ W, Below w.heap.size w W → Kid W ⟨ad.block, ad.off + 8, none⟩ p1 A1 n1 c1 m1 y1) (h1 : ∀ W, Below w.heap.size w W → Calls Tryz.prog 256 #[agR FA fn FC VA vn VC, agX p1 A1 n1 c1 m1 y1] W (TellP R1 W)) (hv1 : R1.2 = 0 → okV R1.1) (hn : 1 < n) :
    Calls Tryz.prog 256 #[agR FA fn FC VA vn VC, agX 11 (some ad) n c nm v] w (TellP (if R0.2 ≠ 0 then (vZero, R0.2) else (if R0.1.b = true then (R0.1, 0) else R1)) w) := by
  have hi1 : (1 : Int) < (n : Int) := by omega
  have hsf := fun (w : World) (a : Addr) (m : Mode) (b : Nat) => run_store Tryz.prog w a (.float .f64 b) m rfl
  have hi : (0 : Int) < (n : Int) := by omega
  have hn0 : 0 < n := by omega
  have HQ1 := Lib.hid hq1
  have H1 := Lib.hid h1
  clear hq1 h1 hv1
  obtain ⟨r1, r2⟩ := R0
  have H0 := Lib.hid h0
  clear h0
  by_cases hz : r2 = 0
  · subst hz
    rw [if_neg (fun h => h rfl)]
    have h0 := fun W hb => (H0.out W hb).mono (fun e w' h => (⟨h.1.trans (if_pos rfl), h.2⟩ : e = .returned (agV r1) ∧ Below W.heap.size W w'))
    clear H0
    have H0 := Lib.hid h0
    clear h0 hv0
    rcases hb : r1.b with _ | _
    · rw [if_neg (by decide)]
      have HBB := Lib.hid hb
      clear hb
      have htb : TB w FA fn FC VA vn VC 11 (some ad) n c nm v (((w.alloc (.cells #[.slice FA fn FC, .slice VA vn VC] 247)).alloc (.cells #[.int .i64 11, .slice (some ad) n c, .string nm, .int .i64 v.k, .int .i64 v.i, .bool v.b, .string v.s, .float .f64 v.n] 77)).alloc (.cells #[.int .i64 0, .int .i64 0, .bool false, .string { data := #[] }, .float .f64 0] 55)) := TB_new w FA fn FC VA vn VC 11 (some ad) n c nm v
      have HHELD := Lib.hid (fun W (hb : TB w FA fn FC VA vn VC 11 (some ad) n c nm v W) => (show THeld w FA fn FC VA vn VC ad n c p0 A0 n0 c0 m0 y0 W from let q := hq0 W hb.1; ⟨hb.2.2.1, hb.2.2.2.1, hb.2.2.2.2.1.2.1, q.1, q.2.1, q.2.2.1, q.2.2.2.1, q.2.2.2.2.1, q.2.2.2.2.2.1, q.2.2.2.2.2.2.1, q.2.2.2.2.2.2.2⟩))
      clear hq0
      have HKP := Lib.hid (fun (W W' : World) (h : TB w FA fn FC VA vn VC 11 (some ad) n c nm v W ∧ THeld w FA fn FC VA vn VC ad n c p0 A0 n0 c0 m0 y0 W) (hb : Below W.heap.size W W') => And.intro (h.1.below hb) (HHELD.out _ (h.1.below hb)))
      have HKS := Lib.hid (fun (W : World) (b : Nat) (u0 u1 u2 u3 u4 : Value) (hge : w.heap.size + 3 ≤ b) (h : TB w FA fn FC VA vn VC 11 (some ad) n c nm v W ∧ THeld w FA fn FC VA vn VC ad n c p0 A0 n0 c0 m0 y0 W) => let hb := below_set5 (Below.refl (w.heap.size + 3) W) hge u0 u1 u2 u3 u4; And.intro (h.1.below3 hb) (HHELD.out _ (h.1.below3 hb)))
      go_enter Tryz.func256, Tryz.ntmps256
      go_upto_region 6 with fail
      generalize ((w.alloc (.cells #[.slice FA fn FC, .slice VA vn VC] 247)).alloc (.cells #[.int .i64 11, .slice (some ad) n c, .string nm, .int .i64 v.k, .int .i64 v.i, .bool v.b, .string v.s, .float .f64 v.n] 77)).alloc (.cells #[.int .i64 0, .int .i64 0, .bool false, .string { data := #[] }, .float .f64 0] 55) = wb at *
      go_cut [5] from 23 to 28 (fun s5 wx => ∃ b, s5 = .pointer (some ⟨b, 0, none⟩) ∧ w.heap.size + 3 ≤ b ∧ TB w FA fn FC VA vn VC 11 (some ad) n c nm v wx ∧ Bx wx b r1)
      case first =>
        have hS0 : TB w FA fn FC VA vn VC 11 (some ad) n c nm v wb.drew ∧ THeld w FA fn FC VA vn VC ad n c p0 A0 n0 c0 m0 y0 wb.drew := ⟨htb.below (Below.refl _ _).drew, HHELD.out _ (htb.below (Below.refl _ _).drew)⟩
        refine wp_region_held_drew (S := (fun W => TB w FA fn FC VA vn VC 11 (some ad) n c nm v W ∧ THeld w FA fn FC VA vn VC ad n c p0 A0 n0 c0 m0 y0 W)) (by kernel_rfl) (hS0) (fun hHeld => ?_)
        refine tk 0 ?_
        (try simp only [Act.put, sA, sB, sC])
        refine tk 1 ?_
        (try simp only [Act.put, sA, sB, sC])
        refine tk 2 ?_
        (try simp only [Act.put, sA, sB, sC])
        refine tk 3 ?_
        (try simp only [Act.put, sA, sB, sC])
        refine tk 4 ?_
        (try simp only [Act.put, sA, sB, sC])
        refine wpAnyH_ready (rs := [5, 6]) (by kernel_rfl) (by simp) ?_
        refine AllReadyH.cons (o := ?o119) ?g119 (fun K hK => ?j119) (AllReadyH.cons (o := ?o120) ?g120 (fun K hK => ?j120) AllReadyH.nil)
        case g119 => (simp only [gA, gB, gC]; rfl)
        case g120 => (simp only [gA, gB, gC]; rfl)
        · go_simp
          refine (H0.out _ (And.left (And.left hHeld))).mono ?_; rintro e wA ⟨rfl, hbA⟩; have hSA := HKP.out _ _ hHeld hbA
          refine hK.out _ _ ?_ (fun hHeld => ?_)
          · (try dsimp only); exact hSA
          clear hK K
          (try simp only [Act.put, sA, sB, sC])
          refine wpAnyH_ready (rs := [6]) (by kernel_rfl) (by simp) ?_
          refine AllReadyH.cons (o := ?o121) ?g121 (fun K hK => ?j121) AllReadyH.nil
          case g121 => (simp only [gA, gB, gC]; rfl)
          go_simp
          refine hK.out _ _ ?_ (fun hHeld => ?_)
          · (try dsimp only); exact HKP.out _ _ hSA (alloc1 _ _)
          clear hK K
          (try simp only [Act.put, sA, sB, sC])
          refine wpAnyH_ready (rs := [7]) (by kernel_rfl) (by simp) ?_
          refine AllReadyH.cons (o := ?o122) ?g122 (fun K hK => ?j122) AllReadyH.nil
          case g122 => (simp only [gA, gB, gC]; rfl)
          go_simp
          refine hK.out _ _ ?_ (fun hHeld => ?_)
          · (try dsimp only); exact HKP.out _ _ hSA (alloc1 _ _)
          clear hK K
          (try simp only [Act.put, sA, sB, sC])
          refine wpAnyH_done (by kernel_rfl) ?_ _
          go_wp2_with fail
          go_meet
          exact ⟨_, rfl, hSA.1.2.1, hHeld.1, Bx.new _ r1⟩
        · go_simp
          refine hK.out _ _ ?_ (fun hHeld => ?_)
          · (try dsimp only); exact HKP.out _ _ hS0 (alloc1 _ _)
          clear hK K
          (try simp only [Act.put, sA, sB, sC])
          refine wpAnyH_ready (rs := [5]) (by kernel_rfl) (by simp) ?_
          refine AllReadyH.cons (o := ?o123) ?g123 (fun K hK => ?j123) AllReadyH.nil
          case g123 => (simp only [gA, gB, gC]; rfl)
          go_simp
          refine (H0.out _ (And.left (And.left hHeld))).mono ?_; rintro e wA ⟨rfl, hbA⟩; have hSA := HKP.out _ _ hHeld hbA; obtain ⟨e0, e1, e2, e3, e4, ef⟩ := newcells hbA
          refine hK.out _ _ ?_ (fun hHeld => ?_)
          · (try dsimp only); exact hSA
          clear hK K
          (try simp only [Act.put, sA, sB, sC])
          refine wpAnyH_ready (rs := [7]) (by kernel_rfl) (by simp) ?_
          refine AllReadyH.cons (o := ?o124) ?g124 (fun K hK => ?j124) AllReadyH.nil
          case g124 => (simp only [gA, gB, gC]; rfl)
          go_simp
          refine hK.out _ _ ?_ (fun hHeld => ?_)
          · (try dsimp only); exact HKS.out _ _ _ _ _ _ _ htb.2.1 hSA
          clear hK K
          (try simp only [Act.put, sA, sB, sC])
          refine wpAnyH_done (by kernel_rfl) ?_ _
          go_wp2_with fail
          go_meet
          exact ⟨_, rfl, htb.2.1, hHeld.1, bx_set e0 e1 e2 e3 e4⟩
      case rest =>
        clear htb HHELD HKP HKS
        obtain ⟨b, rfl, hbge, hTB, hx0, hx1, hx2, hx3, hx4⟩ := hcut
        obtain ⟨d0, d1, d2, d3, d4, d5, d6, d7⟩ := hTB.2.2.2.2.1
        have g0 := hTB.2.2.1
        have g1 := hTB.2.2.2.1
        have hb := HBB.out
        rw [hb] at hx2
        clear hb
        obtain ⟨s1, s2⟩ := R1
        by_cases hz1 : s2 = 0
        · subst hz1
          have h1 := fun W hb => (H1.out W hb).mono (fun e w' h => (⟨h.1.trans (if_pos rfl), h.2⟩ : e = .returned (agV s1) ∧ Below W.heap.size W w'))
          clear H1
          have H1 := Lib.hid h1
          clear h1
          have HT := Lib.hid (fun W (hb : TC w FA fn FC VA vn VC 11 (some ad) n c nm v W) => (show THeldK w FA fn FC VA vn VC 11 ad n c ⟨ad.block, ad.off + 8, none⟩ p1 A1 n1 c1 m1 y1 W from let q := HQ1.out W hb.1; ⟨hb.2.2.1, hb.2.2.2.1, hb.2.2.2.2.1, hb.2.2.2.2.2.1, q.1, q.2.1, q.2.2.1, q.2.2.2.1, q.2.2.2.2.1, q.2.2.2.2.2.1, q.2.2.2.2.2.2.1, q.2.2.2.2.2.2.2⟩))
          have HK1 := Lib.hid (fun (W W' : World) (h : (TC w FA fn FC VA vn VC 11 (some ad) n c nm v W ∧ THeldK w FA fn FC VA vn VC 11 ad n c ⟨ad.block, ad.off + 8, none⟩ p1 A1 n1 c1 m1 y1 W)) (hb : Below W.heap.size W W') => (show (TC w FA fn FC VA vn VC 11 (some ad) n c nm v W' ∧ THeldK w FA fn FC VA vn VC 11 ad n c ⟨ad.block, ad.off + 8, none⟩ p1 A1 n1 c1 m1 y1 W') from ⟨h.1.below2 (hb.mono h.1.2.1), HT.out _ (h.1.below2 (hb.mono h.1.2.1))⟩))
          have HKZ := Lib.hid (fun (W : World) (u0 u1 u2 u3 u4 : Value) (h : (TC w FA fn FC VA vn VC 11 (some ad) n c nm v W ∧ THeldK w FA fn FC VA vn VC 11 ad n c ⟨ad.block, ad.off + 8, none⟩ p1 A1 n1 c1 m1 y1 W)) => let hb := below_set5 (Below.refl (w.heap.size + 2) W) (show w.heap.size + 2 ≤ w.heap.size + 1 + 1 by omega) u0 u1 u2 u3 u4; (show (TC w FA fn FC VA vn VC 11 (some ad) n c nm v (((((W.setCell ⟨w.heap.size + 1 + 1, 0, none⟩ u0).setCell ⟨w.heap.size + 1 + 1, 1, none⟩ u1).setCell ⟨w.heap.size + 1 + 1, 2, none⟩ u2).setCell ⟨w.heap.size + 1 + 1, 3, none⟩ u3).setCell ⟨w.heap.size + 1 + 1, 4, none⟩ u4) ∧ THeldK w FA fn FC VA vn VC 11 ad n c ⟨ad.block, ad.off + 8, none⟩ p1 A1 n1 c1 m1 y1 (((((W.setCell ⟨w.heap.size + 1 + 1, 0, none⟩ u0).setCell ⟨w.heap.size + 1 + 1, 1, none⟩ u1).setCell ⟨w.heap.size + 1 + 1, 2, none⟩ u2).setCell ⟨w.heap.size + 1 + 1, 3, none⟩ u3).setCell ⟨w.heap.size + 1 + 1, 4, none⟩ u4)) from ⟨h.1.below2 hb, HT.out _ (h.1.below2 hb)⟩))
          have hS1 : (fun W => (TC w FA fn FC VA vn VC 11 (some ad) n c nm v W ∧ THeldK w FA fn FC VA vn VC 11 ad n c ⟨ad.block, ad.off + 8, none⟩ p1 A1 n1 c1 m1 y1 W)) wc.drew := ⟨hTB.tc.below2 (Below.refl _ _).drew, HT.out _ (hTB.tc.below2 (Below.refl _ _).drew)⟩
          have HTB := Lib.hid hTB
          go_wp2_with fail
          refine wp_region_held_drew (S := (fun W => (TC w FA fn FC VA vn VC 11 (some ad) n c nm v W ∧ THeldK w FA fn FC VA vn VC 11 ad n c ⟨ad.block, ad.off + 8, none⟩ p1 A1 n1 c1 m1 y1 W))) (by kernel_rfl) (hS1) (fun hHeld => ?_)
          refine tk 0 ?_
          (try simp only [Act.put, sA, sB, sC])
          refine tk 1 ?_
          (try simp only [Act.put, sA, sB, sC])
          refine tk 2 ?_
          (try simp only [Act.put, sA, sB, sC])
          refine tk 3 ?_
          (try simp only [Act.put, sA, sB, sC])
          refine tk 4 ?_
          (try simp only [Act.put, sA, sB, sC])
          refine wpAnyH_ready (rs := [5]) (by kernel_rfl) (by simp) ?_
          refine AllReadyH.cons (o := ?o106) ?g106 (fun K hK => ?j106) AllReadyH.nil
          case g106 => (simp only [gA, gB, gC]; rfl)
          go_simp
          refine (H1.out _ hHeld.1.1).mono ?_; rintro e w2 ⟨rfl, hb2⟩; obtain ⟨ou0, ou1, ou2, ou3, ou4, ov0, ov1, ov2, ov3, ov4, ovf⟩ := TB.out ((HTB.out.below (Below.refl _ _).drew).below hb2)
          refine hK.out _ _ ?_ (fun hHeld => ?_)
          · (try dsimp only); exact HK1.out _ _ hHeld hb2
          clear hK K
          (try simp only [Act.put, sA, sB, sC])
          refine wpAnyH_ready (rs := [6]) (by kernel_rfl) (by simp) ?_
          refine AllReadyH.cons (o := ?o107) ?g107 (fun K hK => ?j107) AllReadyH.nil
          case g107 => (simp only [gA, gB, gC]; rfl)
          go_simp
          refine hK.out _ _ ?_ (fun hHeld => ?_)
          · (try dsimp only); exact HKZ.out _ _ _ _ _ _ hHeld
          clear hK K
          (try simp only [Act.put, sA, sB, sC])
          refine wpAnyH_done (by kernel_rfl) ?_ _
          go_wp2_with fail
          exact bodyPost_ret (v := agV s1) (by simp [results, Tryz.results256, go_sem, ov0, ov1, ov2, ov3, ov4]) rfl ⟨rfl, TB.done ((HTB.out.below (Below.refl _ _).drew).below hb2) _ _ _ _ _⟩
        · have h1 := fun W hb => (H1.out W hb).mono (fun e w' h => (⟨h.1.trans (if_neg hz1), h.2⟩ : e = .panicked (PV s2) ∧ Below W.heap.size W w'))
          clear H1
          have H1 := Lib.hid h1
          have HZ1 := Lib.hid hz1
          clear h1 hz1
          have HT := Lib.hid (fun W (hb : TC w FA fn FC VA vn VC 11 (some ad) n c nm v W) => (show THeldK w FA fn FC VA vn VC 11 ad n c ⟨ad.block, ad.off + 8, none⟩ p1 A1 n1 c1 m1 y1 W from let q := HQ1.out W hb.1; ⟨hb.2.2.1, hb.2.2.2.1, hb.2.2.2.2.1, hb.2.2.2.2.2.1, q.1, q.2.1, q.2.2.1, q.2.2.2.1, q.2.2.2.2.1, q.2.2.2.2.2.1, q.2.2.2.2.2.2.1, q.2.2.2.2.2.2.2⟩))
          have HK1 := Lib.hid (fun (W W' : World) (h : (TC w FA fn FC VA vn VC 11 (some ad) n c nm v W ∧ THeldK w FA fn FC VA vn VC 11 ad n c ⟨ad.block, ad.off + 8, none⟩ p1 A1 n1 c1 m1 y1 W)) (hb : Below W.heap.size W W') => (show (TC w FA fn FC VA vn VC 11 (some ad) n c nm v W' ∧ THeldK w FA fn FC VA vn VC 11 ad n c ⟨ad.block, ad.off + 8, none⟩ p1 A1 n1 c1 m1 y1 W') from ⟨h.1.below2 (hb.mono h.1.2.1), HT.out _ (h.1.below2 (hb.mono h.1.2.1))⟩))
          have HKZ := Lib.hid (fun (W : World) (u0 u1 u2 u3 u4 : Value) (h : (TC w FA fn FC VA vn VC 11 (some ad) n c nm v W ∧ THeldK w FA fn FC VA vn VC 11 ad n c ⟨ad.block, ad.off + 8, none⟩ p1 A1 n1 c1 m1 y1 W)) => let hb := below_set5 (Below.refl (w.heap.size + 2) W) (show w.heap.size + 2 ≤ w.heap.size + 1 + 1 by omega) u0 u1 u2 u3 u4; (show (TC w FA fn FC VA vn VC 11 (some ad) n c nm v (((((W.setCell ⟨w.heap.size + 1 + 1, 0, none⟩ u0).setCell ⟨w.heap.size + 1 + 1, 1, none⟩ u1).setCell ⟨w.heap.size + 1 + 1, 2, none⟩ u2).setCell ⟨w.heap.size + 1 + 1, 3, none⟩ u3).setCell ⟨w.heap.size + 1 + 1, 4, none⟩ u4) ∧ THeldK w FA fn FC VA vn VC 11 ad n c ⟨ad.block, ad.off + 8, none⟩ p1 A1 n1 c1 m1 y1 (((((W.setCell ⟨w.heap.size + 1 + 1, 0, none⟩ u0).setCell ⟨w.heap.size + 1 + 1, 1, none⟩ u1).setCell ⟨w.heap.size + 1 + 1, 2, none⟩ u2).setCell ⟨w.heap.size + 1 + 1, 3, none⟩ u3).setCell ⟨w.heap.size + 1 + 1, 4, none⟩ u4)) from ⟨h.1.below2 hb, HT.out _ (h.1.below2 hb)⟩))
          have hS1 : (fun W => (TC w FA fn FC VA vn VC 11 (some ad) n c nm v W ∧ THeldK w FA fn FC VA vn VC 11 ad n c ⟨ad.block, ad.off + 8, none⟩ p1 A1 n1 c1 m1 y1 W)) wc.drew := ⟨hTB.tc.below2 (Below.refl _ _).drew, HT.out _ (hTB.tc.below2 (Below.refl _ _).drew)⟩
          have HTB := Lib.hid hTB
          go_wp2_with fail
          refine wp_region_held_drew (S := (fun W => (TC w FA fn FC VA vn VC 11 (some ad) n c nm v W ∧ THeldK w FA fn FC VA vn VC 11 ad n c ⟨ad.block, ad.off + 8, none⟩ p1 A1 n1 c1 m1 y1 W))) (by kernel_rfl) (hS1) (fun hHeld => ?_)
          refine tk 0 ?_
          (try simp only [Act.put, sA, sB, sC])
          refine tk 1 ?_
          (try simp only [Act.put, sA, sB, sC])
          refine tk 2 ?_
          (try simp only [Act.put, sA, sB, sC])
          refine tk 3 ?_
          (try simp only [Act.put, sA, sB, sC])
          refine tk 4 ?_
          (try simp only [Act.put, sA, sB, sC])
          refine wpAnyH_ready (rs := [5]) (by kernel_rfl) (by simp) ?_
          refine AllReadyH.cons (o := ?o113) ?g113 (fun K hK => ?j113) AllReadyH.nil
          case g113 => (simp only [gA, gB, gC]; rfl)
          go_simp
          refine (H1.out _ hHeld.1.1).mono ?_; rintro e w2 ⟨rfl, hb2⟩
          exact ⟨rfl, (if_neg HZ1.out).symm, ((HTB.out.below (Below.refl _ _).drew).below hb2).1⟩
    · rw [if_pos rfl]
      have HBB := Lib.hid hb
      clear hb
      have htb : TB w FA fn FC VA vn VC 11 (some ad) n c nm v (((w.alloc (.cells #[.slice FA fn FC, .slice VA vn VC] 247)).alloc (.cells #[.int .i64 11, .slice (some ad) n c, .string nm, .int .i64 v.k, .int .i64 v.i, .bool v.b, .string v.s, .float .f64 v.n] 77)).alloc (.cells #[.int .i64 0, .int .i64 0, .bool false, .string { data := #[] }, .float .f64 0] 55)) := TB_new w FA fn FC VA vn VC 11 (some ad) n c nm v
      have HHELD := Lib.hid (fun W (hb : TB w FA fn FC VA vn VC 11 (some ad) n c nm v W) => (show THeld w FA fn FC VA vn VC ad n c p0 A0 n0 c0 m0 y0 W from let q := hq0 W hb.1; ⟨hb.2.2.1, hb.2.2.2.1, hb.2.2.2.2.1.2.1, q.1, q.2.1, q.2.2.1, q.2.2.2.1, q.2.2.2.2.1, q.2.2.2.2.2.1, q.2.2.2.2.2.2.1, q.2.2.2.2.2.2.2⟩))
      clear hq0
      have HKP := Lib.hid (fun (W W' : World) (h : TB w FA fn FC VA vn VC 11 (some ad) n c nm v W ∧ THeld w FA fn FC VA vn VC ad n c p0 A0 n0 c0 m0 y0 W) (hb : Below W.heap.size W W') => And.intro (h.1.below hb) (HHELD.out _ (h.1.below hb)))
      have HKS := Lib.hid (fun (W : World) (b : Nat) (u0 u1 u2 u3 u4 : Value) (hge : w.heap.size + 3 ≤ b) (h : TB w FA fn FC VA vn VC 11 (some ad) n c nm v W ∧ THeld w FA fn FC VA vn VC ad n c p0 A0 n0 c0 m0 y0 W) => let hb := below_set5 (Below.refl (w.heap.size + 3) W) hge u0 u1 u2 u3 u4; And.intro (h.1.below3 hb) (HHELD.out _ (h.1.below3 hb)))
      go_enter Tryz.func256, Tryz.ntmps256
      go_upto_region 6 with fail
      generalize ((w.alloc (.cells #[.slice FA fn FC, .slice VA vn VC] 247)).alloc (.cells #[.int .i64 11, .slice (some ad) n c, .string nm, .int .i64 v.k, .int .i64 v.i, .bool v.b, .string v.s, .float .f64 v.n] 77)).alloc (.cells #[.int .i64 0, .int .i64 0, .bool false, .string { data := #[] }, .float .f64 0] 55) = wb at *
      go_cut [5] from 23 to 28 (fun s5 wx => ∃ b, s5 = .pointer (some ⟨b, 0, none⟩) ∧ w.heap.size + 3 ≤ b ∧ TB w FA fn FC VA vn VC 11 (some ad) n c nm v wx ∧ Bx wx b r1)
      case first =>
        have hS0 : TB w FA fn FC VA vn VC 11 (some ad) n c nm v wb.drew ∧ THeld w FA fn FC VA vn VC ad n c p0 A0 n0 c0 m0 y0 wb.drew := ⟨htb.below (Below.refl _ _).drew, HHELD.out _ (htb.below (Below.refl _ _).drew)⟩
        refine wp_region_held_drew (S := (fun W => TB w FA fn FC VA vn VC 11 (some ad) n c nm v W ∧ THeld w FA fn FC VA vn VC ad n c p0 A0 n0 c0 m0 y0 W)) (by kernel_rfl) (hS0) (fun hHeld => ?_)
        refine tk 0 ?_
        (try simp only [Act.put, sA, sB, sC])
        refine tk 1 ?_
        (try simp only [Act.put, sA, sB, sC])
        refine tk 2 ?_
        (try simp only [Act.put, sA, sB, sC])
        refine tk 3 ?_
        (try simp only [Act.put, sA, sB, sC])
        refine tk 4 ?_
        (try simp only [Act.put, sA, sB, sC])
        refine wpAnyH_ready (rs := [5, 6]) (by kernel_rfl) (by simp) ?_
        refine AllReadyH.cons (o := ?o130) ?g130 (fun K hK => ?j130) (AllReadyH.cons (o := ?o131) ?g131 (fun K hK => ?j131) AllReadyH.nil)
        case g130 => (simp only [gA, gB, gC]; rfl)
        case g131 => (simp only [gA, gB, gC]; rfl)
        · go_simp
          refine (H0.out _ (And.left (And.left hHeld))).mono ?_; rintro e wA ⟨rfl, hbA⟩; have hSA := HKP.out _ _ hHeld hbA
          refine hK.out _ _ ?_ (fun hHeld => ?_)
          · (try dsimp only); exact hSA
          clear hK K
          (try simp only [Act.put, sA, sB, sC])
          refine wpAnyH_ready (rs := [6]) (by kernel_rfl) (by simp) ?_
          refine AllReadyH.cons (o := ?o132) ?g132 (fun K hK => ?j132) AllReadyH.nil
          case g132 => (simp only [gA, gB, gC]; rfl)
          go_simp
          refine hK.out _ _ ?_ (fun hHeld => ?_)
          · (try dsimp only); exact HKP.out _ _ hSA (alloc1 _ _)
          clear hK K
          (try simp only [Act.put, sA, sB, sC])
          refine wpAnyH_ready (rs := [7]) (by kernel_rfl) (by simp) ?_
          refine AllReadyH.cons (o := ?o133) ?g133 (fun K hK => ?j133) AllReadyH.nil
          case g133 => (simp only [gA, gB, gC]; rfl)
          go_simp
          refine hK.out _ _ ?_ (fun hHeld => ?_)
          · (try dsimp only); exact HKP.out _ _ hSA (alloc1 _ _)
          clear hK K
          (try simp only [Act.put, sA, sB, sC])
          refine wpAnyH_done (by kernel_rfl) ?_ _
          go_wp2_with fail
          go_meet
          exact ⟨_, rfl, hSA.1.2.1, hHeld.1, Bx.new _ r1⟩
        · go_simp
          refine hK.out _ _ ?_ (fun hHeld => ?_)
          · (try dsimp only); exact HKP.out _ _ hS0 (alloc1 _ _)
          clear hK K
          (try simp only [Act.put, sA, sB, sC])
          refine wpAnyH_ready (rs := [5]) (by kernel_rfl) (by simp) ?_
          refine AllReadyH.cons (o := ?o134) ?g134 (fun K hK => ?j134) AllReadyH.nil
          case g134 => (simp only [gA, gB, gC]; rfl)
          go_simp
          refine (H0.out _ (And.left (And.left hHeld))).mono ?_; rintro e wA ⟨rfl, hbA⟩; have hSA := HKP.out _ _ hHeld hbA; obtain ⟨e0, e1, e2, e3, e4, ef⟩ := newcells hbA
          refine hK.out _ _ ?_ (fun hHeld => ?_)
          · (try dsimp only); exact hSA
          clear hK K
          (try simp only [Act.put, sA, sB, sC])
          refine wpAnyH_ready (rs := [7]) (by kernel_rfl) (by simp) ?_
          refine AllReadyH.cons (o := ?o135) ?g135 (fun K hK => ?j135) AllReadyH.nil
          case g135 => (simp only [gA, gB, gC]; rfl)
          go_simp
          refine hK.out _ _ ?_ (fun hHeld => ?_)
          · (try dsimp only); exact HKS.out _ _ _ _ _ _ _ htb.2.1 hSA
          clear hK K
          (try simp only [Act.put, sA, sB, sC])
          refine wpAnyH_done (by kernel_rfl) ?_ _
          go_wp2_with fail
          go_meet
          exact ⟨_, rfl, htb.2.1, hHeld.1, bx_set e0 e1 e2 e3 e4⟩
      case rest =>
        clear htb HHELD HKP HKS
        obtain ⟨b, rfl, hbge, hTB, hx0, hx1, hx2, hx3, hx4⟩ := hcut
        obtain ⟨d0, d1, d2, d3, d4, d5, d6, d7⟩ := hTB.2.2.2.2.1
        have g0 := hTB.2.2.1
        have g1 := hTB.2.2.2.1
        have hb := HBB.out
        rw [hb] at hx2
        clear hb
        obtain ⟨ou0, ou1, ou2, ou3, ou4, ov0, ov1, ov2, ov3, ov4, ovf⟩ := TB.out hTB
        go_wp2_with fail
        exact bodyPost_ret (v := agV r1) (by simp [results, Tryz.results256, go_sem, HBB.out, ov0, ov1, ov2, ov3, ov4]) rfl ⟨rfl, TB.done hTB _ _ _ _ _⟩
  · have h0 := fun W hb => (H0.out W hb).mono (fun e w' h => (⟨h.1.trans (if_neg hz), h.2⟩ : e = .panicked (PV r2) ∧ Below W.heap.size W w'))
    clear H0
    have H0 := Lib.hid h0
    have HZ := Lib.hid hz
    rw [if_pos hz]
    clear h0 hv0 hz
    have htb : TB w FA fn FC VA vn VC 11 (some ad) n c nm v (((w.alloc (.cells #[.slice FA fn FC, .slice VA vn VC] 247)).alloc (.cells #[.int .i64 11, .slice (some ad) n c, .string nm, .int .i64 v.k, .int .i64 v.i, .bool v.b, .string v.s, .float .f64 v.n] 77)).alloc (.cells #[.int .i64 0, .int .i64 0, .bool false, .string { data := #[] }, .float .f64 0] 55)) := TB_new w FA fn FC VA vn VC 11 (some ad) n c nm v
    have HHELD := Lib.hid (fun W (hb : TB w FA fn FC VA vn VC 11 (some ad) n c nm v W) => (show THeld w FA fn FC VA vn VC ad n c p0 A0 n0 c0 m0 y0 W from let q := hq0 W hb.1; ⟨hb.2.2.1, hb.2.2.2.1, hb.2.2.2.2.1.2.1, q.1, q.2.1, q.2.2.1, q.2.2.2.1, q.2.2.2.2.1, q.2.2.2.2.2.1, q.2.2.2.2.2.2.1, q.2.2.2.2.2.2.2⟩))
    clear hq0
    have HKP := Lib.hid (fun (W W' : World) (h : TB w FA fn FC VA vn VC 11 (some ad) n c nm v W ∧ THeld w FA fn FC VA vn VC ad n c p0 A0 n0 c0 m0 y0 W) (hb : Below W.heap.size W W') => And.intro (h.1.below hb) (HHELD.out _ (h.1.below hb)))
    have HKS := Lib.hid (fun (W : World) (b : Nat) (u0 u1 u2 u3 u4 : Value) (hge : w.heap.size + 3 ≤ b) (h : TB w FA fn FC VA vn VC 11 (some ad) n c nm v W ∧ THeld w FA fn FC VA vn VC ad n c p0 A0 n0 c0 m0 y0 W) => let hb := below_set5 (Below.refl (w.heap.size + 3) W) hge u0 u1 u2 u3 u4; And.intro (h.1.below3 hb) (HHELD.out _ (h.1.below3 hb)))
    go_enter Tryz.func256, Tryz.ntmps256
    go_upto_region 6 with fail
    generalize ((w.alloc (.cells #[.slice FA fn FC, .slice VA vn VC] 247)).alloc (.cells #[.int .i64 11, .slice (some ad) n c, .string nm, .int .i64 v.k, .int .i64 v.i, .bool v.b, .string v.s, .float .f64 v.n] 77)).alloc (.cells #[.int .i64 0, .int .i64 0, .bool false, .string { data := #[] }, .float .f64 0] 55) = wb at *
    have hS0 : TB w FA fn FC VA vn VC 11 (some ad) n c nm v wb.drew ∧ THeld w FA fn FC VA vn VC ad n c p0 A0 n0 c0 m0 y0 wb.drew := ⟨htb.below (Below.refl _ _).drew, HHELD.out _ (htb.below (Below.refl _ _).drew)⟩
    refine wp_region_held_drew (S := (fun W => TB w FA fn FC VA vn VC 11 (some ad) n c nm v W ∧ THeld w FA fn FC VA vn VC ad n c p0 A0 n0 c0 m0 y0 W)) (by kernel_rfl) (hS0) (fun hHeld => ?_)
    refine tk 0 ?_
    (try simp only [Act.put, sA, sB, sC])
    refine tk 1 ?_
    (try simp only [Act.put, sA, sB, sC])
    refine tk 2 ?_
    (try simp only [Act.put, sA, sB, sC])
    refine tk 3 ?_
    (try simp only [Act.put, sA, sB, sC])
    refine tk 4 ?_
    (try simp only [Act.put, sA, sB, sC])
    refine wpAnyH_ready (rs := [5, 6]) (by kernel_rfl) (by simp) ?_
    refine AllReadyH.cons (o := ?o141) ?g141 (fun K hK => ?j141) (AllReadyH.cons (o := ?o142) ?g142 (fun K hK => ?j142) AllReadyH.nil)
    case g141 => (simp only [gA, gB, gC]; rfl)
    case g142 => (simp only [gA, gB, gC]; rfl)
    · go_simp
      refine (H0.out _ (And.left (And.left hHeld))).mono ?_; rintro e wA ⟨rfl, hbA⟩
      exact ⟨rfl, (if_neg HZ.out).symm, (And.left (And.left hHeld)).trans (hbA.mono (And.left (And.left hHeld)).size)⟩
    · go_simp
      refine hK.out _ _ ?_ (fun hHeld => ?_)
      · (try dsimp only); exact HKP.out _ _ hS0 (alloc1 _ _)
      clear hK K
      (try simp only [Act.put, sA, sB, sC])
      refine wpAnyH_ready (rs := [5]) (by kernel_rfl) (by simp) ?_
      refine AllReadyH.cons (o := ?o143) ?g143 (fun K hK => ?j143) AllReadyH.nil
      case g143 => (simp only [gA, gB, gC]; rfl)
      go_simp
      refine (H0.out _ (And.left (And.left hHeld))).mono ?_; rintro e wA ⟨rfl, hbA⟩
      exact ⟨rfl, (if_neg HZ.out).symm, (And.left (And.left hHeld)).trans (hbA.mono (And.left (And.left hHeld)).size)⟩

theorem alike_of {a b : Vl} (ha : goodV a = true) (hb : goodV b = true) (h : a.k = b.k) : alikeV a b = true := by
  unfold alikeV; rw [ha, hb, h, beq_self_eq_true]; rfl
theorem snd_ok {r : Vl × Int} {k : Int} (h : Snd r k) (h0 : r.2 = 0) : goodV r.1 = true ∧ okV r.1 ∧ r.1.k = k := by
  rcases h with ⟨_, h1, h2, h3⟩ | ⟨h1, _⟩
  · exact ⟨h1, h2, h3⟩
  · omega
theorem kid_at {w : World} {D : Nat} {A : Option Addr} {c : Nat} {e : Ex} (h : ExK w (D + 1) A c e) (j : Nat) (hj : j < e.kids.length) : ∃ ad A' c', A = some ad ∧ (∀ W, Below w.heap.size w W → Kid W (ad.add (j * 8)) e.kids[j].op A' e.kids[j].kids.length c' e.kids[j].name e.kids[j].val) ∧ ExK w D A' c' e.kids[j] := by
  obtain ⟨-, -, -, h4⟩ := h
  obtain ⟨ad, A', c', h5, h6, h7, h8⟩ := h4 j hj
  exact ⟨ad, A', c', h5, fun W hb => h7.below hb (by rw [block_add]; exact h6), h8⟩
theorem tell_any (FA : Option Addr) (FC : Nat) (fs : List Fd) (VA : Option Addr) (VC : Nat) (vs : List Vl) (hfit : fitX fs vs = true) (hvs : ∀ v ∈ vs, okV v) : ∀ (D d : Nat) (e : Ex) (A : Option Addr) (c : Nat) (k : Int) (w : World), ExK w D A c e → FdK w FA FC fs → VlK w VA VC vs → okX d e → deepX d e → chkX d e fs = (k, 0) →
    Calls Tryz.prog 256 #[agR FA fs.length FC VA vs.length VC, agX e.op A e.kids.length c e.name e.val] w (TellP (evX d e fs vs) w)
  | 0, _, _, _, _, _, _, h, _, _, _, _, _ => False.elim h
  | D + 1, 0, _, _, _, _, _, _, _, _, _, h, _ => False.elim h
  | D + 1, d + 1, e, A, c, k, w, hx, hfd, hvl, hok, hdeep, h => by
    obtain ⟨h1, h2⟩ := chkX_ok h
    have hform := (kindX_form h1).1
    have isnd : ∀ x ∈ e.kids, Snd (evX d x fs vs) (chkX d x fs).1 := fun x hx => ev_sound fs vs hfit hvs d x _ (hok.2.2 x hx) (hdeep x hx) (pair_of (h2 x hx))
    have ih : ∀ (x : Ex) (A' : Option Addr) (c' : Nat), x ∈ e.kids → ExK w D A' c' x → ∀ W, Below w.heap.size w W → Calls Tryz.prog 256 #[agR FA fs.length FC VA vs.length VC, agX x.op A' x.kids.length c' x.name x.val] W (TellP (evX d x fs vs) W) :=
      fun x A' c' hm hk W hb => tell_any FA FC fs VA VC vs hfit hvs D d x A' c' _ W (hk.below hb (Nat.le_refl _)) (hfd.below hb (Nat.le_refl _)) (hvl.below hb (Nat.le_refl _)) (hok.2.2 x hm) (hdeep x hm) (pair_of (h2 x hm))
    have hk := kindX_kinds h1
    have hat := fun j hj => kid_at hx j hj
    have hokv := hok.1
    clear h h1 h2 hdeep hok
    rcases hk with ⟨o, g, rfl⟩ | ⟨o, g, rfl⟩ | ⟨o, g, rfl⟩ | ⟨o, g, rfl⟩ | ⟨o, g, rfl⟩ | ⟨o, g1, g2, rfl⟩ | ⟨o, g, rfl⟩ | ⟨o, g, g1, rfl⟩ | ⟨o, g1, g2, rfl⟩ | ⟨o, g, g1, rfl⟩
    · rw [evX, if_pos o, o]
      exact tell_1 FA fs.length FC VA vs.length VC A e.kids.length c e.name e.val w
    · rw [evX, if_neg (by omega), if_pos o, o]
      obtain ⟨j, hj, hl⟩ := findX_at e.name fs 0 g
      rw [Nat.zero_add] at hj
      have hjj : (findX e.name fs 0).toNat = j := by omega
      rw [hjj]
      obtain ⟨v, e1, e2, e3⟩ := fit_at hfit j hl
      obtain ⟨hjv, e4⟩ := List.getElem?_eq_some_iff.1 e1
      obtain ⟨vad, e5, e6, e7⟩ := hvl.2.2.2 j hjv
      subst e5
      rw [e4] at e7
      rw [e1]
      exact tell_2 FA fs.length FC vad vs.length VC A e.kids.length c e.name e.val v w j _ rfl hjv (fun W hb => by rw [← hj]; exact place_any e.name FA FC fs W (hfd.below hb (Nat.le_refl _))) (fun W hb => e7.below hb (by rw [block_add]; exact e6))
    · obtain ⟨a, ha⟩ := kids_one (l := e.kids) (by rw [kidsN_1 (Or.inl o)] at hform; omega)
      rw [evX_one ha (Or.inl o), o]
      simp only [ha] at hat isnd ih g ⊢
      obtain ⟨ad, A0, c0, rfl, q0, x0⟩ := hat 0 (by simp)
      simp only [List.getElem_cons_zero, Nat.zero_mul, Addr.add_zero'] at q0 x0
      have s0 := isnd a (List.mem_cons_self ..)
      exact tell_3 FA fs.length FC VA vs.length VC ad 1 c e.name e.val w A0 _ c0 _ _ _ (evX d a fs vs) q0 (ih a A0 c0 (List.mem_cons_self ..) x0) (fun h0 => (snd_ok s0 h0).2.1) (by omega) (fun h0 W => Neg_any _ W (snd_ok s0 h0).2.1.2.1)
    · obtain ⟨a, ha⟩ := kids_one (l := e.kids) (by rw [kidsN_1 (Or.inr (Or.inr o))] at hform; omega)
      rw [evX_one ha (Or.inr (Or.inl o)), o]
      simp only [ha] at hat isnd ih g ⊢
      obtain ⟨ad, A0, c0, rfl, q0, x0⟩ := hat 0 (by simp)
      simp only [List.getElem_cons_zero, Nat.zero_mul, Addr.add_zero'] at q0 x0
      have s0 := isnd a (List.mem_cons_self ..)
      exact tell_16 FA fs.length FC VA vs.length VC ad 1 c e.name e.val w A0 _ c0 _ _ _ (evX d a fs vs) q0 (ih a A0 c0 (List.mem_cons_self ..) x0) (fun h0 => (snd_ok s0 h0).2.1) (by omega) (fun h0 W => Float_any _ W)
    · obtain ⟨a, ha⟩ := kids_one (l := e.kids) (by rw [kidsN_1 (Or.inr (Or.inl o))] at hform; omega)
      rw [evX_one ha (Or.inr (Or.inr o)), o]
      simp only [ha] at hat isnd ih g ⊢
      obtain ⟨ad, A0, c0, rfl, q0, x0⟩ := hat 0 (by simp)
      simp only [List.getElem_cons_zero, Nat.zero_mul, Addr.add_zero'] at q0 x0
      have s0 := isnd a (List.mem_cons_self ..)
      exact tell_12 FA fs.length FC VA vs.length VC ad 1 c e.name e.val w A0 _ c0 _ _ _ (evX d a fs vs) q0 (ih a A0 c0 (List.mem_cons_self ..) x0) (fun h0 => (snd_ok s0 h0).2.1) (by omega)
    · obtain ⟨a, b, ha⟩ := kids_two (l := e.kids) (by rw [kidsN_2 (by omega)] at hform; omega)
      rw [evX_lazy ha o]
      simp only [ha] at hat isnd ih ⊢
      obtain ⟨ad, A0, c0, rfl, q0, x0⟩ := hat 0 (by simp)
      obtain ⟨ad', A1, c1, hae, q1, x1⟩ := hat 1 (by simp)
      injection hae with hae; subst hae
      simp only [List.getElem_cons_zero, List.getElem_cons_succ, Nat.zero_mul, Nat.one_mul, Addr.add_zero', Addr.add_succ'] at q0 x0 q1 x1
      have s0 := isnd a (List.mem_cons_self ..)
      have s1 := isnd b (by simp)
      rcases o with o | o
      · rw [o]
        exact tell_10 FA fs.length FC VA vs.length VC ad 2 c e.name e.val w A0 _ c0 _ _ _ (evX d a fs vs) q0 (ih a A0 c0 (List.mem_cons_self ..) x0) (fun h0 => (snd_ok s0 h0).2.1) A1 _ c1 _ _ _ (evX d b fs vs) q1 (ih b A1 c1 (by simp) x1) (fun h0 => (snd_ok s1 h0).2.1) (by omega)
      · rw [o]
        exact tell_11 FA fs.length FC VA vs.length VC ad 2 c e.name e.val w A0 _ c0 _ _ _ (evX d a fs vs) q0 (ih a A0 c0 (List.mem_cons_self ..) x0) (fun h0 => (snd_ok s0 h0).2.1) A1 _ c1 _ _ _ (evX d b fs vs) q1 (ih b A1 c1 (by simp) x1) (fun h0 => (snd_ok s1 h0).2.1) (by omega)
    · obtain ⟨a, b, ha⟩ := kids_two (l := e.kids) (by rw [kidsN_2 (by omega)] at hform; omega)
      rw [evX_two ha (by omega)]
      simp only [ha] at hat isnd ih g ⊢
      obtain ⟨ad, A0, c0, rfl, q0, x0⟩ := hat 0 (by simp)
      obtain ⟨ad', A1, c1, hae, q1, x1⟩ := hat 1 (by simp)
      injection hae with hae; subst hae
      simp only [List.getElem_cons_zero, List.getElem_cons_succ, Nat.zero_mul, Nat.one_mul, Addr.add_zero', Addr.add_succ'] at q0 x0 q1 x1
      have s0 := isnd a (List.mem_cons_self ..)
      have s1 := isnd b (by simp)
      simp only [List.map_cons, List.map_nil, List.getD_cons_zero, List.getD_cons_succ] at g
      exact tell_two FA fs.length FC VA vs.length VC ad 2 c e.name e.val w e.op A0 _ c0 _ _ _ (evX d a fs vs) q0 (ih a A0 c0 (List.mem_cons_self ..) x0) (fun h0 => (snd_ok s0 h0).2.1) A1 _ c1 _ _ _ (evX d b fs vs) q1 (ih b A1 c1 (by simp) x1) (fun h0 => (snd_ok s1 h0).2.1) (by omega) (by omega) (by omega) (by omega) (by omega) (by omega) (by omega) (by omega) (by omega)
        (fun h0 h1 W => pair_any e.op _ _ W (snd_ok s0 h0).2.1 (snd_ok s1 h1).2.1 (fun h8 => by unfold eqV; rw [if_pos (alike_of (snd_ok s0 h0).1 (snd_ok s1 h1).1 (by rw [(snd_ok s0 h0).2.2, (snd_ok s1 h1).2.2]; exact g))]) (fun h9 => absurd (o.symm.trans h9) (by decide)))
    · obtain ⟨a, b, ha⟩ := kids_two (l := e.kids) (by rw [kidsN_2 (by omega)] at hform; omega)
      rw [evX_two ha (by omega)]
      simp only [ha] at hat isnd ih g g1 ⊢
      obtain ⟨ad, A0, c0, rfl, q0, x0⟩ := hat 0 (by simp)
      obtain ⟨ad', A1, c1, hae, q1, x1⟩ := hat 1 (by simp)
      injection hae with hae; subst hae
      simp only [List.getElem_cons_zero, List.getElem_cons_succ, Nat.zero_mul, Nat.one_mul, Addr.add_zero', Addr.add_succ'] at q0 x0 q1 x1
      have s0 := isnd a (List.mem_cons_self ..)
      have s1 := isnd b (by simp)
      simp only [List.map_cons, List.map_nil, List.getD_cons_zero, List.getD_cons_succ] at g g1
      exact tell_two FA fs.length FC VA vs.length VC ad 2 c e.name e.val w e.op A0 _ c0 _ _ _ (evX d a fs vs) q0 (ih a A0 c0 (List.mem_cons_self ..) x0) (fun h0 => (snd_ok s0 h0).2.1) A1 _ c1 _ _ _ (evX d b fs vs) q1 (ih b A1 c1 (by simp) x1) (fun h0 => (snd_ok s1 h0).2.1) (by omega) (by omega) (by omega) (by omega) (by omega) (by omega) (by omega) (by omega) (by omega)
        (fun h0 h1 W => pair_any e.op _ _ W (snd_ok s0 h0).2.1 (snd_ok s1 h1).2.1 (fun h8 => absurd (o.symm.trans h8) (by decide)) (fun h9 => by unfold ltV; rw [(alike_of (snd_ok s0 h0).1 (snd_ok s1 h1).1 (by rw [(snd_ok s0 h0).2.2, (snd_ok s1 h1).2.2]; exact g)), show ((evX d a fs vs).1.k == 2) = false from by rw [(snd_ok s0 h0).2.2]; rcases g1 with h | h | h <;> rw [h] <;> rfl]; rfl))
    · obtain ⟨a, b, c', ha⟩ := kids_three (l := e.kids) (by rw [kidsN_3 o] at hform; omega)
      rw [evX_if ha o, o]
      simp only [ha] at hat isnd ih ⊢
      obtain ⟨ad, A0, c0, rfl, q0, x0⟩ := hat 0 (by simp)
      obtain ⟨ad', A1, c1, hae, q1, x1⟩ := hat 1 (by simp)
      injection hae with hae; subst hae
      obtain ⟨ad', A2, c2, hae, q2, x2⟩ := hat 2 (by simp)
      injection hae with hae; subst hae
      simp only [List.getElem_cons_zero, List.getElem_cons_succ, Nat.zero_mul, Nat.one_mul, Addr.add_zero', Addr.add_succ', show (2 * 8 : Nat) = 15 + 1 from rfl] at q0 x0 q1 x1 q2 x2
      have s0 := isnd a (List.mem_cons_self ..)
      have s1 := isnd b (by simp)
      have s2 := isnd c' (by simp)
      exact tell_13 FA fs.length FC VA vs.length VC ad 3 c e.name e.val w A0 _ c0 _ _ _ (evX d a fs vs) q0 (ih a A0 c0 (List.mem_cons_self ..) x0) (fun h0 => (snd_ok s0 h0).2.1) A1 _ c1 _ _ _ (evX d b fs vs) q1 (ih b A1 c1 (by simp) x1) (fun h0 => (snd_ok s1 h0).2.1) A2 _ c2 _ _ _ (evX d c' fs vs) q2 (ih c' A2 c2 (by simp) x2) (fun h0 => (snd_ok s2 h0).2.1) (by omega)
    · have og := o
      obtain ⟨a, b, ha⟩ := kids_two (l := e.kids) (by rw [kidsN_2 (by have := (opsB_iff e.op).1 og; omega)] at hform; omega)
      rw [evX_two ha (by have := (opsB_iff e.op).1 og; omega)]
      simp only [ha] at hat isnd ih g ⊢
      obtain ⟨ad, A0, c0, rfl, q0, x0⟩ := hat 0 (by simp)
      obtain ⟨ad', A1, c1, hae, q1, x1⟩ := hat 1 (by simp)
      injection hae with hae; subst hae
      simp only [List.getElem_cons_zero, List.getElem_cons_succ, Nat.zero_mul, Nat.one_mul, Addr.add_zero', Addr.add_succ'] at q0 x0 q1 x1
      have s0 := isnd a (List.mem_cons_self ..)
      have s1 := isnd b (by simp)
      simp only [List.map_cons, List.map_nil, List.getD_cons_zero, List.getD_cons_succ] at g
      exact tell_two FA fs.length FC VA vs.length VC ad 2 c e.name e.val w e.op A0 _ c0 _ _ _ (evX d a fs vs) q0 (ih a A0 c0 (List.mem_cons_self ..) x0) (fun h0 => (snd_ok s0 h0).2.1) A1 _ c1 _ _ _ (evX d b fs vs) q1 (ih b A1 c1 (by simp) x1) (fun h0 => (snd_ok s1 h0).2.1) (by omega) (by have := (opsB_iff e.op).1 og; omega) (by have := (opsB_iff e.op).1 og; omega) (by have := (opsB_iff e.op).1 og; omega) (by have := (opsB_iff e.op).1 og; omega) (by have := (opsB_iff e.op).1 og; omega) (by have := (opsB_iff e.op).1 og; omega) (by have := (opsB_iff e.op).1 og; omega) (by have := (opsB_iff e.op).1 og; omega)
        (fun h0 h1 W => pair_any e.op _ _ W (snd_ok s0 h0).2.1 (snd_ok s1 h1).2.1 (fun h8 => absurd ((opsB_iff e.op).1 og) (by omega)) (fun h9 => absurd ((opsB_iff e.op).1 og) (by omega)))

def setV (v : Vl) : Vl := if v.k = 4 then (reckV 14 v v).1 else v
theorem reck_self {v : Vl} (h : goodV v = true) (h4 : v.k = 4) : reckV 14 v v = (vNum (numsV 14 v.n v.n), 0) := by
  unfold reckV
  rw [if_pos (show opsB 14 = true from rfl), if_pos (alike_of h h rfl), if_neg (by omega), if_pos h4]
set_option maxHeartbeats 1000000 in
theorem settled_any (v : Vl) (w : World) (hg : goodV v = true) (hok : okV v) : Calls Tryz.prog 255 #[agV v] w (VMk (agV (setV v)) w) := by
  have hsf := fun (w : World) (a : Addr) (m : Mode) (b : Nat) => run_store Tryz.prog w a (.float .f64 b) m rfl
  by_cases h4 : v.k = 4
  · have hr : ∀ W, Calls Tryz.prog 266 #[.int .i64 14, agV v, agV v] W (VMk (pairVE (setV v) 0) W) := fun W => by
      have := Reckon_any 14 v v W hok.2.1 hok.2.1 hok.2.2 hok.2.2
      unfold setV
      rw [if_pos h4]
      rw [reck_self hg h4] at this ⊢
      exact this
    generalize setV v = r at hr ⊢
    have HR := Lib.hid hr
    have hk : (v.k != 4) = false := by simpa using h4
    clear hr h4
    go_enter Tryz.func255, Tryz.ntmps255
    go_wp2_with (first
      | (go_at_call 266; refine (HR.out _).mono ?_; rintro e w1 ⟨rfl, hb1⟩; obtain ⟨hc1, hf1⟩ := bcell hb1; have hz1 : w.heap.size + 1 < w1.heap.size := by { have := hb1.size; simp at this; omega })
      | (go_at_call 265; refine (sure_ok _ _).mono ?_; rintro e w3 ⟨rfl, hb3⟩; obtain ⟨hc3, hf3⟩ := bcell hb3; have hy2 : w.heap.size + 1 < w3.heap.size := by { have := hb3.size; omega }))
    exact bodyPost_ret (v := agV r) (by simp [results, Tryz.results255, go_sem, hc1, hc3, hz1, hy2]) rfl ⟨rfl, vbox2_set w _ _ hb1 hb3 _ _ _ _ _⟩
  · have hr : setV v = v := by unfold setV; rw [if_neg h4]
    rw [hr]
    have hk : (v.k != 4) = true := by simpa using h4
    clear hr h4
    go_enter Tryz.func255, Tryz.ntmps255
    go_wp2
    exact bodyPost_ret (v := agV v) (by simp [results, Tryz.results255, go_sem]) rfl ⟨rfl, vbox2 w _ _⟩

def Two7 (w : World) (b : Nat) : Prop := (∃ cs, w.heap[b]? = some (.cells cs 55 (0, 0)) ∧ cs.size = 5) ∧ ∃ x, w.heap[b + 1]? = some (.cells #[x] 26 (0, 0))
theorem Two7.open {w : World} {b : Nat} (h : Two7 w b) : ∃ u0 u1 u2 u3 u4 u5, w.cell? ⟨b, 0, none⟩ = some u0 ∧ w.cell? ⟨b, 1, none⟩ = some u1 ∧ w.cell? ⟨b, 2, none⟩ = some u2 ∧ w.cell? ⟨b, 3, none⟩ = some u3 ∧ w.cell? ⟨b, 4, none⟩ = some u4 ∧ w.cell? ⟨b + 1, 0, none⟩ = some u5 ∧ (∀ j, w.frozen? ⟨b, j, none⟩ = false) ∧ (∀ j, w.frozen? ⟨b + 1, j, none⟩ = false) := by
  obtain ⟨⟨cs, h1, h2⟩, x, h3⟩ := h
  have hat : ∀ (j : Nat) (hj : j < 5), w.cell? ⟨b, j, none⟩ = some (cs[j]'(by omega)) := fun j hj => by
    have := cell_of_row w b j _ _ (0, 0) h1
    rw [this, Array.getElem?_eq_getElem (by omega)]
  exact ⟨_, _, _, _, _, _, hat 0 (by omega), hat 1 (by omega), hat 2 (by omega), hat 3 (by omega), hat 4 (by omega), (cell_of_row w (b + 1) 0 _ _ (0, 0) h3).trans rfl, fun j => by unfold World.frozen?; simp only [h1]; simp, fun j => by unfold World.frozen?; simp only [h3]; simp⟩
theorem set5_off (W : World) (g b o : Nat) (hne : b ≠ g) (u0 u1 u2 u3 u4 : Value) : (((((W.setCell ⟨g, 0, none⟩ u0).setCell ⟨g, 1, none⟩ u1).setCell ⟨g, 2, none⟩ u2).setCell ⟨g, 3, none⟩ u3).setCell ⟨g, 4, none⟩ u4).cell? ⟨b, o, none⟩ = W.cell? ⟨b, o, none⟩ := by
  have hk : ∀ (W : World) (o j : Nat) (u : Value), (W.setCell ⟨g, j, none⟩ u).cell? ⟨b, o, none⟩ = W.cell? ⟨b, o, none⟩ := fun W o j u => World.cell?_setCell_other W (a := ⟨g, j, none⟩) (b := ⟨b, o, none⟩) (v := u) (by intro e; injection e with e _ _; exact hne e.symm)
  simp only [hk]
theorem one_off {W : World} {b : Nat} {r : Vl} (h : Bx W b r) (g : Nat) (hne : b ≠ g) (u : Value) : Bx (W.setCell ⟨g, 0, none⟩ u) b r := by
  have hk : ∀ (o : Nat), (W.setCell ⟨g, 0, none⟩ u).cell? ⟨b, o, none⟩ = W.cell? ⟨b, o, none⟩ := fun o => World.cell?_setCell_other W (a := ⟨g, 0, none⟩) (b := ⟨b, o, none⟩) (v := u) (by intro e; injection e with e _ _; exact hne e.symm)
  unfold Bx
  simp only [hk]
  exact h
theorem Bx.drewn {W : World} {b : Nat} {r : Vl} (h : Bx W b r) : Bx W.drew b r := h
theorem cell_drewn {W : World} {a : Addr} {x : Value} (h : W.cell? a = some x) : W.drew.cell? a = some x := h
set_option maxHeartbeats 400000 in
theorem catch_panicking (b : Nat) (err : Int) (older : List PanicEntry) (w : World) (h : Two7 w b) :
    CallsD Tryz.prog 254 #[.pointer (some ⟨b, 0, none⟩), .pointer (some ⟨b + 1, 0, none⟩)] (.panicking ({ v := .iface 26 (.int .i64 err), recovered := false } :: older)) w fun e u' w' =>
      e = .returned (.tuple #[]) ∧ u' = .panicking ({ v := .iface 26 (.int .i64 err), recovered := true } :: older) ∧ Below b w w' ∧ Bx w' b vZero ∧ w'.cell? ⟨b + 1, 0, none⟩ = some (.int .i64 err) := by
  obtain ⟨u0, u1, u2, u3, u4, u5, c0, c1, c2, c3, c4, c5, f0, f1⟩ := h.open
  have hsf := fun (w : World) (a : Addr) (m : Mode) (b : Nat) => run_store Tryz.prog w a (.float .f64 b) m rfl
  refine callsD_of_wpS Tryz.func254 rfl fun c₀ cs hu => ?_
  apply wpS_seq
  apply wpS_region
  simp [wpOpsS, go_sem, recoverD, hu, Tryz.ntmps254, Exit.thenS]
  refine wpS_of_wp ?_
  go_wp2
  have hta : ∀ w : World, (Instr.typeAssert (.iface 26 (.int .i64 err)) 20 26 false).run Tryz.prog w = .ok (.int .i64 err) w := fun w => by kernel_rfl
  clear hu
  change Code.wp _ _ _ { tmps := #[.pointer (some ⟨b, 0, none⟩), .pointer (some ⟨b + 1, 0, none⟩), .iface 26 (.int .i64 err), .iface 26 (.int .i64 err), .iface 26 (.int .i64 err), .bool true, undef, undef, undef], defers := [] } w
  have hS1 : Below b w w.drew := (Below.refl _ _).drew
  refine wp_region_held_drew (S := (fun W => Below b w W)) (by kernel_rfl) (hS1) (fun hHeld => ?_)
  refine tk 0 ?_
  (try simp only [Act.put, sA, sB, sC])
  refine tk 1 ?_
  (try simp only [Act.put, sA, sB, sC])
  refine tk 2 ?_
  (try simp only [Act.put, sA, sB, sC])
  refine wpAnyH_ready (rs := [3]) (by kernel_rfl) (by simp) ?_
  refine AllReadyH.cons (o := ?o4) ?g4 (fun K hK => ?j4) AllReadyH.nil
  case g4 => (simp only [gA, gB, gC]; rfl)
  go_simp
  refine hK.out _ _ ?_ (fun hHeld => ?_)
  · (try dsimp only); exact Below.drew (below_set5 (Below.refl _ _) (Nat.le_refl _) _ _ _ _ _)
  clear hK K
  (try simp only [Act.put, sA, sB, sC])
  refine wpAnyH_ready (rs := [4]) (by kernel_rfl) (by simp) ?_
  refine AllReadyH.cons (o := ?o5) ?g5 (fun K hK => ?j5) AllReadyH.nil
  case g5 => (simp only [gA, gB, gC]; rfl)
  go_simp
  refine hK.out _ _ ?_ (fun hHeld => ?_)
  · (try dsimp only); exact Below.drew (Below.setCell (below_set5 (Below.refl _ _) (Nat.le_refl _) _ _ _ _ _) (p := ⟨b + 1, 0, none⟩) (Nat.le_succ b) _)
  clear hK K
  (try simp only [Act.put, sA, sB, sC])
  refine wpAnyH_done (by kernel_rfl) ?_ _
  have hfin1 : Bx (((((w.setCell ⟨b, 0, none⟩ (.int .i64 0)).setCell ⟨b, 1, none⟩ (.int .i64 0)).setCell ⟨b, 2, none⟩ (.bool false)).setCell ⟨b, 3, none⟩ (.string { data := #[] })).setCell ⟨b, 4, none⟩ (.float .f64 0)) b vZero := bx_set (r := vZero) c0 c1 c2 c3 c4
  have hfin2 : (((((w.setCell ⟨b, 0, none⟩ (.int .i64 0)).setCell ⟨b, 1, none⟩ (.int .i64 0)).setCell ⟨b, 2, none⟩ (.bool false)).setCell ⟨b, 3, none⟩ (.string { data := #[] })).setCell ⟨b, 4, none⟩ (.float .f64 0)).cell? ⟨b + 1, 0, none⟩ = some u5 := (set5_off w b (b + 1) 0 (by omega) _ _ _ _ _).trans c5
  have hfin3 := one_off hfin1 (b + 1) (by omega) (.int .i64 err)
  have hfin4 := World.cell?_setCell_same _ ⟨b + 1, 0, none⟩ (.int .i64 err) hfin2
  show bodyPostS _ _ _ _ _ _ _ _ _
  cases c₀
  simp only [bodyPostS]
  exact ⟨trivial, _, rfl, _, by simp [results, Tryz.results254, go_sem], rfl, rfl, hHeld, hfin3.drewn, cell_drewn hfin4⟩
theorem catch_idle (b : Nat) (w : World) :
    CallsD Tryz.prog 254 #[.pointer (some ⟨b, 0, none⟩), .pointer (some ⟨b + 1, 0, none⟩)] .returning w fun e u' w' => e = .returned (.tuple #[]) ∧ u' = .returning ∧ w' = w := by
  refine callsD_of_wpS Tryz.func254 rfl fun c₀ cs hu => ?_
  apply wpS_seq
  apply wpS_region
  simp [wpOpsS, go_sem, recoverD, hu, Tryz.ntmps254, Exit.thenS]
  refine wpS_of_wp ?_
  go_wp2
  cases c₀
  simp_all [bodyPostS, results, Tryz.results254]

def endV (r : Vl × Int) : Vl × Int := if r.2 = 0 then (setV r.1, 0) else (vZero, r.2)
theorem box4 (w : World) (o p q s : Obj) : Below w.heap.size w ((((w.alloc o).alloc p).alloc q).alloc s) := (vbox3 w o p q).alloc (by simp; omega) s
theorem two7_new (w : World) (o p : Obj) : Two7 ((((w.alloc o).alloc p).alloc (.cells #[.int .i64 0, .int .i64 0, .bool false, .string { data := #[] }, .float .f64 0] 55)).alloc (.cells #[.int .i64 0] 26)) (w.heap.size + 1 + 1) := by
  have h1 := heap_alloc_new ((w.alloc o).alloc p) (.cells #[.int .i64 0, .int .i64 0, .bool false, .string { data := #[] }, .float .f64 0] 55)
  have h2 := heap_alloc_new (((w.alloc o).alloc p).alloc (.cells #[.int .i64 0, .int .i64 0, .bool false, .string { data := #[] }, .float .f64 0] 55)) (.cells #[.int .i64 0] 26)
  have e1 : ((w.alloc o).alloc p).heap.size = w.heap.size + 1 + 1 := by simp
  have e2 : (((w.alloc o).alloc p).alloc (.cells #[.int .i64 0, .int .i64 0, .bool false, .string { data := #[] }, .float .f64 0] 55)).heap.size = w.heap.size + 1 + 1 + 1 := by simp
  rw [e1] at h1
  rw [e2] at h2
  exact ⟨⟨_, (Below.heap_alloc _ _ _ (by rw [e2]; omega)).trans h1, rfl⟩, _, h2⟩
theorem Two7.below {w w' : World} {b : Nat} (h : Two7 w b) (hb : Below w.heap.size w w') : Two7 w' b := by
  obtain ⟨⟨cs, h1, h2⟩, x, h3⟩ := h
  exact ⟨⟨cs, (hb.block b (Array.getElem?_eq_some_iff.1 h1).1).trans h1, h2⟩, x, (hb.block _ (Array.getElem?_eq_some_iff.1 h3).1).trans h3⟩
set_option maxHeartbeats 1000000 in
theorem reckon_good (FA : Option Addr) (fn FC : Nat) (VA : Option Addr) (vn VC : Nat) (op : Int) (A : Option Addr) (n c : Nat) (nm : ByteArray) (v : Vl) (w : World) (r : Vl) (hg : goodV r = true) (hok : okV r)
    (ht : ∀ W, Below w.heap.size w W → Calls Tryz.prog 256 #[agR FA fn FC VA vn VC, agX op A n c nm v] W (VMk (agV r) W)) :
    Calls Tryz.prog 238 #[agR FA fn FC VA vn VC, agX op A n c nm v] w (VMk (pairVE (setV r) 0) w) := by
  have hmf : ∀ (fn : Fn) (first cap : Array Value) (w : World), (Instr.makeFunc fn first cap).run Tryz.prog w = .ok (.func fn first cap) w := fun _ _ _ _ => rfl
  have hsf := fun (w : World) (a : Addr) (m : Mode) (b : Nat) => run_store Tryz.prog w a (.float .f64 b) m rfl
  have hse := fun W => settled_any r W hg hok
  generalize setV r = s at hse ⊢
  have HT := Lib.hid ht
  have HS := Lib.hid hse
  clear ht hse hok hg
  have h27 := two7_new w (.cells #[.slice FA fn FC, .slice VA vn VC] 247) (bxX op A n c nm v)
  have H27 := Lib.hid h27
  clear h27
  go_enter_defers Tryz.func238, Tryz.ntmps238
  go_wp2_with (first
    | (go_at_call 256; refine (HT.out _ (box4 w _ _ _ _)).mono ?_; rintro e w1 ⟨rfl, hb1⟩; have h271 := H27.out.below hb1; have H271 := Lib.hid h271; clear h271)
    | (go_at_call 255; refine (HS.out _).mono ?_; rintro e w2 ⟨rfl, hb2⟩; have h272 := H271.out.below hb2; obtain ⟨u0, u1, u2, u3, u4, u5, c0, c1, c2, c3, c4, c5, f0, f1⟩ := h272.open))
  have hfin1 : Bx (((((w2.setCell ⟨w.heap.size + 1 + 1, 0, none⟩ (.int .i64 s.k)).setCell ⟨w.heap.size + 1 + 1, 1, none⟩ (.int .i64 s.i)).setCell ⟨w.heap.size + 1 + 1, 2, none⟩ (.bool s.b)).setCell ⟨w.heap.size + 1 + 1, 3, none⟩ (.string s.s)).setCell ⟨w.heap.size + 1 + 1, 4, none⟩ (.float .f64 s.n)) (w.heap.size + 1 + 1) s := bx_set (r := s) c0 c1 c2 c3 c4
  have hfin2 : (((((w2.setCell ⟨w.heap.size + 1 + 1, 0, none⟩ (.int .i64 s.k)).setCell ⟨w.heap.size + 1 + 1, 1, none⟩ (.int .i64 s.i)).setCell ⟨w.heap.size + 1 + 1, 2, none⟩ (.bool s.b)).setCell ⟨w.heap.size + 1 + 1, 3, none⟩ (.string s.s)).setCell ⟨w.heap.size + 1 + 1, 4, none⟩ (.float .f64 s.n)).cell? ⟨w.heap.size + 1 + 1 + 1, 0, none⟩ = some u5 := (set5_off w2 _ _ 0 (by omega) _ _ _ _ _).trans c5
  have hfin3 := one_off hfin1 (w.heap.size + 1 + 1 + 1) (by omega) (.int .i64 0)
  have hfin4 := World.cell?_setCell_same _ ⟨w.heap.size + 1 + 1 + 1, 0, none⟩ (.int .i64 0) hfin2
  have hbel : Below w.heap.size w ((((((w2.setCell ⟨w.heap.size + 1 + 1, 0, none⟩ (.int .i64 s.k)).setCell ⟨w.heap.size + 1 + 1, 1, none⟩ (.int .i64 s.i)).setCell ⟨w.heap.size + 1 + 1, 2, none⟩ (.bool s.b)).setCell ⟨w.heap.size + 1 + 1, 3, none⟩ (.string s.s)).setCell ⟨w.heap.size + 1 + 1, 4, none⟩ (.float .f64 s.n)).setCell ⟨w.heap.size + 1 + 1 + 1, 0, none⟩ (.int .i64 0)) := Below.setCell (below_set5 ((box4 w _ _ _ _).trans ((hb1.mono (by simp; omega)).trans (hb2.mono (by have := hb1.size; simp at this; omega)))) (by omega) _ _ _ _ _) (p := ⟨w.heap.size + 1 + 1 + 1, 0, none⟩) (by show w.heap.size ≤ w.heap.size + 1 + 1 + 1; omega) _
  generalize ((((((w2.setCell ⟨w.heap.size + 1 + 1, 0, none⟩ (.int .i64 s.k)).setCell ⟨w.heap.size + 1 + 1, 1, none⟩ (.int .i64 s.i)).setCell ⟨w.heap.size + 1 + 1, 2, none⟩ (.bool s.b)).setCell ⟨w.heap.size + 1 + 1, 3, none⟩ (.string s.s)).setCell ⟨w.heap.size + 1 + 1, 4, none⟩ (.float .f64 s.n)).setCell ⟨w.heap.size + 1 + 1 + 1, 0, none⟩ (.int .i64 0)) = wf at *
  clear hfin1 hfin2
  obtain ⟨z0, z1, z2, z3, z4⟩ := hfin3
  clear hb1 hb2 c0 c1 c2 c3 c4 c5 f0 f1 h272 H271
  refine leaves_cons (f := 254) (args := #[.pointer (some ⟨w.heap.size + 1 + 1, 0, none⟩), .pointer (some ⟨w.heap.size + 1 + 1 + 1, 0, none⟩)]) (by simp) (by simp [go_sem]) ?_
  refine (catch_idle (w.heap.size + 1 + 1) _).mono ?_
  rintro e u' w'' ⟨rfl, rfl, rfl⟩
  simp [Leaves, settle, results, Tryz.results238, go_sem, z0, z1, z2, z3, z4, hfin4]
  exact ⟨rfl, hbel⟩
set_option maxHeartbeats 1000000 in
theorem reckon_bad (FA : Option Addr) (fn FC : Nat) (VA : Option Addr) (vn VC : Nat) (op : Int) (A : Option Addr) (n c : Nat) (nm : ByteArray) (v : Vl) (w : World) (err : Int)
    (ht : ∀ W, Below w.heap.size w W → Calls Tryz.prog 256 #[agR FA fn FC VA vn VC, agX op A n c nm v] W (fun e w' => e = .panicked (PV err) ∧ Below W.heap.size W w')) :
    Calls Tryz.prog 238 #[agR FA fn FC VA vn VC, agX op A n c nm v] w (VMk (pairVE vZero err) w) := by
  have hmf : ∀ (fn : Fn) (first cap : Array Value) (w : World), (Instr.makeFunc fn first cap).run Tryz.prog w = .ok (.func fn first cap) w := fun _ _ _ _ => rfl
  have HT := Lib.hid ht
  clear ht
  have h27 := two7_new w (.cells #[.slice FA fn FC, .slice VA vn VC] 247) (bxX op A n c nm v)
  have H27 := Lib.hid h27
  clear h27
  go_enter_defers Tryz.func238, Tryz.ntmps238
  go_wp2_with (go_at_call 256; refine (HT.out _ (box4 w _ _ _ _)).mono ?_; rintro e w1 ⟨rfl, hb1⟩; have h271 := H27.out.below hb1; have H271 := Lib.hid h271; clear h271)
  have hbw : Below w.heap.size w w1 := (box4 w _ _ _ _).trans (hb1.mono (by simp; omega))
  clear hb1
  refine leaves_cons (f := 254) (args := #[.pointer (some ⟨w.heap.size + 1 + 1, 0, none⟩), .pointer (some ⟨w.heap.size + 1 + 1 + 1, 0, none⟩)]) (by simp) (by simp [go_sem]) ?_
  refine (catch_panicking (w.heap.size + 1 + 1) err [] _ H271.out).mono ?_
  rintro e u' w'' ⟨rfl, rfl, hb2, ⟨z0, z1, z2, z3, z4⟩, z5⟩
  simp [Leaves, settle, results, Tryz.results238, go_sem, z0, z1, z2, z3, z4, z5]
  exact ⟨rfl, hbw.trans (hb2.mono (by omega))⟩
theorem reckon_any (FA : Option Addr) (fn FC : Nat) (VA : Option Addr) (vn VC : Nat) (op : Int) (A : Option Addr) (n c : Nat) (nm : ByteArray) (v : Vl) (w : World) (r : Vl × Int) (hr : r.2 = 0 → goodV r.1 = true ∧ okV r.1)
    (ht : ∀ W, Below w.heap.size w W → Calls Tryz.prog 256 #[agR FA fn FC VA vn VC, agX op A n c nm v] W (TellP r W)) :
    Calls Tryz.prog 238 #[agR FA fn FC VA vn VC, agX op A n c nm v] w (VMk (pairVE (endV r).1 (endV r).2) w) := by
  by_cases h0 : r.2 = 0
  · have he : endV r = (setV r.1, 0) := by unfold endV; rw [if_pos h0]
    rw [he]
    exact reckon_good FA fn FC VA vn VC op A n c nm v w r.1 (hr h0).1 (hr h0).2 (fun W hb => (ht W hb).mono fun e w' h => ⟨h.1.trans (if_pos h0), h.2⟩)
  · have he : endV r = (vZero, r.2) := by unfold endV; rw [if_neg h0]
    rw [he]
    exact reckon_bad FA fn FC VA vn VC op A n c nm v w r.2 (fun W hb => (ht W hb).mono fun e w' h => ⟨h.1.trans (if_neg h0), h.2⟩)

def fitB (f : Fd) (v : Vl) : Bool := goodV v && (v.k == f.kind)
theorem fit_all (fs : List Fd) (vs : List Vl) (h : fs.length = vs.length) (ha : ∀ (j : Nat) (hj : j < fs.length) (hj' : j < vs.length), fitB fs[j] vs[j] = true) : fitX fs vs = true := by
  unfold fitX
  rw [Bool.and_eq_true, List.all_eq_true]
  refine ⟨by simpa using h, fun p hp => ?_⟩
  obtain ⟨j, hj, e⟩ := List.getElem_of_mem hp
  rw [List.length_zip] at hj
  have := ha j (by omega) (by omega)
  rw [← e, List.getElem_zip]
  exact this
theorem fit_len (fs : List Fd) (vs : List Vl) (h : fs.length ≠ vs.length) : fitX fs vs = false := by
  unfold fitX
  rw [show (fs.length == vs.length) = false by simpa using h]; rfl
theorem fit_no (fs : List Fd) (vs : List Vl) (j : Nat) (hj : j < fs.length) (hj' : j < vs.length) (ha : fitB fs[j] vs[j] = false) : fitX fs vs = false := by
  unfold fitX
  rw [Bool.and_eq_false_iff]
  refine .inr ?_
  rw [← Bool.not_eq_true, List.all_eq_true]
  intro h
  have := h (fs[j], vs[j]) (by rw [List.mem_iff_getElem]; exact ⟨j, by rw [List.length_zip]; omega, List.getElem_zip⟩)
  unfold fitB at ha
  rw [ha] at this
  cases this
set_option maxHeartbeats 2000000 in
theorem fit_prog (FA : Option Addr) (FC : Nat) (fs : List Fd) (VA : Option Addr) (VC : Nat) (vs : List Vl) (w : World) (hf : FdK w FA FC fs) (hv : VlK w VA VC vs) :
    Calls Tryz.prog 237 #[.slice VA vs.length VC, .slice FA fs.length FC] w (VMk (.bool (fitX fs vs)) w) := by
  obtain ⟨f1, f2, f3, f4⟩ := hf
  obtain ⟨v1, v2, v3, v4⟩ := hv
  unfold maxLen at f2 v2
  have hfl : fs.length ≤ 9223372036854775807 := by omega
  have hvl : vs.length ≤ 9223372036854775807 := by omega
  have F4 := Lib.hid f4
  have V4 := Lib.hid v4
  clear f1 f2 f3 f4 v1 v2 v3 v4
  have hsf := fun (w : World) (a : Addr) (m : Mode) (b : Nat) => run_store Tryz.prog w a (.float .f64 b) m rfl
  by_cases hl : fs.length = vs.length
  · have hne : ((vs.length : Int) != (fs.length : Int)) = false := by simp [hl]
    have HALLF := Lib.hid (fit_all fs vs hl)
    have HNOF := Lib.hid (fit_no fs vs)
    have HL := Lib.hid hl
    clear hl
    go_enter Tryz.func237, Tryz.ntmps237
    go_wp2
    go_loopw [14] (fun i wr => ∃ k : Nat, k ≤ vs.length ∧ i = .int .i64 k ∧ (∀ (j : Nat) (hj : j < fs.length) (hj' : j < vs.length), j < k → fitB fs[j] vs[j] = true) ∧ Below w.heap.size w wr) (fun i _ => vs.length - (intOf i).toNat)
    case atStart => exact ⟨0, Nat.zero_le _, rfl, fun j hj hj' h => absurd h (Nat.not_lt_zero _), Below.refl _ _⟩
    case round =>
      obtain ⟨k, hk, rfl, hall, hb⟩ := hrel
      by_cases hlt : k < vs.length
      · have hlf : k < fs.length := by rw [HL.out]; exact hlt
        have hltF : (k : Int) < (fs.length : Int) := by omega
        have hltV : (k : Int) < (vs.length : Int) := by omega
        have hi0 : (0 : Int) ≤ (k : Int) := by omega
        obtain ⟨fad, A', n', c', y, rfl, hbl, hq⟩ := F4.out k hlf
        obtain ⟨vad, rfl, hbl2, hq2⟩ := V4.out k hlt
        have hqf := fun W (h : Below w.heap.size w W) => (hq.below h (by rw [block_add]; exact hbl)).2.1
        have hqv := fun W (h : Below w.heap.size w W) => hq2.below h (by rw [block_add]; exact hbl2)
        have hall2 : fitB fs[k] vs[k] = true → ∀ (j : Nat) (hj : j < fs.length) (hj' : j < vs.length), j < k + 1 → fitB fs[j] vs[j] = true := fun h j hj hj' hjk => by
          by_cases e : j < k
          · exact hall j hj hj' e
          · obtain rfl : j = k := by omega
            exact h
        have hno : fitB fs[k] vs[k] = false → fitX fs vs = false := HNOF.out k hlf hlt
        unfold fitB at hall2 hno
        have hg := Good_val vs[k]
        clear hall hq hq2
        generalize fs[k].kind = fk at *
        generalize vs[k] = vv at *
        have HQF := Lib.hid hqf
        have HQV := Lib.hid hqv
        generalize goodV vv = gv at hg hall2 hno
        have HG := Lib.hid hg
        clear hg hqf hqv
        obtain ⟨q0, q1, q2, q3, q4⟩ := HQV.out _ hb
        have hbox := Bx.new wr vv
        have HK := Lib.hid (fun (W W' : World) (h : Below w.heap.size w W ∧ W.cell? ⟨(fad.add (k * 8)).block, (fad.add (k * 8)).off + 1, none⟩ = some (.int .i64 fk) ∧ W.cell? ⟨wr.heap.size, 0, none⟩ = some (.int .i64 vv.k) ∧ W.cell? ⟨wr.heap.size, 1, none⟩ = some (.int .i64 vv.i) ∧ W.cell? ⟨wr.heap.size, 2, none⟩ = some (.bool vv.b) ∧ W.cell? ⟨wr.heap.size, 3, none⟩ = some (.string vv.s) ∧ W.cell? ⟨wr.heap.size, 4, none⟩ = some (.float .f64 vv.n)) (hb : Below W.heap.size W W') => (show Below w.heap.size w W' ∧ W'.cell? ⟨(fad.add (k * 8)).block, (fad.add (k * 8)).off + 1, none⟩ = some (.int .i64 fk) ∧ W'.cell? ⟨wr.heap.size, 0, none⟩ = some (.int .i64 vv.k) ∧ W'.cell? ⟨wr.heap.size, 1, none⟩ = some (.int .i64 vv.i) ∧ W'.cell? ⟨wr.heap.size, 2, none⟩ = some (.bool vv.b) ∧ W'.cell? ⟨wr.heap.size, 3, none⟩ = some (.string vv.s) ∧ W'.cell? ⟨wr.heap.size, 4, none⟩ = some (.float .f64 vv.n) from ⟨h.1.trans (hb.mono h.1.size), HQF.out _ (h.1.trans (hb.mono h.1.size)), (show Bx W wr.heap.size vv from h.2.2).below hb⟩))
        have hS1 : (fun W => Below w.heap.size w W ∧ W.cell? ⟨(fad.add (k * 8)).block, (fad.add (k * 8)).off + 1, none⟩ = some (.int .i64 fk) ∧ W.cell? ⟨wr.heap.size, 0, none⟩ = some (.int .i64 vv.k) ∧ W.cell? ⟨wr.heap.size, 1, none⟩ = some (.int .i64 vv.i) ∧ W.cell? ⟨wr.heap.size, 2, none⟩ = some (.bool vv.b) ∧ W.cell? ⟨wr.heap.size, 3, none⟩ = some (.string vv.s) ∧ W.cell? ⟨wr.heap.size, 4, none⟩ = some (.float .f64 vv.n)) (wr.alloc (.cells #[.int .i64 vv.k, .int .i64 vv.i, .bool vv.b, .string vv.s, .float .f64 vv.n] 55)).drew := ⟨(hb.alloc hb.size _).drew, HQF.out _ (hb.alloc hb.size _).drew, hbox⟩
        clear hbox
        rcases gv with _ | _
        · have HNO := Lib.hid (hno (by rfl))
          clear hall2 hno
          go_wp2_with fail
          refine wp_region_held_drew (S := (fun W => Below w.heap.size w W ∧ W.cell? ⟨(fad.add (k * 8)).block, (fad.add (k * 8)).off + 1, none⟩ = some (.int .i64 fk) ∧ W.cell? ⟨wr.heap.size, 0, none⟩ = some (.int .i64 vv.k) ∧ W.cell? ⟨wr.heap.size, 1, none⟩ = some (.int .i64 vv.i) ∧ W.cell? ⟨wr.heap.size, 2, none⟩ = some (.bool vv.b) ∧ W.cell? ⟨wr.heap.size, 3, none⟩ = some (.string vv.s) ∧ W.cell? ⟨wr.heap.size, 4, none⟩ = some (.float .f64 vv.n))) (by kernel_rfl) (hS1) (fun hHeld => ?_)
          refine tk 0 ?_
          (try simp only [Act.put, sA, sB, sC])
          refine wpAnyH_ready (rs := [1]) (by kernel_rfl) (by simp) ?_
          refine AllReadyH.cons (o := ?o2) ?g2 (fun K hK => ?j2) AllReadyH.nil
          case g2 => (simp only [gA, gB, gC]; rfl)
          go_simp
          refine (HG.out _).mono ?_; rintro e w2 ⟨rfl, hb2⟩
          refine hK.out _ _ ?_ (fun hHeld => ?_)
          · (try dsimp only); exact HK.out _ _ hHeld hb2
          clear hK K
          (try simp only [Act.put, sA, sB, sC])
          refine tk 2 ?_
          (try simp only [Act.put, sA, sB, sC])
          refine tk 3 ?_
          (try simp only [Act.put, sA, sB, sC])
          refine sk 4 ?_
          (try simp only [Act.put, sA, sB, sC])
          refine sk 5 ?_
          (try simp only [Act.put, sA, sB, sC])
          refine sk 6 ?_
          (try simp only [Act.put, sA, sB, sC])
          refine sk 7 ?_
          (try simp only [Act.put, sA, sB, sC])
          refine sk 8 ?_
          (try simp only [Act.put, sA, sB, sC])
          refine sk 9 ?_
          (try simp only [Act.put, sA, sB, sC])
          refine sk 10 ?_
          (try simp only [Act.put, sA, sB, sC])
          refine sk 11 ?_
          (try simp only [Act.put, sA, sB, sC])
          refine tk 12 ?_
          (try simp only [Act.put, sA, sB, sC])
          refine wpAnyH_done (by kernel_rfl) ?_ _
          go_wp2_with fail
          go_ret
          exact ⟨ret_bool HNO.out.symm, hHeld.1⟩
        · rcases hk : (vv.k == fk) with _ | _
          · have hkk : (vv.k != fk) = true := by rw [bne, hk]; rfl
            have HNO := Lib.hid (hno (by rw [hk]; rfl))
            clear hall2 hno
            go_wp2_with fail
            refine wp_region_held_drew (S := (fun W => Below w.heap.size w W ∧ W.cell? ⟨(fad.add (k * 8)).block, (fad.add (k * 8)).off + 1, none⟩ = some (.int .i64 fk) ∧ W.cell? ⟨wr.heap.size, 0, none⟩ = some (.int .i64 vv.k) ∧ W.cell? ⟨wr.heap.size, 1, none⟩ = some (.int .i64 vv.i) ∧ W.cell? ⟨wr.heap.size, 2, none⟩ = some (.bool vv.b) ∧ W.cell? ⟨wr.heap.size, 3, none⟩ = some (.string vv.s) ∧ W.cell? ⟨wr.heap.size, 4, none⟩ = some (.float .f64 vv.n))) (by kernel_rfl) (hS1) (fun hHeld => ?_)
            refine tk 0 ?_
            (try simp only [Act.put, sA, sB, sC])
            refine wpAnyH_ready (rs := [1]) (by kernel_rfl) (by simp) ?_
            refine AllReadyH.cons (o := ?o15) ?g15 (fun K hK => ?j15) AllReadyH.nil
            case g15 => (simp only [gA, gB, gC]; rfl)
            go_simp
            refine (HG.out _).mono ?_; rintro e w2 ⟨rfl, hb2⟩
            refine hK.out _ _ ?_ (fun hHeld => ?_)
            · (try dsimp only); exact HK.out _ _ hHeld hb2
            clear hK K
            (try simp only [Act.put, sA, sB, sC])
            refine tk 2 ?_
            (try simp only [Act.put, sA, sB, sC])
            refine tk 3 ?_
            (try simp only [Act.put, sA, sB, sC])
            refine tk 4 ?_
            (try simp only [Act.put, sA, sB, sC])
            refine tk 5 ?_
            (try simp only [Act.put, sA, sB, sC])
            refine tk 6 ?_
            (try simp only [Act.put, sA, sB, sC])
            refine tk 7 ?_
            (try simp only [Act.put, sA, sB, sC])
            refine tk 8 ?_
            (try simp only [Act.put, sA, sB, sC])
            refine tk 9 ?_
            (try simp only [Act.put, sA, sB, sC])
            refine tk 10 ?_
            (try simp only [Act.put, sA, sB, sC])
            refine tk 11 ?_
            (try simp only [Act.put, sA, sB, sC])
            refine tk 12 ?_
            (try simp only [Act.put, sA, sB, sC])
            refine wpAnyH_done (by kernel_rfl) ?_ _
            go_wp2_with fail
            go_ret
            exact ⟨ret_bool HNO.out.symm, hHeld.1⟩
          · have hkk : (vv.k != fk) = false := by rw [bne, hk]; rfl
            have HALL := Lib.hid (hall2 (by rw [hk]; rfl))
            clear hall2 hno
            go_wp2_with fail
            refine wp_region_held_drew (S := (fun W => Below w.heap.size w W ∧ W.cell? ⟨(fad.add (k * 8)).block, (fad.add (k * 8)).off + 1, none⟩ = some (.int .i64 fk) ∧ W.cell? ⟨wr.heap.size, 0, none⟩ = some (.int .i64 vv.k) ∧ W.cell? ⟨wr.heap.size, 1, none⟩ = some (.int .i64 vv.i) ∧ W.cell? ⟨wr.heap.size, 2, none⟩ = some (.bool vv.b) ∧ W.cell? ⟨wr.heap.size, 3, none⟩ = some (.string vv.s) ∧ W.cell? ⟨wr.heap.size, 4, none⟩ = some (.float .f64 vv.n))) (by kernel_rfl) (hS1) (fun hHeld => ?_)
            refine tk 0 ?_
            (try simp only [Act.put, sA, sB, sC])
            refine wpAnyH_ready (rs := [1]) (by kernel_rfl) (by simp) ?_
            refine AllReadyH.cons (o := ?o28) ?g28 (fun K hK => ?j28) AllReadyH.nil
            case g28 => (simp only [gA, gB, gC]; rfl)
            go_simp
            refine (HG.out _).mono ?_; rintro e w2 ⟨rfl, hb2⟩
            refine hK.out _ _ ?_ (fun hHeld => ?_)
            · (try dsimp only); exact HK.out _ _ hHeld hb2
            clear hK K
            (try simp only [Act.put, sA, sB, sC])
            refine tk 2 ?_
            (try simp only [Act.put, sA, sB, sC])
            refine tk 3 ?_
            (try simp only [Act.put, sA, sB, sC])
            refine tk 4 ?_
            (try simp only [Act.put, sA, sB, sC])
            refine tk 5 ?_
            (try simp only [Act.put, sA, sB, sC])
            refine tk 6 ?_
            (try simp only [Act.put, sA, sB, sC])
            refine tk 7 ?_
            (try simp only [Act.put, sA, sB, sC])
            refine tk 8 ?_
            (try simp only [Act.put, sA, sB, sC])
            refine tk 9 ?_
            (try simp only [Act.put, sA, sB, sC])
            refine tk 10 ?_
            (try simp only [Act.put, sA, sB, sC])
            refine tk 11 ?_
            (try simp only [Act.put, sA, sB, sC])
            refine tk 12 ?_
            (try simp only [Act.put, sA, sB, sC])
            refine wpAnyH_done (by kernel_rfl) ?_ _
            go_wp2_with fail
            go_roundw
            case rel => exact ⟨k + 1, by omega, by go_num, HALL.out, hHeld.1⟩
            case measure => simp [intOf]; omega
      · have HF := Lib.hid (HALLF.out fun j hj hj' => hall j hj hj' (by omega))
        have hkl : k = vs.length := by omega
        have hkf : ¬ (k : Int) < (fs.length : Int) := by rw [HL.out]; omega
        have hkv : ¬ (k : Int) < (vs.length : Int) := by omega
        clear hall hkl
        go_wp2
        go_ret
        exact ⟨ret_bool HF.out.symm, hb⟩
  · have hne : ((vs.length : Int) != (fs.length : Int)) = true := by simp; omega
    have HNO := Lib.hid (fit_len fs vs hl)
    clear hl
    go_enter Tryz.func237, Tryz.ntmps237
    go_wp2
    go_ret
    exact ⟨ret_bool HNO.out.symm, Below.refl _ _⟩

def evalP (e : Ex) (fs : List Fd) (vs : List Vl) : Vl × Int := if (checkX e fs).2 ≠ 0 then (vZero, (checkX e fs).2) else if fitX fs vs = true then endV (evX 6 e fs vs) else (vZero, 1)
set_option maxHeartbeats 1000000 in
theorem Eval_any (FA : Option Addr) (FC : Nat) (fs : List Fd) (VA : Option Addr) (VC : Nat) (vs : List Vl) (D : Nat) (e : Ex) (A : Option Addr) (c : Nat) (w : World) (hx : ExK w D A c e) (hf : FdK w FA FC fs) (hv : VlK w VA VC vs) (hok : okX 6 e) (hvs : ∀ v ∈ vs, okV v) :
    Calls Tryz.prog 207 #[agX e.op A e.kids.length c e.name e.val, .slice FA fs.length FC, .slice VA vs.length VC] w (VMk (pairVE (evalP e fs vs).1 (evalP e fs vs).2) w) := by
  have hsf := fun (w : World) (a : Addr) (m : Mode) (b : Nat) => run_store Tryz.prog w a (.float .f64 b) m rfl
  have hc : ∀ W, Below w.heap.size w W → Calls Tryz.prog 220 #[agX e.op A e.kids.length c e.name e.val, .slice FA fs.length FC] W (VMk (pairII (checkX e fs)) W) := fun W hb => eCheck_any FA FC fs D e A c W (hx.below hb (Nat.le_refl _)) (hf.below hb (Nat.le_refl _))
  have hfit : ∀ W, Below w.heap.size w W → Calls Tryz.prog 237 #[.slice VA vs.length VC, .slice FA fs.length FC] W (VMk (.bool (fitX fs vs)) W) := fun W hb => fit_prog FA FC fs VA VC vs W (hf.below hb (Nat.le_refl _)) (hv.below hb (Nat.le_refl _))
  have hrk : (checkX e fs).2 = 0 → fitX fs vs = true → ∀ W, Below w.heap.size w W → Calls Tryz.prog 238 #[agR FA fs.length FC VA vs.length VC, agX e.op A e.kids.length c e.name e.val] W (VMk (pairVE (endV (evX 6 e fs vs)).1 (endV (evX 6 e fs vs)).2) W) := fun h0 hft W hb => by
    have hsm : smallX e = true := by
      cases hs : smallX e with
      | true => rfl
      | false =>
        have : checkX e fs = (0, 51) := by unfold checkX; rw [hs]; rfl
        rw [this] at h0; exact absurd h0 (by decide)
    have hck : chkX 6 e fs = ((chkX 6 e fs).1, 0) := by
      have : checkX e fs = chkX 6 e fs := by unfold checkX; rw [hsm]; rfl
      rw [this] at h0
      exact pair_of h0
    have hdp := ((smallX_iff e).1 hsm).1
    have hsd := ev_sound fs vs hft hvs 6 e _ hok hdp hck
    exact reckon_any FA fs.length FC VA vs.length VC e.op A e.kids.length c e.name e.val W (evX 6 e fs vs) (fun h => ⟨(snd_ok hsd h).1, (snd_ok hsd h).2.1⟩) (fun W' hb' => tell_any FA FC fs VA VC vs hft hvs D 6 e A c _ W' (hx.below (hb.trans (hb'.mono hb.size)) (Nat.le_refl _)) (hf.below (hb.trans (hb'.mono hb.size)) (Nat.le_refl _)) (hv.below (hb.trans (hb'.mono hb.size)) (Nat.le_refl _)) hok hdp hck)
  have hev : evalP e fs vs = if (checkX e fs).2 ≠ 0 then (vZero, (checkX e fs).2) else if fitX fs vs = true then endV (evX 6 e fs vs) else (vZero, 1) := rfl
  rw [hev]
  clear hev hx hf hv hok hvs
  generalize endV (evX 6 e fs vs) = r at hrk ⊢
  generalize checkX e fs = ck at hc hrk ⊢
  generalize fitX fs vs = ft at hfit hrk ⊢
  generalize e.kids.length = n at *
  generalize e.op = eop at *
  generalize e.name = enm at *
  generalize e.val = ev at *
  obtain ⟨ck1, ck2⟩ := ck
  have HC := Lib.hid hc
  have HF := Lib.hid hfit
  clear hc hfit
  by_cases h0 : ck2 = 0
  · subst h0
    rw [if_neg (fun h => h rfl)]
    rcases ft with _ | _
    · rw [if_neg (by decide)]
      clear hrk
      go_enter Tryz.func207, Tryz.ntmps207
      go_wp2_with (first
        | (go_at_call 220; refine (HC.out _ (vbox2 w _ _)).mono ?_; rintro e w1 ⟨rfl, hb1⟩; have B1 : Below w.heap.size w w1 := (vbox2 w _ _).trans (hb1.mono (by simp; omega)); have hz : w.heap.size + 1 < w1.heap.size := by { have := hb1.size; simp at this; omega }; obtain ⟨hc1, hf1⟩ := bcell hb1)
        | (go_at_call 237; refine (HF.out _ B1).mono ?_; rintro e w2 ⟨rfl, hb2⟩; obtain ⟨hc2, hf2⟩ := bcell hb2; have hz2 : w.heap.size + 1 < w2.heap.size := by { have := hb2.size; omega }))
      exact bodyPost_ret (v := pairVE vZero 1) (by simp [results, Tryz.results207, go_sem, hc1, hc2, hz, hz2]) rfl ⟨rfl, vbox2_set w _ _ hb1 hb2 _ _ _ _ _⟩
    · rw [if_pos rfl]
      have hrk := hrk rfl rfl
      have HR := Lib.hid hrk
      clear hrk
      obtain ⟨r1, r2⟩ := r
      have hbx := (Kid_new w eop A n c enm ev).below (alloc1 _ (.cells #[.int .i64 0, .int .i64 0, .bool false, .string { data := #[] }, .float .f64 0] 55))
      have HBX := Lib.hid hbx
      clear hbx
      go_enter Tryz.func207, Tryz.ntmps207
      go_wp2_with (first
        | (go_at_call 220; refine (HC.out _ (vbox2 w _ _)).mono ?_; rintro e w1 ⟨rfl, hb1⟩; have B1 : Below w.heap.size w w1 := (vbox2 w _ _).trans (hb1.mono (by simp; omega)); have hz : w.heap.size + 1 < w1.heap.size := by { have := hb1.size; simp at this; omega }; have HB1 := Lib.hid (HBX.out.below hb1); obtain ⟨hc1, hf1⟩ := bcell hb1)
        | (go_at_call 237; refine (HF.out _ B1).mono ?_; rintro e w2 ⟨rfl, hb2⟩; have B2 : Below w.heap.size w w2 := B1.trans (hb2.mono B1.size); obtain ⟨d0, d1, d2, d3, d4, d5, d6, d7⟩ := HB1.out.below hb2; obtain ⟨hc2, hf2⟩ := bcell hb2; have hz2 : w.heap.size + 1 < w2.heap.size := by { have := hb2.size; omega })
        | (go_at_call 238; refine (HR.out _ B2).mono ?_; rintro e w3 ⟨rfl, hb3⟩; obtain ⟨hc3, hf3⟩ := bcell hb3; have hz3 : w.heap.size + 1 < w3.heap.size := by { have := hb3.size; omega }))
      exact bodyPost_ret (v := pairVE r1 r2) (by simp [results, Tryz.results207, go_sem, hc1, hc2, hc3, hz, hz2, hz3]) rfl ⟨rfl, below_set5 (B2.trans (hb3.mono B2.size)) (by omega) _ _ _ _ _⟩
  · rw [if_pos h0]
    have hne : (ck2 != 0) = true := by simpa using h0
    clear hrk h0
    go_enter Tryz.func207, Tryz.ntmps207
    go_wp2_with (first
      | (go_at_call 220; refine (HC.out _ (vbox2 w _ _)).mono ?_; rintro e w1 ⟨rfl, hb1⟩; obtain ⟨hc1, hf1⟩ := bcell hb1; have hz : w.heap.size + 1 < w1.heap.size := by { have := hb1.size; simp at this; omega }))
    exact bodyPost_ret (v := pairVE vZero ck2) (by simp [results, Tryz.results207, go_sem, hc1, hz]) rfl ⟨rfl, vbox2_set w _ _ hb1 (Below.refl _ _) _ _ _ _ _⟩



/-! in memory -/
def ExE (w : World) (A : Option Addr) (c : Nat) (e : Ex) : Prop := ∃ D, ExK w D A c e
theorem ExK.more {w : World} : ∀ {D : Nat} {A : Option Addr} {c : Nat} {e : Ex}, ExK w D A c e → ExK w (D + 1) A c e
  | 0, _, _, _, h => False.elim h
  | D + 1, A, c, e, h => by
    obtain ⟨h1, h2, h3, h4⟩ := h
    refine ⟨h1, h2, h3, fun j hj => ?_⟩
    obtain ⟨ad, A', c', e1, e2, e3, e4⟩ := h4 j hj
    exact ⟨ad, A', c', e1, e2, e3, ExK.more e4⟩
theorem ExK.upto {w : World} {D : Nat} {A : Option Addr} {c : Nat} {e : Ex} (h : ExK w D A c e) : ∀ n, ExK w (D + n) A c e
  | 0 => h
  | n + 1 => (ExK.upto h n).more
theorem ExE.below {w w' : World} {A : Option Addr} {c : Nat} {e : Ex} (h : ExE w A c e) (hb : Below w.heap.size w w') : ExE w' A c e := let ⟨D, h⟩ := h; ⟨D, h.below hb (Nat.le_refl _)⟩
theorem ExE.leaf (w : World) (e : Ex) (h : e.kids = []) : ExE w none 0 e := ⟨1, ExK.leaf w 0 e h⟩
theorem kid_row (w : World) (g i : Nat) (cs : Array Value) (t : TypeId) (h : w.heap[g]? = some (.cells cs t (0, 0))) (op : Int) (A : Option Addr) (n c : Nat) (nm : ByteArray) (y : Vl)
    (h0 : cs[i]? = some (.int .i64 op)) (h1 : cs[i + 1]? = some (.slice A n c)) (h2 : cs[i + 2]? = some (.string nm)) (h3 : cs[i + 3]? = some (.int .i64 y.k)) (h4 : cs[i + 4]? = some (.int .i64 y.i)) (h5 : cs[i + 5]? = some (.bool y.b)) (h6 : cs[i + 6]? = some (.string y.s)) (h7 : cs[i + 7]? = some (.float .f64 y.n)) :
    Kid w ⟨g, i, none⟩ op A n c nm y :=
  ⟨(cell_of_row w g _ _ _ (0, 0) h).trans h0, (cell_of_row w g _ _ _ (0, 0) h).trans h1, (cell_of_row w g _ _ _ (0, 0) h).trans h2, (cell_of_row w g _ _ _ (0, 0) h).trans h3, (cell_of_row w g _ _ _ (0, 0) h).trans h4, (cell_of_row w g _ _ _ (0, 0) h).trans h5, (cell_of_row w g _ _ _ (0, 0) h).trans h6, (cell_of_row w g _ _ _ (0, 0) h).trans h7⟩
abbrev row2 (p0 : Int) (A0 : Option Addr) (n0 c0 : Nat) (m0 : ByteArray) (y0 : Vl) (p1 : Int) (A1 : Option Addr) (n1 c1 : Nat) (m1 : ByteArray) (y1 : Vl) : Obj :=
  .cells #[.int .i64 p0, .slice A0 n0 c0, .string m0, .int .i64 y0.k, .int .i64 y0.i, .bool y0.b, .string y0.s, .float .f64 y0.n, .int .i64 p1, .slice A1 n1 c1, .string m1, .int .i64 y1.k, .int .i64 y1.i, .bool y1.b, .string y1.s, .float .f64 y1.n] 77
theorem ExE.two {w : World} {A0 A1 : Option Addr} {c0 c1 : Nat} {e0 e1 : Ex} (o : Int) (h0 : ExE w A0 c0 e0) (h1 : ExE w A1 c1 e1) :
    ExE (w.alloc (row2 e0.op A0 e0.kids.length c0 e0.name e0.val e1.op A1 e1.kids.length c1 e1.name e1.val)) (some ⟨w.heap.size, 0, none⟩) 2 (opX o [e0, e1]) := by
  obtain ⟨D0, h0⟩ := h0
  obtain ⟨D1, h1⟩ := h1
  have hn := heap_alloc_new w (row2 e0.op A0 e0.kids.length c0 e0.name e0.val e1.op A1 e1.kids.length c1 e1.name e1.val)
  have hb : Below w.heap.size w (w.alloc (row2 e0.op A0 e0.kids.length c0 e0.name e0.val e1.op A1 e1.kids.length c1 e1.name e1.val)) := alloc1 _ _
  have g0 := (h0.upto D1).below hb (Nat.le_refl _)
  have g1 := (h1.upto D0).below hb (Nat.le_refl _)
  rw [Nat.add_comm] at g1
  refine ⟨D0 + D1 + 1, Nat.le_refl _, by unfold maxLen; show 2 ≤ 2 ^ 63 - 1; omega, fun h => (by cases h), fun j hj => ?_⟩
  have hj2 : j < 2 := hj
  match j, hj2 with
  | 0, _ => exact ⟨_, A0, c0, rfl, by simp, by rw [Addr.add_lit]; exact kid_row _ _ _ _ _ hn _ _ _ _ _ _ rfl rfl rfl rfl rfl rfl rfl rfl, g0⟩
  | 1, _ => exact ⟨_, A1, c1, rfl, by simp, by rw [Addr.add_lit]; exact kid_row _ _ _ _ _ hn _ _ _ _ _ _ rfl rfl rfl rfl rfl rfl rfl rfl, g1⟩

theorem cellp {w w' : World} {p : Addr} {x : Value} {B : Nat} (hb : Below B w w') (hl : p.block < B) (h : w.cell? p = some x) : w'.cell? p = some x := (hb.cell hl).trans h
def RowK {α : Type} (w : World) (K : Nat) (R : World → Addr → α → Prop) (A : Option Addr) (c : Nat) (l : List α) : Prop :=
  l.length ≤ c ∧ c ≤ maxLen ∧ (A = none → c = 0) ∧ ∀ j (hj : j < l.length), ∃ ad, A = some ad ∧ ad.block < w.heap.size ∧ R w (ad.add (j * K)) l[j]
theorem RowK.below {α : Type} {w w' : World} {K : Nat} {R : World → Addr → α → Prop} {A : Option Addr} {c : Nat} {l : List α} (hR : ∀ (p : Addr) (x : α), p.block < w.heap.size → R w p x → R w' p x) (h : RowK w K R A c l) (hz : w.heap.size ≤ w'.heap.size) : RowK w' K R A c l := by
  obtain ⟨h1, h2, h3, h4⟩ := h
  refine ⟨h1, h2, h3, fun j hj => ?_⟩
  obtain ⟨ad, e1, e2, e3⟩ := h4 j hj
  exact ⟨ad, e1, Nat.lt_of_lt_of_le e2 hz, hR _ _ (by rw [block_add]; exact e2) e3⟩
theorem RowK.none {α : Type} (w : World) (K : Nat) (R : World → Addr → α → Prop) : RowK w K R none 0 [] := ⟨Nat.le_refl _, Nat.zero_le _, fun _ => rfl, fun j hj => absurd hj (Nat.not_lt_zero _)⟩

def FldP (w : World) (p : Addr) (f : Fld) : Prop := ∃ A c, Fdp w p f.f.name f.f.kind A f.en.length c f.y ∧ Ss w (.slice A f.en.length c) f.en
def Is (w : World) (v : Value) (l : List Int) : Prop := Rd w v (l.map (Value.int .i64))
def StgP (w : World) (p : Addr) (s : Stg) : Prop := ∃ A c, w.cell? p = some (.string s.name) ∧ w.cell? ⟨p.block, p.off + 1, none⟩ = some (.int .i64 s.need) ∧ w.cell? ⟨p.block, p.off + 2, none⟩ = some (.slice A s.orgs.length c) ∧ Is w (.slice A s.orgs.length c) s.orgs
def EffP (w : World) (p : Addr) (e : Eff) : Prop := ∃ A c, w.cell? p = some (.string e.field) ∧ Kid w ⟨p.block, p.off + 1, none⟩ e.e.op A e.e.kids.length c e.e.name e.e.val ∧ ExE w A c e.e
abbrev EffK (w : World) : Option Addr → Nat → List Eff → Prop := RowK w 9 EffP
def MvP (w : World) (p : Addr) (m : Mv) : Prop := ∃ A c EA ec, w.cell? p = some (.string m.name) ∧ w.cell? ⟨p.block, p.off + 1, none⟩ = some (.int .i64 m.frm) ∧ w.cell? ⟨p.block, p.off + 2, none⟩ = some (.int .i64 m.too) ∧
  Kid w ⟨p.block, p.off + 3, none⟩ m.guard.op A m.guard.kids.length c m.guard.name m.guard.val ∧ ExE w A c m.guard ∧
  w.cell? ⟨p.block, p.off + 11, none⟩ = some (.slice EA m.effs.length ec) ∧ w.cell? ⟨p.block, p.off + 12, none⟩ = some (.int .i64 m.org) ∧ EffK w EA ec m.effs
theorem FldP.below {w w' : World} {p : Addr} {f : Fld} (h : FldP w p f) (hb : Below w.heap.size w w') (hl : p.block < w.heap.size) : FldP w' p f := by
  obtain ⟨A, c, h1, h2⟩ := h
  exact ⟨A, c, h1.below hb hl, h2.below hb (Nat.le_refl _)⟩
theorem StgP.below {w w' : World} {p : Addr} {s : Stg} (h : StgP w p s) (hb : Below w.heap.size w w') (hl : p.block < w.heap.size) : StgP w' p s := by
  obtain ⟨A, c, h1, h2, h3, h4⟩ := h
  exact ⟨A, c, cellp hb hl h1, cellp hb hl h2, cellp hb hl h3, Rd.below h4 hb (Nat.le_refl _)⟩
theorem EffP.below {w w' : World} {p : Addr} {e : Eff} (h : EffP w p e) (hb : Below w.heap.size w w') (hl : p.block < w.heap.size) : EffP w' p e := by
  obtain ⟨A, c, h1, h2, h3⟩ := h
  exact ⟨A, c, cellp hb hl h1, h2.below hb hl, h3.below hb⟩
theorem EffK.below {w w' : World} {A : Option Addr} {c : Nat} {l : List Eff} (h : EffK w A c l) (hb : Below w.heap.size w w') : EffK w' A c l := RowK.below (fun p x hl h => EffP.below h hb hl) h hb.size
theorem MvP.below {w w' : World} {p : Addr} {m : Mv} (h : MvP w p m) (hb : Below w.heap.size w w') (hl : p.block < w.heap.size) : MvP w' p m := by
  obtain ⟨A, c, EA, ec, h0, h1, h2, h3, h4, h5, h6, h7⟩ := h
  exact ⟨A, c, EA, ec, cellp hb hl h0, cellp hb hl h1, cellp hb hl h2, h3.below hb hl, h4.below hb, cellp hb hl h5, cellp hb hl h6, EffK.below h7 hb⟩
abbrev FldK (w : World) : Option Addr → Nat → List Fld → Prop := RowK w 8 FldP
abbrev StgK (w : World) : Option Addr → Nat → List Stg → Prop := RowK w 3 StgP
abbrev MvK (w : World) : Option Addr → Nat → List Mv → Prop := RowK w 13 MvP
theorem FldK.below {w w' : World} {A : Option Addr} {c : Nat} {l : List Fld} (h : FldK w A c l) (hb : Below w.heap.size w w') : FldK w' A c l := RowK.below (fun p x hl h => FldP.below h hb hl) h hb.size
theorem StgK.below {w w' : World} {A : Option Addr} {c : Nat} {l : List Stg} (h : StgK w A c l) (hb : Below w.heap.size w w') : StgK w' A c l := RowK.below (fun p x hl h => StgP.below h hb hl) h hb.size
theorem MvK.below {w w' : World} {A : Option Addr} {c : Nat} {l : List Mv} (h : MvK w A c l) (hb : Below w.heap.size w w') : MvK w' A c l := RowK.below (fun p x hl h => MvP.below h hb hl) h hb.size
theorem FldK.fdk {w : World} {A : Option Addr} {c : Nat} {l : List Fld} (h : FldK w A c l) : FdK w A c (l.map Fld.f) := by
  obtain ⟨h1, h2, h3, h4⟩ := h
  refine ⟨by simpa using h1, h2, h3, fun j hj => ?_⟩
  have hjl : j < l.length := by simpa using hj
  obtain ⟨ad, e1, e2, EA, ec, e3, -⟩ := h4 j hjl
  rw [List.getElem_map]
  exact ⟨ad, EA, _, ec, _, e1, e2, e3⟩
abbrev agC (nm : ByteArray) (FA : Option Addr) (fn fc : Nat) (SA : Option Addr) (sn sc : Nat) (MA : Option Addr) (mn mc : Nat) : Value := .agg #[.string nm, .slice FA fn fc, .slice SA sn sc, .slice MA mn mc]
structure CtK (w : World) (c : Ctr) (FA : Option Addr) (fc : Nat) (SA : Option Addr) (sc : Nat) (MA : Option Addr) (mc : Nat) : Prop where
  f : FldK w FA fc c.fs
  s : StgK w SA sc c.ss
  m : MvK w MA mc c.ms
theorem CtK.below {w w' : World} {c : Ctr} {FA : Option Addr} {fc : Nat} {SA : Option Addr} {sc : Nat} {MA : Option Addr} {mc : Nat} (h : CtK w c FA fc SA sc MA mc) (hb : Below w.heap.size w w') : CtK w' c FA fc SA sc MA mc := ⟨h.f.below hb, h.s.below hb, h.m.below hb⟩
structure okC (c : Ctr) : Prop where
  y : ∀ f ∈ c.fs, okV f.y ∧ in64 f.f.kind
  s : ∀ s ∈ c.ss, in64 s.need ∧ ∀ o ∈ s.orgs, in64 o
  m : ∀ m ∈ c.ms, in64 m.frm ∧ in64 m.too ∧ in64 m.org ∧ (∀ k, okX k m.guard) ∧ ∀ e ∈ m.effs, ∀ k, okX k e.e

end Go.Proofs.YtachhcabgggimaaGreat

namespace Go.Proofs.YtachhcabgggimaaGreat
open Go.RowKit Go.ChangeShapes Go.WideShapes Go.ChangeAt
set_option linter.unusedVariables false
set_option linter.unusedSimpArgs false
set_option maxRecDepth 20000

section
variable {H : Type} {enc : TypeId × Value → H} {W : World} {sp : Nat → Bool} {hd : Bool} {base : Nat} {v : Value} {d : DataW H} {ps : List MemPlace}

theorem open_expr8 : ∀ (fuel : Nat) (cs : List Value) (x : DataW H × List MemPlace), DataW.trod enc Tryz.prog W 0 sp hd fuel 77 cs = some x → cs.length = 8 →
    ∃ (e : Ex) (A : Option Addr) (c D : Nat), cs = [.int .i64 e.op, .slice A e.kids.length c, .string e.name, .int .i64 e.val.k, .int .i64 e.val.i, .bool e.val.b, .string e.val.s, .float .f64 e.val.n] ∧ ExK W D A c e ∧ (∀ k, okX k e) := by
  intro fuel
  induction fuel using Nat.strongRecOn with
  | _ fuel ih =>
    intro cs x ht hlen
    obtain ⟨ys, m, hm, -, -, hys, hfs⟩ := DataW.trod_struct Tryz.underlying77 ht
    match cs, hlen with
    | [c0, c1, c2, c3, c4, c5, c6, c7], _ =>
      match ys, hys with
      | [y0, y1, y2, y3], _ =>
        have k1 : Tryz.prog.cellsOf 3 = 1 := by kernel_rfl
        have k2 : Tryz.prog.cellsOf 75 = 1 := by kernel_rfl
        have k3 : Tryz.prog.cellsOf 9 = 1 := by kernel_rfl
        have k4 : Tryz.prog.cellsOf 55 = 5 := by kernel_rfl
        have g0 := hfs 0 _ rfl
        have g1 := hfs 1 _ rfl
        have g2 := hfs 2 _ rfl
        have g3 := hfs 3 _ rfl
        simp [k1, k2, k3, k4] at g0 g1 g2 g3
        obtain ⟨z0, e0, -, w0⟩ := DataW.trod_int Tryz.underlying3 g0
        obtain ⟨z2, e2, -⟩ := DataW.trod_string Tryz.underlying9 g2
        obtain ⟨y, e3, hy⟩ := open_value5 g3 rfl
        simp at e0 e2 e3
        obtain ⟨e3, e4, e5, e6, e7⟩ := e3
        subst e0 e2 e3 e4 e5 e6 e7
        rcases DataW.trod_slice Tryz.underlying75 g1 with ⟨hc, -⟩ | ⟨a, len', cap', elems, rest, n, hn, hc, -, -, hl, hmx, hel, hx, -, -⟩
        · simp at hc
          subst hc
          refine ⟨.mk z0 z2 y [], none, 0, 1, rfl, ExK.leaf W 0 _ rfl, fun k => ?_⟩
          cases k with
          | zero => trivial
          | succ k => exact ⟨hy, in64_of w0, fun k hk => by cases hk⟩
        · simp at hc
          subst hc
          have h8 : Tryz.prog.cellsOf 77 = 8 := by kernel_rfl
          have each : ∀ i, i < len' → ∃ (q : Ex × Option Addr × Nat × Nat), Kid W (a.add (i * 8)) q.1.op q.2.1 q.1.kids.length q.2.2.1 q.1.name q.1.val ∧ ExK W q.2.2.2 q.2.1 q.2.2.1 q.1 ∧ (∀ k, okX k q.1) := by
            intro i hi
            have h1 := hx i hi
            rw [h8, List.getElem?_eq_getElem (by omega)] at h1
            obtain ⟨cs, hcs, ht⟩ := Option.bind_eq_some_iff.1 h1
            obtain ⟨-, hlen, hat⟩ := World.cells?_some hcs
            obtain ⟨e, A, c, D, hce, hk, hok⟩ := ih n (by omega) cs _ ht hlen
            subst hce
            have e0 := hat 0 (by omega)
            have e1 := hat 1 (by omega)
            have e2 := hat 2 (by omega)
            have e3 := hat 3 (by omega)
            have e4 := hat 4 (by omega)
            have e5 := hat 5 (by omega)
            have e6 := hat 6 (by omega)
            have e7 := hat 7 (by omega)
            exact ⟨(e, A, c, D), ⟨by simpa [Addr.add_zero'] using e0, by simpa [Addr.add_succ'] using e1, by simpa [Addr.add_succ'] using e2, by simpa [Addr.add_succ'] using e3, by simpa [Addr.add_succ'] using e4, by simpa [Addr.add_succ'] using e5, by simpa [Addr.add_succ'] using e6, by simpa [Addr.add_succ'] using e7⟩, hk, hok⟩
          have inst : Inhabited (Ex × Option Addr × Nat × Nat) := ⟨(.mk 0 ⟨#[]⟩ ⟨0, 0, false, ⟨#[]⟩, 0⟩ [], none, 0, 0)⟩
          obtain ⟨f, hf⟩ := Deep.choose_lt each
          have hup : ∀ i, i < len' → ExK W (((List.range len').map fun j => (f j).2.2.2).sum) (f i).2.1 (f i).2.2.1 (f i).1 := fun i hi => by
            have hle : ∀ (l : List Nat) (j : Nat), j ∈ l → (f j).2.2.2 ≤ (l.map fun j => (f j).2.2.2).sum := by
              intro l
              induction l with
              | nil => intro j hj; cases hj
              | cons a l ih2 =>
                intro j hj
                rw [List.map_cons, List.sum_cons]
                rcases List.mem_cons.1 hj with rfl | hj
                · omega
                · have := ih2 j hj; omega
            obtain ⟨m, hm⟩ := Nat.exists_eq_add_of_le (hle (List.range len') i (List.mem_range.2 hi))
            rw [hm]
            exact ExK.upto (hf i hi).2.1 m
          refine ⟨.mk z0 z2 y ((List.range len').map fun j => (f j).1), some a, cap', ((List.range len').map fun j => (f j).2.2.2).sum + 1, ?_, ?_, fun k => ?_⟩
          · simp [Ex.kids, Ex.op, Ex.name, Ex.val]
          · refine ⟨by simpa [Ex.kids] using hl, hmx, fun h => (by cases h), fun j hj => ?_⟩
            have hjl : j < len' := by simpa [Ex.kids] using hj
            have hk := (hf j hjl).1
            refine ⟨a, (f j).2.1, (f j).2.2.1, rfl, ?_, ?_, ?_⟩
            · have := cell_lt hk.1
              rwa [block_add] at this
            · simpa [Ex.kids] using hk
            · simpa [Ex.kids] using hup j hjl
          · cases k with
            | zero => trivial
            | succ k =>
              refine ⟨hy, in64_of w0, fun x hx => ?_⟩
              obtain ⟨j, hj, rfl⟩ := List.mem_map.1 hx
              exact (hf j (List.mem_range.1 hj)).2.2 k
theorem open_vls {m : Nat} {x : DataW H × List MemPlace} {c : Value} (h : DataW.trod enc Tryz.prog W 0 sp hd m 42 [c] = some x) : ∃ (vs : List Vl) (A : Option Addr) (cap : Nat), c = .slice A vs.length cap ∧ VlK W A cap vs ∧ ∀ v ∈ vs, okV v := by
  rcases DataW.trod_slice Tryz.underlying42 h with ⟨hc, -⟩ | ⟨a, len', cap', elems, rest, n, -, hc, -, -, hl, hm, hel, hx, -, -⟩
  · injection hc with hc
    subst hc
    exact ⟨[], none, 0, rfl, ⟨Nat.le_refl _, Nat.zero_le _, fun _ => rfl, fun j hj => absurd hj (Nat.not_lt_zero _)⟩, fun v hv => by cases hv⟩
  · injection hc with hc
    subst hc
    have h5 : Tryz.prog.cellsOf 55 = 5 := by kernel_rfl
    have each : ∀ i, i < len' → ∃ (y : Vl), Vlp W (a.add (i * 5)) y ∧ okV y := by
      intro i hi
      have h1 := hx i hi
      rw [h5, List.getElem?_eq_getElem (by omega)] at h1
      obtain ⟨cs, hcs, ht⟩ := Option.bind_eq_some_iff.1 h1
      obtain ⟨-, hlen, hat⟩ := World.cells?_some hcs
      obtain ⟨y, hc, hok⟩ := open_value5 ht hlen
      subst hc
      have e0 := hat 0 (by omega)
      have e1 := hat 1 (by omega)
      have e2 := hat 2 (by omega)
      have e3 := hat 3 (by omega)
      have e4 := hat 4 (by omega)
      exact ⟨y, ⟨by simpa [Addr.add_zero'] using e0, by simpa [Addr.add_succ'] using e1, by simpa [Addr.add_succ'] using e2, by simpa [Addr.add_succ'] using e3, by simpa [Addr.add_succ'] using e4⟩, hok⟩
    have inst : Inhabited Vl := ⟨⟨0, 0, false, ⟨#[]⟩, 0⟩⟩
    obtain ⟨f, hf⟩ := Deep.choose_lt each
    refine ⟨(List.range len').map f, some a, cap', by simp, ⟨by simpa using hl, hm, fun h => (by cases h), fun j hj => ?_⟩, fun v hv => ?_⟩
    · have hjl : j < len' := by simpa using hj
      have hk := (hf j hjl).1
      refine ⟨a, rfl, ?_, ?_⟩
      · have := cell_lt hk.1
        rwa [block_add] at this
      · simpa using hk
    · obtain ⟨j, hj, rfl⟩ := List.mem_map.1 hv
      exact (hf j (List.mem_range.1 hj)).2
end
end Go.Proofs.YtachhcabgggimaaGreat

namespace Go.Proofs.YtachhcabgggimaaGreat
open Go.RowKit Go.ChangeShapes Go.WideShapes Go.ChangeAt
set_option linter.unusedVariables false
set_option linter.unusedSimpArgs false
set_option maxRecDepth 20000

section
variable {H : Type} {enc : TypeId × Value → H} {W : World} {sp : Nat → Bool} {hd : Bool} {base : Nat} {v : Value} {d : DataW H} {ps : List MemPlace}

theorem row_of {α : Type} (inst : Inhabited α) {m : Nat} {x : DataW H × List MemPlace} {c : Value} {T E : TypeId} {K : Nat} (R : World → Addr → α → Prop) (Q : α → Prop) (hu : Tryz.prog.underlying T = some (.slice E)) (hK : Tryz.prog.cellsOf E = K) (hR : ∀ p x, R W p x → p.block < W.heap.size)
    (hpart : ∀ n cs y p, DataW.trod enc Tryz.prog W 0 sp hd n E cs = some y → cs.length = K → (∀ i, i < K → W.cell? (p.add i) = cs[i]?) → ∃ z, R W p z ∧ Q z)
    (h : DataW.trod enc Tryz.prog W 0 sp hd m T [c] = some x) : ∃ (l : List α) (A : Option Addr) (cap : Nat), c = .slice A l.length cap ∧ RowK W K R A cap l ∧ ∀ z ∈ l, Q z := by
  rcases DataW.trod_slice hu h with ⟨hc, -⟩ | ⟨a, len', cap', elems, rest, n, -, hc, -, -, hl, hm, hel, hx, -, -⟩
  · injection hc with hc
    subst hc
    exact ⟨[], none, 0, rfl, RowK.none _ _ _, fun z hz => by cases hz⟩
  · injection hc with hc
    subst hc
    have each : ∀ i, i < len' → ∃ z, R W (a.add (i * K)) z ∧ Q z := fun i hi => by
      have h1 := hx i hi
      rw [hK, List.getElem?_eq_getElem (by omega)] at h1
      obtain ⟨cs, hcs, ht⟩ := Option.bind_eq_some_iff.1 h1
      obtain ⟨-, hlen, hat⟩ := World.cells?_some hcs
      exact hpart n cs _ _ ht hlen hat
    obtain ⟨f, hf⟩ := Deep.choose_lt each
    refine ⟨(List.range len').map f, some a, cap', by simp, ⟨by simpa using hl, hm, fun h => (by cases h), fun j hj => ?_⟩, fun z hz => ?_⟩
    · have hjl : j < len' := by simpa using hj
      have hk := (hf j hjl).1
      refine ⟨a, rfl, ?_, by simpa using hk⟩
      have := hR _ _ hk
      rwa [block_add] at this
    · obtain ⟨j, hj, rfl⟩ := List.mem_map.1 hz
      exact (hf j (List.mem_range.1 hj)).2
theorem open_is {m : Nat} {x : DataW H × List MemPlace} {c : Value} (h : DataW.trod enc Tryz.prog W 0 sp hd m 43 [c] = some x) : ∃ l, Is W c l ∧ ∀ o ∈ l, in64 o := by
  rcases DataW.trod_slice Tryz.underlying43 h with ⟨hc, -⟩ | ⟨a, len', cap', elems, rest, n, -, hc, -, -, hl, hm, hel, hx, -, -⟩
  · injection hc with hc
    subst hc
    exact ⟨[], Rd.nil W, fun o ho => by cases ho⟩
  · injection hc with hc
    subst hc
    have hone : Tryz.prog.cellsOf 3 = 1 := by kernel_rfl
    have each : ∀ i, i < len' → ∃ x : Int, W.cell? (a.add i) = some (.int .i64 x) ∧ in64 x := by
      intro i hi
      have h1 := hx i hi
      rw [hone, Nat.mul_one, List.getElem?_eq_getElem (by omega)] at h1
      obtain ⟨cs, hcs, ht⟩ := Option.bind_eq_some_iff.1 h1
      obtain ⟨-, hlen, hat⟩ := World.cells?_some hcs
      match cs, hlen with
      | [x], _ =>
        have h0 := hat 0 (by simp)
        rw [Addr.add_zero'] at h0
        obtain ⟨z, hz, -, hw⟩ := DataW.trod_int Tryz.underlying3 ht
        injection hz with hz
        exact ⟨z, by rw [h0, hz]; rfl, in64_of hw⟩
    have inst : Inhabited Int := ⟨0⟩
    obtain ⟨f, hf'⟩ := Deep.choose_lt each
    refine ⟨(List.range len').map f, ⟨some a, cap', by simp, by simpa using hl, hm, (by intro h; cases h), fun hne => ⟨a, rfl, ?_, ?_⟩⟩, fun o ho => ?_⟩
    · have hpos : 0 < len' := by
        rcases Nat.eq_zero_or_pos len' with h0 | h0
        · subst h0; exact absurd rfl hne
        · exact h0
      have := cell_lt (hf' 0 hpos).1
      rwa [block_add] at this
    · intro j u hj
      have hjl : j < len' := by
        have := (List.getElem?_eq_some_iff.1 hj).1
        simpa using this
      simp [hjl] at hj
      rw [← hj]
      exact (hf' j hjl).1
    · obtain ⟨j, hj, rfl⟩ := List.mem_map.1 ho
      exact (hf' j (List.mem_range.1 hj)).2
theorem part_fld (n : Nat) (cs : List Value) (x : DataW H × List MemPlace) (p : Addr) (ht : DataW.trod enc Tryz.prog W 0 sp hd n 83 cs = some x) (hlen : cs.length = 8) (hat : ∀ i, i < 8 → W.cell? (p.add i) = cs[i]?) : ∃ z, FldP W p z ∧ (okV z.y ∧ in64 z.f.kind) := by
  obtain ⟨ys, m, -, -, -, hys, hfs⟩ := DataW.trod_struct Tryz.underlying83 ht
  match cs, hlen with
  | [c0, c1, c2, c3, c4, c5, c6, c7], _ =>
    match ys, hys with
    | [y0, y1, y2, y3], _ =>
      have k1 : Tryz.prog.cellsOf 9 = 1 := by kernel_rfl
      have k2 : Tryz.prog.cellsOf 3 = 1 := by kernel_rfl
      have k3 : Tryz.prog.cellsOf 81 = 1 := by kernel_rfl
      have k4 : Tryz.prog.cellsOf 55 = 5 := by kernel_rfl
      have g0 := hfs 0 _ rfl
      have g1 := hfs 1 _ rfl
      have g2 := hfs 2 _ rfl
      have g3 := hfs 3 _ rfl
      simp [k1, k2, k3, k4] at g0 g1 g2 g3
      obtain ⟨z0, e0, -⟩ := DataW.trod_string Tryz.underlying9 g0
      obtain ⟨z1, e1, -, w1⟩ := DataW.trod_int Tryz.underlying3 g1
      obtain ⟨y, e3, hy⟩ := open_value5 g3 rfl
      obtain ⟨ss, hss⟩ := open_texts g2
      obtain ⟨A, c, rfl, -⟩ := hss.open
      simp at e0 e1 e3
      obtain ⟨e3, e4, e5, e6, e7⟩ := e3
      subst e0 e1 e3 e4 e5 e6 e7
      have e0 := hat 0 (by omega)
      have e1 := hat 1 (by omega)
      have e2 := hat 2 (by omega)
      have e3 := hat 3 (by omega)
      have e4 := hat 4 (by omega)
      have e5 := hat 5 (by omega)
      have e6 := hat 6 (by omega)
      have e7 := hat 7 (by omega)
      exact ⟨⟨⟨z0, z1⟩, ss, y⟩, ⟨A, c, ⟨by simpa [Addr.add_zero'] using e0, by simpa [Addr.add_succ'] using e1, by simpa [Addr.add_succ'] using e2, by simpa [Addr.add_succ'] using e3, by simpa [Addr.add_succ'] using e4, by simpa [Addr.add_succ'] using e5, by simpa [Addr.add_succ'] using e6, by simpa [Addr.add_succ'] using e7⟩, hss⟩, hy, in64_of w1⟩
theorem part_stg (n : Nat) (cs : List Value) (x : DataW H × List MemPlace) (p : Addr) (ht : DataW.trod enc Tryz.prog W 0 sp hd n 65 cs = some x) (hlen : cs.length = 3) (hat : ∀ i, i < 3 → W.cell? (p.add i) = cs[i]?) : ∃ z, StgP W p z ∧ (in64 z.need ∧ ∀ o ∈ z.orgs, in64 o) := by
  obtain ⟨ys, m, -, -, -, hys, hfs⟩ := DataW.trod_struct Tryz.underlying65 ht
  match cs, hlen with
  | [c0, c1, c2], _ =>
    match ys, hys with
    | [y0, y1, y2], _ =>
      have k1 : Tryz.prog.cellsOf 9 = 1 := by kernel_rfl
      have k2 : Tryz.prog.cellsOf 3 = 1 := by kernel_rfl
      have k3 : Tryz.prog.cellsOf 43 = 1 := by kernel_rfl
      have g0 := hfs 0 _ rfl
      have g1 := hfs 1 _ rfl
      have g2 := hfs 2 _ rfl
      simp [k1, k2, k3] at g0 g1 g2
      obtain ⟨z0, e0, -⟩ := DataW.trod_string Tryz.underlying9 g0
      obtain ⟨z1, e1, -, w1⟩ := DataW.trod_int Tryz.underlying3 g1
      obtain ⟨l, hl, hok⟩ := open_is g2
      have hl2 := hl
      obtain ⟨A, c, rfl, -⟩ := hl
      simp only [List.length_map] at hl2 hat ⊢
      simp at e0 e1
      subst e0 e1
      have e0 := hat 0 (by omega)
      have e1 := hat 1 (by omega)
      have e2 := hat 2 (by omega)
      exact ⟨⟨z0, z1, l⟩, ⟨A, c, by simpa [Addr.add_zero'] using e0, by simpa [Addr.add_succ'] using e1, by simpa [Addr.add_succ'] using e2, hl2⟩, in64_of w1, hok⟩
theorem part_eff (n : Nat) (cs : List Value) (x : DataW H × List MemPlace) (p : Addr) (ht : DataW.trod enc Tryz.prog W 0 sp hd n 128 cs = some x) (hlen : cs.length = 9) (hat : ∀ i, i < 9 → W.cell? (p.add i) = cs[i]?) : ∃ z, EffP W p z ∧ (∀ k, okX k z.e) := by
  obtain ⟨ys, m, -, -, -, hys, hfs⟩ := DataW.trod_struct Tryz.underlying128 ht
  match cs, hlen with
  | [c0, c1, c2, c3, c4, c5, c6, c7, c8], _ =>
    match ys, hys with
    | [y0, y1], _ =>
      have k1 : Tryz.prog.cellsOf 9 = 1 := by kernel_rfl
      have k2 : Tryz.prog.cellsOf 77 = 8 := by kernel_rfl
      have g0 := hfs 0 _ rfl
      have g1 := hfs 1 _ rfl
      simp [k1, k2] at g0 g1
      obtain ⟨z0, e0, -⟩ := DataW.trod_string Tryz.underlying9 g0
      obtain ⟨e, A, c, D, hc, hx, hok⟩ := open_expr8 _ _ _ g1 rfl
      simp at e0 hc
      obtain ⟨e1, e2, e3, e4, e5, e6, e7, e8⟩ := hc
      subst e0 e1 e2 e3 e4 e5 e6 e7 e8
      have e0 := hat 0 (by omega)
      have e1 := hat 1 (by omega)
      have e2 := hat 2 (by omega)
      have e3 := hat 3 (by omega)
      have e4 := hat 4 (by omega)
      have e5 := hat 5 (by omega)
      have e6 := hat 6 (by omega)
      have e7 := hat 7 (by omega)
      have e8 := hat 8 (by omega)
      exact ⟨⟨z0, e⟩, ⟨A, c, by simpa [Addr.add_zero'] using e0, ⟨by simpa [Addr.add_succ'] using e1, by simpa [Addr.add_succ'] using e2, by simpa [Addr.add_succ'] using e3, by simpa [Addr.add_succ'] using e4, by simpa [Addr.add_succ'] using e5, by simpa [Addr.add_succ'] using e6, by simpa [Addr.add_succ'] using e7, by simpa [Addr.add_succ'] using e8⟩, ⟨D, hx⟩⟩, hok⟩
theorem part_mv (n : Nat) (cs : List Value) (x : DataW H × List MemPlace) (p : Addr) (ht : DataW.trod enc Tryz.prog W 0 sp hd n 80 cs = some x) (hlen : cs.length = 13) (hat : ∀ i, i < 13 → W.cell? (p.add i) = cs[i]?) : ∃ z, MvP W p z ∧ (in64 z.frm ∧ in64 z.too ∧ in64 z.org ∧ (∀ k, okX k z.guard) ∧ ∀ e ∈ z.effs, ∀ k, okX k e.e) := by
  obtain ⟨ys, m, -, -, -, hys, hfs⟩ := DataW.trod_struct Tryz.underlying80 ht
  match cs, hlen with
  | [c0, c1, c2, c3, c4, c5, c6, c7, c8, c9, c10, c11, c12], _ =>
    match ys, hys with
    | [y0, y1, y2, y3, y4, y5], _ =>
      have k1 : Tryz.prog.cellsOf 9 = 1 := by kernel_rfl
      have k2 : Tryz.prog.cellsOf 77 = 8 := by kernel_rfl
      have k3 : Tryz.prog.cellsOf 3 = 1 := by kernel_rfl
      have k4 : Tryz.prog.cellsOf 78 = 1 := by kernel_rfl
      have k5 : Tryz.prog.cellsOf 128 = 9 := by kernel_rfl
      have g0 := hfs 0 _ rfl
      have g1 := hfs 1 _ rfl
      have g2 := hfs 2 _ rfl
      have g3 := hfs 3 _ rfl
      have g4 := hfs 4 _ rfl
      have g5 := hfs 5 _ rfl
      simp [k1, k2, k3, k4] at g0 g1 g2 g3 g4 g5
      obtain ⟨z0, e0, -⟩ := DataW.trod_string Tryz.underlying9 g0
      obtain ⟨z1, e1, -, w1⟩ := DataW.trod_int Tryz.underlying3 g1
      obtain ⟨z2, e2, -, w2⟩ := DataW.trod_int Tryz.underlying3 g2
      obtain ⟨z5, e5, -, w5⟩ := DataW.trod_int Tryz.underlying3 g5
      obtain ⟨e, A, c, D, hc, hx, hok⟩ := open_expr8 _ _ _ g3 rfl
      obtain ⟨l, EA, ec, rfl, hl, hlk⟩ := row_of (K := 9) ⟨⟨⟨#[]⟩, .mk 0 ⟨#[]⟩ vZero []⟩⟩ EffP (fun z => ∀ k, okX k z.e) Tryz.underlying78 k5 (fun p x h => by obtain ⟨_, _, h, -⟩ := h; exact cell_lt h) part_eff g4
      simp at e0 e1 e2 e5 hc
      obtain ⟨f1, f2, f3, f4, f5, f6, f7, f8⟩ := hc
      subst e0 e1 e2 e5 f1 f2 f3 f4 f5 f6 f7 f8
      have e0 := hat 0 (by omega)
      have e1 := hat 1 (by omega)
      have e2 := hat 2 (by omega)
      have e3 := hat 3 (by omega)
      have e4 := hat 4 (by omega)
      have e5 := hat 5 (by omega)
      have e6 := hat 6 (by omega)
      have e7 := hat 7 (by omega)
      have e8 := hat 8 (by omega)
      have e9 := hat 9 (by omega)
      have e10 := hat 10 (by omega)
      have e11 := hat 11 (by omega)
      have e12 := hat 12 (by omega)
      exact ⟨⟨z0, z1, z2, e, l, z5⟩, ⟨A, c, EA, ec, by simpa [Addr.add_zero'] using e0, by simpa [Addr.add_succ'] using e1, by simpa [Addr.add_succ'] using e2, ⟨by simpa [Addr.add_succ'] using e3, by simpa [Addr.add_succ'] using e4, by simpa [Addr.add_succ'] using e5, by simpa [Addr.add_succ'] using e6, by simpa [Addr.add_succ'] using e7, by simpa [Addr.add_succ'] using e8, by simpa [Addr.add_succ'] using e9, by simpa [Addr.add_succ'] using e10⟩, ⟨D, hx⟩, by simpa [Addr.add_succ'] using e11, by simpa [Addr.add_succ'] using e12, hl⟩, in64_of w1, in64_of w2, in64_of w5, hok, hlk⟩
theorem open_ctr (hv : Value.okWide Tryz.prog W .any base 33 v) (h : DataW.Trod enc Tryz.prog W 0 sp hd 33 v d ps) :
    ∃ (c : Ctr) (FA : Option Addr) (fc : Nat) (SA : Option Addr) (sc : Nat) (MA : Option Addr) (mc : Nat), v = agC c.name FA c.fs.length fc SA c.ss.length sc MA c.ms.length mc ∧ CtK W c FA fc SA sc MA mc ∧ okC c := by
  obtain ⟨cs, rfl, hsz⟩ := okWide_struct Tryz.underlying33 hv
  obtain ⟨fuel, hf⟩ := h
  obtain ⟨ys, m, -, -, -, hys, hfs⟩ := DataW.trod_struct Tryz.underlying33 hf
  have k0 : Tryz.prog.cellsOf 33 = 4 := by kernel_rfl
  have k1 : Tryz.prog.cellsOf 9 = 1 := by kernel_rfl
  have k2 : Tryz.prog.cellsOf 29 = 1 := by kernel_rfl
  have k3 : Tryz.prog.cellsOf 30 = 1 := by kernel_rfl
  have k4 : Tryz.prog.cellsOf 31 = 1 := by kernel_rfl
  have k5 : Tryz.prog.cellsOf 83 = 8 := by kernel_rfl
  have k6 : Tryz.prog.cellsOf 65 = 3 := by kernel_rfl
  have k7 : Tryz.prog.cellsOf 80 = 13 := by kernel_rfl
  rw [k0] at hsz
  obtain ⟨l⟩ := cs
  match l, hsz with
  | [c0, c1, c2, c3], _ =>
    match ys, hys with
    | [y0, y1, y2, y3], _ =>
      have g0 := hfs 0 _ rfl
      have g1 := hfs 1 _ rfl
      have g2 := hfs 2 _ rfl
      have g3 := hfs 3 _ rfl
      simp [k1, k2, k3, k4, Value.cells] at g0 g1 g2 g3
      obtain ⟨z0, e0, -⟩ := DataW.trod_string Tryz.underlying9 g0
      simp at e0
      subst e0
      obtain ⟨fs, FA, fc, rfl, hfk, hfo⟩ := row_of (K := 8) ⟨⟨⟨⟨#[]⟩, 0⟩, [], vZero⟩⟩ FldP (fun z => okV z.y ∧ in64 z.f.kind) Tryz.underlying29 k5 (fun p x h => by obtain ⟨_, _, h, -⟩ := h; exact cell_lt h.1) part_fld g1
      obtain ⟨ss, SA, sc, rfl, hsk, hso⟩ := row_of (K := 3) ⟨⟨⟨#[]⟩, 0, []⟩⟩ StgP (fun z => in64 z.need ∧ ∀ o ∈ z.orgs, in64 o) Tryz.underlying30 k6 (fun p x h => by obtain ⟨_, _, h, -⟩ := h; exact cell_lt h) part_stg g2
      obtain ⟨ms, MA, mc, rfl, hmk, hmo⟩ := row_of (K := 13) ⟨⟨⟨#[]⟩, 0, 0, .mk 0 ⟨#[]⟩ vZero [], [], 0⟩⟩ MvP (fun z => in64 z.frm ∧ in64 z.too ∧ in64 z.org ∧ (∀ k, okX k z.guard) ∧ ∀ e ∈ z.effs, ∀ k, okX k e.e) Tryz.underlying31 k7 (fun p x h => by obtain ⟨_, _, _, _, h, -⟩ := h; exact cell_lt h) part_mv g3
      exact ⟨⟨z0, fs, ss, ms⟩, FA, fc, SA, sc, MA, mc, rfl, ⟨hfk, hsk, hmk⟩, ⟨hfo, hso, hmo⟩⟩
end
end Go.Proofs.YtachhcabgggimaaGreat

namespace Go.Proofs.YtachhcabgggimaaGreat
open Go.RowKit
set_option linter.unusedVariables false
set_option linter.unusedSimpArgs false
set_option maxRecDepth 20000



structure SB (w : World) (FA : Option Addr) (fn FC : Nat) (VA : Option Addr) (vn VC : Nat) (op : Int) (A : Option Addr) (n c : Nat) (nm : ByteArray) (v : Vl) (W : World) : Prop where
  bel : Below w.heap.size w W
  ex : CellsX W w.heap.size op A n c nm v
  f : W.cell? ⟨w.heap.size + 1, 0, none⟩ = some (.slice FA fn FC)
  v : W.cell? ⟨w.heap.size + 1, 1, none⟩ = some (.slice VA vn VC)
  lt : w.heap.size + 2 ≤ W.heap.size
theorem SB.below {w : World} {FA : Option Addr} {fn FC : Nat} {VA : Option Addr} {vn VC : Nat} {op : Int} {A : Option Addr} {n c : Nat} {nm : ByteArray} {v : Vl} {W W' : World} (h : SB w FA fn FC VA vn VC op A n c nm v W) (hb : Below W.heap.size W W') : SB w FA fn FC VA vn VC op A n c nm v W' :=
  ⟨h.bel.trans (hb.mono h.bel.size), h.ex.below hb, keepc hb (by have := h.lt; omega) h.f, keepc hb (by have := h.lt; omega) h.v, Nat.le_trans h.lt hb.size⟩
theorem SB.new (w : World) (FA : Option Addr) (fn FC : Nat) (VA : Option Addr) (vn VC : Nat) (op : Int) (A : Option Addr) (n c : Nat) (nm : ByteArray) (v : Vl) (t : TypeId) :
    SB w FA fn FC VA vn VC op A n c nm v ((w.alloc (bxX op A n c nm v)).alloc (.cells #[.slice FA fn FC, .slice VA vn VC] t)) := by
  have h2 := heap_alloc_new (w.alloc (bxX op A n c nm v)) (.cells #[.slice FA fn FC, .slice VA vn VC] t)
  have hs : (w.alloc (bxX op A n c nm v)).heap.size = w.heap.size + 1 := by simp
  rw [hs] at h2
  exact ⟨vbox2 w _ _, (Kid_new w op A n c nm v).below (alloc1 _ _), (cell_of_row _ _ 0 _ _ (0, 0) h2).trans rfl, (cell_of_row _ _ 1 _ _ (0, 0) h2).trans rfl, by simp⟩

theorem bel2 {a b c : World} (h : Below a.heap.size a b) (k : Below b.heap.size b c) : Below a.heap.size a c := h.trans (k.mono h.size)
theorem own_belowX {w w' : World} {base e s n : Nat} {v : Value} {xs : List Value} (h : w.ownsRow base e s v n xs) (hb : Below w.heap.size w w') : w'.ownsRow base e s v n xs := by
  obtain ⟨h1, h2⟩ := h
  refine ⟨h1, ?_⟩
  rcases h2 with h2 | ⟨g, cap, cur, e1, e2, e3, e4⟩
  · exact .inl h2
  · exact .inr ⟨g, cap, cur, e1, e2, (hb.block g (Array.getElem?_eq_some_iff.1 e3).1).trans e3, e4⟩

theorem leftF_ge : ∀ (d : Nat) (e : Ex) (n : Int), 0 ≤ n → -1 ≤ leftF d e n
  | 0, e, n, _ => by show (-1 : Int) ≤ -1; omega
  | d + 1, e, n, h => by
    have hl : ∀ (ks : List Ex) (m : Int), -1 ≤ m → -1 ≤ leftL (leftF d) ks m := by
      intro ks
      induction ks with
      | nil => intro m hm; exact hm
      | cons k ks ih =>
        intro m hm
        unfold leftL
        split
        · exact hm
        · exact ih _ (leftF_ge d k m (by omega))
    exact hl e.kids (n - 1) (by omega)
set_option maxHeartbeats 2000000 in
theorem left_any : ∀ (D : Nat) (d : Nat) (e : Ex) (A : Option Addr) (c : Nat) (n deep : Int) (w : World), d ≤ 6 → deep = d → 0 ≤ n → n ≤ 24 → ExK w D A c e →
    Calls Tryz.prog 197 #[agX e.op A e.kids.length c e.name e.val, .int .i64 deep, .int .i64 n] w (VMk (.int .i64 (leftF d e n)) w)
  | 0, _, _, _, _, _, _, _, _, _, _, _, h => False.elim h
  | D + 1, d, e, A, c, n, deep, w, hd, hdeep, h0, h1, hx => by
    obtain ⟨h2, h3, h4, h5⟩ := hx
    have ih := left_any D
    unfold maxLen at h3
    have hlen : e.kids.length ≤ 9223372036854775807 := by omega
    have hwn : IntKind.i64.wrap (n - 1) = n - 1 := by rw [IntKind.wrap_i64]; omega
    cases d with
    | zero =>
      subst hdeep
      have hr : leftF 0 e n = -1 := rfl
      rw [hr]
      clear hr ih h5 h3 h4 h2 hd
      go_enter Tryz.func197, Tryz.ntmps197
      go_wp2
      go_ret
      exact ⟨rfl, (Below.refl _ _).alloc (Nat.le_refl _) _⟩
    | succ d' =>
      have hm : leftF (d' + 1) e n = leftL (leftF d') e.kids (n - 1) := rfl
      rw [hm]
      have hwd : IntKind.i64.wrap (deep - 1) = deep - 1 := by rw [IntKind.wrap_i64]; omega
      have hdp : ¬ deep < 1 := by omega
      have HIH := Lib.hid (fun e A c n W (hx : ExK w D A c e) (hn : 0 ≤ n) (hn4 : n ≤ 24) (hB : Below w.heap.size w W) => ih d' e A c n (deep - 1) W (by omega) (by omega) hn hn4 (hx.below hB (Nat.le_refl _)))
      have H5 := Lib.hid h5
      have HD := Lib.hid (And.intro hd hdeep)
      clear hm ih h5 hd hdeep h2 h3 h4
      generalize e.kids = ks at *
      generalize e.op = eop at *
      generalize e.name = enm at *
      generalize e.val = ev at *
      have hbx := Lib.hid (Kid_new w eop A ks.length c enm ev)
      go_enter Tryz.func197, Tryz.ntmps197
      go_wp2
      go_loopw [2, 7] (fun nv i wr => ∃ (k : Nat) (m : Int), k ≤ ks.length ∧ nv = .int .i64 m ∧ i = .int .i64 k ∧ leftL (leftF d') (ks.drop k) m = leftL (leftF d') ks (n - 1) ∧ -1 ≤ m ∧ m ≤ 24 ∧ Below w.heap.size w wr ∧ wr.cell? ⟨w.heap.size, 1, none⟩ = some (.slice A ks.length c)) (fun _ i _ => ks.length - (intOf i).toNat)
      case atStart => exact ⟨0, n - 1, Nat.zero_le _, rfl, rfl, rfl, by omega, by omega, (Below.refl _ _).alloc (Nat.le_refl _) _, hbx.out.2.1⟩
      case round =>
        obtain ⟨k, m, hk, rfl, rfl, hm, hm0, hm4, hb, hc⟩ := hrel
        by_cases hlt : k < ks.length
        · by_cases hp : 0 ≤ m
          · obtain ⟨ad, A', c', rfl, hbl, hkid, hsub⟩ := H5.out k hlt
            obtain ⟨q0, q1, q2, q3, q4, q5, q6, q7⟩ := hkid.below hb (by rw [block_add]; exact hbl)
            have hcall := HIH.out ks[k] A' c' m wr hsub hp hm4 hb
            have hdr := leftL_drop (leftF d') ks k hlt m hp
            have hle := leftF_le d' ks[k] m
            have hge := leftF_ge d' ks[k] m hp
            rw [hdr] at hm
            generalize leftF d' ks[k] m = m' at hcall hm hle hge
            generalize ks[k].op = ko at q0 hcall
            generalize ks[k].name = kn at q2 hcall
            generalize ks[k].val = ky at q3 q4 q5 q6 q7 hcall
            generalize ks[k].kids.length = kl at q1 hcall
            have HC := Lib.hid hcall
            have HM := Lib.hid hm
            have hcl := World.block_lt_of_cell? wr _ hc
            have hltI : (k : Int) < (ks.length : Int) := by omega
            clear hcall hm hdr hkid hsub
            go_wp2_with (go_at_call 197; refine HC.out.mono ?_; rintro e w2 ⟨rfl, hb2⟩)
            go_roundw
            case rel => exact ⟨k + 1, m', by omega, rfl, by go_num, HM.out, hge, by omega, hb.trans (hb2.mono hb.size), keepc hb2 hcl hc⟩
            case measure => simp [intOf]; omega
          · have hr : m = leftL (leftF d') ks (n - 1) := by rw [← hm, leftL_neg _ _ _ (by omega)]
            have HR := Lib.hid hr
            have hltI : (k : Int) < (ks.length : Int) := by omega
            clear hr hm
            go_wp2
            go_ret
            exact ⟨ret_int HR.out, hb⟩
        · obtain rfl : k = ks.length := by omega
          have hr : m = leftL (leftF d') ks (n - 1) := by rw [← hm, List.drop_length]; rfl
          have HR := Lib.hid hr
          clear hr hm
          go_wp2
          go_ret
          exact ⟨ret_int HR.out, hb⟩
theorem rSmall_any (D : Nat) (e : Ex) (A : Option Addr) (c : Nat) (w : World) (hx : ExK w D A c e) : Calls Tryz.prog 145 #[agX e.op A e.kids.length c e.name e.val] w (VMk (.bool (smallX e)) w) := by
  have hl := fun o => left_any D 6 e A c 24 6 (w.alloc o) (by omega) (by decide) (by decide) (by decide) (hx.below ((Below.refl w.heap.size w).alloc (Nat.le_refl _) o) (Nat.le_refl _))
  have hs : smallX e = decide (0 ≤ leftF 6 e 24) := rfl
  rw [hs]
  clear hs hx
  generalize leftF 6 e 24 = m at *
  generalize e.kids.length = n at *
  generalize e.op = eop at *
  generalize e.name = enm at *
  generalize e.val = ev at *
  have HL := Lib.hid hl
  clear hl
  go_enter Tryz.func145, Tryz.ntmps145
  go_wp2_with (go_at_call 197; refine (HL.out _).mono ?_; rintro e w1 ⟨rfl, hb1⟩)
  go_ret
  exact ⟨rfl, ((Below.refl _ _).alloc (Nat.le_refl _) _).trans (hb1.mono (by simp))⟩

theorem PutsV.to {w W w' : World} {l : List UInt8} {e : Ending} (h : PutsV W l e w') (hb : Below w.heap.size w W) : PutsV w l e w' := by
  obtain ⟨v', B, rfl, h0, h1, h2⟩ := h
  exact ⟨v', B, rfl, Nat.le_trans hb.size h0, h1, bel2 hb h2⟩

def RowS (w : World) (size : Nat) (y : Value) (m : Nat) (news : List Value) : Prop :=
  ∃ A c, y = .slice A m c ∧ news.length = m * size ∧ (A = none → m = 0 ∧ c = 0) ∧ ∀ a, A = some a → ∀ j u, news[j]? = some u → w.cell? (a.add j) = some u
theorem RowS.below {w w' : World} {size : Nat} {y : Value} {m : Nat} {news : List Value} (h : RowS w size y m news) (hb : Below w.heap.size w w') : RowS w' size y m news := by
  obtain ⟨A, c, e, h1, h2, h3⟩ := h
  refine ⟨A, c, e, h1, h2, fun a ha j u hj => ?_⟩
  have h4 := h3 a ha j u hj
  have hl := World.block_lt_of_cell? w _ h4
  exact (hb.cell hl).trans h4
section
variable {P : Program} {w : World}
theorem run_append_rows (base : Nat) (t ty e : TypeId) (i : TypeInfo) (z : Value) (size bytes : Nat) (ht : P.underlying t = some (.slice e)) (hi : P.info? e = some i) (hz : i.zero = some z)
    (hsize : i.size = size) (hby : i.bytes = bytes) (hzs : z.cells.size = size) (hpos : 0 < size)
    (v : Value) (n : Nat) (xs : List Value) (hown : w.ownsRow base e size v n xs)
    (y : Value) (m : Nat) (news : List Value) (hr : RowS w size y m news) (h1 : ∀ u ∈ news, u.oneCell' = true)
    (h63 : n + m ≤ maxLen) (hbytes : (n + m) * bytes ≤ 140737488355328) (hbase : base ≤ w.heap.size) :
    ∃ v' w', (Builtin.append_ #[t, t] ty #[v, y]).run P w = .ok v' w' ∧ w'.ownsRow base e size v' (n + m) (xs ++ news) ∧ w.grownBy w' v.ownBlock ∧
      (v'.ownBlock = v.ownBlock ∨ v'.ownBlock = some w.heap.size) := by
  obtain ⟨A, c, rfl, hl, hn, hx⟩ := hr
  rcases A with _ | ad
  · obtain ⟨rfl, rfl⟩ := hn rfl
    have : news = [] := List.eq_nil_of_length_eq_zero (by omega)
    subst this
    exact ⟨v, w, run_append_nothing w base t ty e i size ht hi v n xs hown 0, by simpa using hown, World.grownBy.refl w _, .inl rfl⟩
  · obtain ⟨v', w', hrun, h2, h3, _, h5⟩ := run_append_own_at (P := P) w base t ty e i z size bytes ht hi hz hsize hby hzs hpos v n xs hown ad m c news hl (hx ad rfl) h1 h63 hbytes hbase
    exact ⟨v', w', hrun, h2, h3, h5⟩
theorem step_append_rows {ops : Array Oper} {o : Oper} {a : Act} {K : Act → World → Prop} {Q : Exit → Act → World → Prop} {E : Prop}
    (hgd : o.guard = none) (s x : Operand) (t : TypeId)
    (ho : o.op = .call { callee := .builtin .append, args := #[s, x], argTypes := #[t, t] })
    (base : Nat) (e : TypeId) (i : TypeInfo) (z : Value) (size bytes : Nat) (ht : P.underlying t = some (.slice e)) (hi : P.info? e = some i) (hz : i.zero = some z)
    (hsize : i.size = size) (hby : i.bytes = bytes) (hzs : z.cells.size = size) (hpos : 0 < size)
    (v : Value) (n : Nat) (xs : List Value) (hs : a.eval s = v) (hown : w.ownsRow base e size v n xs)
    (y : Value) (m : Nat) (news : List Value) (hx : a.eval x = y) (hr : RowS w size y m news) (h1 : ∀ u ∈ news, u.oneCell' = true)
    (h63 : n + m ≤ maxLen) (hbytes : (n + m) * bytes ≤ 140737488355328) (hbase : base ≤ w.heap.size)
    (h : ∀ v' w', w'.ownsRow base e size v' (n + m) (xs ++ news) → w.grownBy w' v.ownBlock → (v'.ownBlock = v.ownBlock ∨ v'.ownBlock = some w.heap.size) → K (a.put o.dst v') w') :
    if Region.wanted o (yielded ops a.tmps) = true then Oper.wp P o a w K Q else E := by
  have hw : Region.wanted o (yielded ops a.tmps) = true := by simp [Region.wanted, hgd]
  rw [if_pos hw]
  obtain ⟨v', w', hrun, h2, h3, h5⟩ := run_append_rows (P := P) base t o.type e i z size bytes ht hi hz hsize hby hzs hpos v n xs hown y m news hr h1 h63 hbytes hbase
  unfold Oper.wp execOp
  simp only [ho, resolve, invoke, builtin, Sem.run_bind, Sem.run_pure, Result.andThen_ok, List.map_toArray, List.map_cons, List.map_nil, hs, hx, hrun]
  exact h v' w' h2 h3 h5
end
structure Fx8 where
  f : Fd
  A : Option Addr
  n : Nat
  c : Nat
  y : Vl
def Fx8.cells (q : Fx8) : List Value := [.string q.f.name, .int .i64 q.f.kind, .slice q.A q.n q.c, .int .i64 q.y.k, .int .i64 q.y.i, .bool q.y.b, .string q.y.s, .float .f64 q.y.n]
theorem flat_len {α : Type} (f : α → List Value) (s : Nat) (hf : ∀ x, (f x).length = s) : ∀ l : List α, (l.flatMap f).length = l.length * s
  | [] => by simp
  | x :: l => by rw [List.flatMap_cons, List.length_append, hf, flat_len f s hf l, List.length_cons, Nat.add_mul]; omega
theorem flat_get {α : Type} (f : α → List Value) (s : Nat) (hf : ∀ x, (f x).length = s) : ∀ (l : List α) (j o : Nat) (hj : j < l.length), o < s → (l.flatMap f)[j * s + o]? = (f l[j])[o]?
  | [], j, o, hj, _ => absurd hj (Nat.not_lt_zero _)
  | x :: l, 0, o, _, ho => by rw [List.flatMap_cons, Nat.zero_mul, Nat.zero_add, List.getElem?_append_left (by rw [hf]; exact ho), List.getElem_cons_zero]
  | x :: l, j + 1, o, hj, ho => by
    rw [List.flatMap_cons, List.getElem?_append_right (by rw [hf, Nat.add_mul]; omega), hf, List.getElem_cons_succ, show (j + 1) * s + o - s = j * s + o by rw [Nat.add_mul]; omega]
    exact flat_get f s hf l j o (by simpa using hj) ho

instance : Inhabited Fd := ⟨⟨⟨#[]⟩, 0⟩⟩
theorem rows_one (w : World) (cs : List Value) (e : TypeId) (size : Nat) (h : cs.length = size) : RowS (w.alloc (.cells cs.toArray e)) size (.slice (some ⟨w.heap.size, 0, none⟩) 1 1) 1 cs := by
  have hn := heap_alloc_new w (.cells cs.toArray e)
  refine ⟨_, 1, rfl, by omega, fun h => (by cases h), fun a ha j u hj => ?_⟩
  injection ha with ha
  subst ha
  rw [Addr.add_lit, Nat.zero_add, cell_of_row _ _ _ _ _ (0, 0) hn]
  simpa using hj

def ExS (S : Nat → Prop) (w : World) : Nat → Option Addr → Nat → Ex → Prop
  | 0, _, _, _ => False
  | d + 1, A, c, e => e.kids.length ≤ c ∧ c ≤ maxLen ∧ (A = none → c = 0) ∧ ∀ j (hj : j < e.kids.length), ∃ ad A' c', A = some ad ∧ ad.block < w.heap.size ∧ S ad.block ∧ Kid w (ad.add (j * 8)) e.kids[j].op A' e.kids[j].kids.length c' e.kids[j].name e.kids[j].val ∧ ExS S w d A' c' e.kids[j]
theorem ExS.exk {S : Nat → Prop} {w : World} : ∀ {d : Nat} {A : Option Addr} {c : Nat} {e : Ex}, ExS S w d A c e → ExK w d A c e
  | 0, _, _, _, h => False.elim h
  | d + 1, A, c, e, h => by
    obtain ⟨h1, h2, h3, h4⟩ := h
    refine ⟨h1, h2, h3, fun j hj => ?_⟩
    obtain ⟨ad, A', c', e1, e2, -, e3, e4⟩ := h4 j hj
    exact ⟨ad, A', c', e1, e2, e3, ExS.exk e4⟩
theorem Kid.at {w w' : World} {p : Addr} {op : Int} {A : Option Addr} {n c : Nat} {nm : ByteArray} {y : Vl} (h : Kid w p op A n c nm y) (hb : w'.heap[p.block]? = w.heap[p.block]?) : Kid w' p op A n c nm y := by
  obtain ⟨h0, h1, h2, h3, h4, h5, h6, h7⟩ := h
  have k : ∀ o, w'.cell? ⟨p.block, o, none⟩ = w.cell? ⟨p.block, o, none⟩ := fun o => World.cell?_of_block (a := ⟨p.block, o, none⟩) hb
  exact ⟨(World.cell?_of_block hb).trans h0, (k _).trans h1, (k _).trans h2, (k _).trans h3, (k _).trans h4, (k _).trans h5, (k _).trans h6, (k _).trans h7⟩
theorem ExS.move {S T : Nat → Prop} {w w' : World} (h : ∀ b, S b → b < w.heap.size → w'.heap[b]? = w.heap[b]? ∧ T b) (hz : w.heap.size ≤ w'.heap.size) : ∀ {d : Nat} {A : Option Addr} {c : Nat} {e : Ex}, ExS S w d A c e → ExS T w' d A c e
  | 0, _, _, _, h => False.elim h
  | d + 1, A, c, e, hx => by
    obtain ⟨h1, h2, h3, h4⟩ := hx
    refine ⟨h1, h2, h3, fun j hj => ?_⟩
    obtain ⟨ad, A', c', e1, e2, e5, e3, e4⟩ := h4 j hj
    obtain ⟨f1, f2⟩ := h _ e5 e2
    exact ⟨ad, A', c', e1, Nat.lt_of_lt_of_le e2 hz, f2, e3.at (by rw [block_add]; exact f1), ExS.move h hz e4⟩
theorem ExS.leaf (S : Nat → Prop) (w : World) (d : Nat) (e : Ex) (h : e.kids = []) : ExS S w (d + 1) none 0 e := by
  refine ⟨by rw [h]; exact Nat.le_refl _, Nat.zero_le _, fun _ => rfl, fun j hj => ?_⟩
  rw [h] at hj; exact absurd hj (Nat.not_lt_zero _)
structure Kx where
  e : Ex
  A : Option Addr
  c : Nat
def Kx.cells (q : Kx) : List Value := [.int .i64 q.e.op, .slice q.A q.e.kids.length q.c, .string q.e.name, .int .i64 q.e.val.k, .int .i64 q.e.val.i, .bool q.e.val.b, .string q.e.val.s, .float .f64 q.e.val.n]
structure Twb (g s : Nat) (w w' : World) : Prop where
  os : w'.os = w.os
  tape : w'.tape = w.tape
  output : w'.output = w.output
  size : w.heap.size ≤ w'.heap.size
  block : ∀ k, k < w.heap.size → k ≠ g → k ≠ s → w'.heap[k]? = w.heap[k]?
theorem Twb.refl (g s : Nat) (w : World) : Twb g s w w := ⟨rfl, rfl, rfl, Nat.le_refl _, fun _ _ _ _ => rfl⟩
theorem Twb.trans {g s : Nat} {a b c : World} (h : Twb g s a b) (k : Twb g s b c) : Twb g s a c :=
  ⟨k.os.trans h.os, k.tape.trans h.tape, k.output.trans h.output, Nat.le_trans h.size k.size, fun i hi h1 h2 => (k.block i (Nat.lt_of_lt_of_le hi h.size) h1 h2).trans (h.block i hi h1 h2)⟩
theorem Only.two {g : Nat} {w w' : World} (h : Only g w w') (s : Nat) : Twb g s w w' := ⟨h.os, h.tape, h.output, h.size, fun k hk h1 _ => h.block k hk (by intro e; injection e with e; exact h1 e)⟩
theorem Below.two {w w' : World} (h : Below w.heap.size w w') (g s : Nat) : Twb g s w w' := ⟨h.os, h.tape, h.output, h.size, fun k hk _ _ => h.block k hk⟩
theorem Twb.below {g s B : Nat} {w w' : World} (h : Twb g s w w') (hB : B ≤ w.heap.size) (hg : B ≤ g) (hs : B ≤ s) : Below B w w' := ⟨h.os, h.tape, h.output, h.size, fun k hk => h.block k (by omega) (by omega) (by omega)⟩
theorem Twb.only {g s : Nat} {w w' : World} (h : Twb g s w w') (hs : w.heap.size ≤ s) : Only g w w' := ⟨h.os, h.tape, h.output, h.size, fun k hk h1 => h.block k hk (by intro e; exact h1 (by rw [e])) (by omega)⟩
theorem Twb.setNew {g s k : Nat} {a w : World} (h : Twb g s a w) (hk : a.heap.size ≤ k) (j : Nat) (u : Value) : Twb g s a (w.setCell ⟨k, j, none⟩ u) :=
  ⟨h.os, h.tape, h.output, by simpa [World.setCell] using h.size, fun m hm h1 h2 => (Below.heap_setCell w _ u m (by intro e; simp only at e; omega)).trans (h.block m hm h1 h2)⟩

/-! what is read, by definition -/
def pre (l : List Ex) (x : Except Int (List Ex × Int × List UInt8)) : Except Int (List Ex × Int × List UInt8) := match x with
  | .error e => .error e
  | .ok (ks, n, r) => .ok (l ++ ks, n, r)
theorem pre_ok {f : Int → List UInt8 → Except Int (Ex × Int × List UInt8)} {l : List Ex} {c : Nat} {n n1 : Int} {r r1 : List UInt8} {k : Ex} (h : f n r = .ok (k, n1, r1)) : pre l (getL f (c + 1) n r) = pre (l ++ [k]) (getL f c n1 r1) := by
  rw [getL, h]
  dsimp only
  rcases getL f c n1 r1 with e | ⟨ks, n2, r2⟩
  · rfl
  · simp [pre]

theorem sameV_rf (v : Vl) : sameV v v = true := by
  unfold sameV
  simp
theorem CellsX.drew {W : World} {b : Nat} {op : Int} {A : Option Addr} {n c : Nat} {nm : ByteArray} {y : Vl} (h : CellsX W b op A n c nm y) : CellsX W.drew b op A n c nm y := h

def RvP (g : Nat) (v : Vl) (er : Int) (rest : List UInt8) (w : World) (e : Ending) (w' : World) : Prop := e = .returned (pairVE v er) ∧ (∃ r' e', RdR w' g r' e' ∧ (er = 0 → r' = rest ∧ e' = 0)) ∧ Only g w w'
theorem RvP.of {g : Nat} {q : Vl × List UInt8 × Int} {v : Vl} {er : Int} {rest : List UInt8} {w : World} {e : Ending} {w' : World} (hq : q = (v, rest, er)) (h : RvP g v er rest w e w') : RvP g q.1 q.2.2 q.2.1 w e w' := by
  subst hq
  exact h
theorem GetP.rv {g : Nat} {v : Vl} {er : Int} {rest : List UInt8} {err : Int} {w : World} {e : Ending} {w' : World} (h : GetP g v er rest err w e w') (hok : er = 0 → err = 0) : RvP g v er rest w e w' := ⟨h.1, ⟨_, _, h.2.1, fun h0 => ⟨rfl, hok h0⟩⟩, h.2.2⟩

theorem Bt.keep {w w' : World} {v : Value} {l : List UInt8} (h : Bt w v l) (hz : w.heap.size ≤ w'.heap.size) (hk : ∀ (k : Nat) (cs : Array Value) (fr : Nat × Nat), w.heap[k]? = some (Obj.cells cs 5 fr) → w'.heap[k]? = w.heap[k]?) : Bt w' v l := by
  obtain ⟨⟨A, c, hv, hc, hm, hn, hx⟩, hy⟩ := h
  by_cases hl : l = []
  · subst hl
    exact ⟨⟨A, c, hv, hc, hm, hn, fun he => absurd rfl he⟩, fun he => absurd rfl he⟩
  · have hl' : l.map bc ≠ [] := by simpa using hl
    obtain ⟨ad, ha, hb, hr⟩ := hx hl'
    have hown : v.ownBlock = some ad.block := by rw [hv, ha]; rfl
    obtain ⟨cs2, fr2, hty⟩ := hy hl ad.block hown
    have hblk := hk _ _ _ hty
    refine ⟨⟨A, c, hv, hc, hm, hn, fun _ => ⟨ad, ha, Nat.lt_of_lt_of_le hb hz, fun j u hu => ?_⟩⟩, fun _ k hkk => ?_⟩
    · have hb2 : (ad.add j).block = ad.block := block_add ad j
      exact (World.cell?_of_block (w := w) (w' := w') (a := ad.add j) (by rw [hb2]; exact hblk)).trans (hr j u hu)
    · rw [hown] at hkk
      injection hkk with hkk
      subst hkk
      exact ⟨cs2, fr2, hblk.trans hty⟩
theorem RdR.keep {w w' : World} {g : Nat} {rest : List UInt8} {e : Int} (h : RdR w g rest e) (hz : w.heap.size ≤ w'.heap.size) (hg : w'.heap[g]? = w.heap[g]?) (hk : ∀ (k : Nat) (cs : Array Value) (fr : Nat × Nat), w.heap[k]? = some (Obj.cells cs 5 fr) → w'.heap[k]? = w.heap[k]?) : RdR w' g rest e := by
  obtain ⟨rv, hh, hb⟩ := h
  exact ⟨rv, hg.trans hh, hb.keep hz hk⟩
theorem other_block {w : World} {k N : Nat} {cs cs' : Array Value} {t t' : TypeId} {fr fr' : Nat × Nat} (hk : w.heap[k]? = some (.cells cs t fr)) (hN : w.heap[N]? = some (.cells cs' t' fr')) (ht : t ≠ t') : k ≠ N := by
  rintro rfl
  rw [hN] at hk
  injection hk with hk
  injection hk with h1 h2
  exact ht h2.symm
theorem RdR.offT {w w' : World} {N g : Nat} {rest : List UInt8} {err : Int} {cs : Array Value} {t : TypeId} {fr : Nat × Nat} (h : RdR w g rest err) (ho : Only N w w') (hne : g ≠ N) (hN : w.heap[N]? = some (.cells cs t fr)) (ht : t ≠ 5) : RdR w' g rest err := by
  have hlt := h.lt
  refine h.keep ho.size (ho.block g hlt (by intro e; injection e with e; exact hne e)) fun k cs2 fr2 hk => ho.block k (Array.getElem?_eq_some_iff.1 hk).1 (by intro e; injection e with e; exact other_block hk hN (fun e => ht e.symm) e)

def SzB (w : World) (s : Nat) (n : Int) : Prop := w.heap[s]? = some (.cells #[.int .i64 n] 207 (0, 0))
theorem SzB.sz {w : World} {s : Nat} {n : Int} (h : SzB w s n) : Sz w s n := by
  unfold SzB at h
  exact ⟨(cell_of_row w s 0 _ _ (0, 0) h).trans rfl, by simp [World.frozen?, h], (Array.getElem?_eq_some_iff.1 h).1⟩
theorem SzB.lt {w : World} {s : Nat} {n : Int} (h : SzB w s n) : s < w.heap.size := (Array.getElem?_eq_some_iff.1 h).1
theorem SzB.at {w w' : World} {s : Nat} {n : Int} (h : SzB w s n) (hb : w'.heap[s]? = w.heap[s]?) : SzB w' s n := hb.trans h
theorem SzB.set {w : World} {s : Nat} {n : Int} (h : SzB w s n) (m : Int) : SzB (w.setCell ⟨s, 0, none⟩ (.int .i64 m)) s m := by
  unfold SzB at h ⊢
  simp [World.setCell, Array.getElem?_modify, h]
theorem SzB.only {w w' : World} {s g : Nat} {n : Int} (h : SzB w s n) (ho : Only g w w') (hne : s ≠ g) : SzB w' s n := h.at (ho.block s h.lt (by intro e; injection e with e; exact hne e))
theorem SzB.below {w w' : World} {s : Nat} {n : Int} (h : SzB w s n) (hb : Below w.heap.size w w') : SzB w' s n := h.at (hb.block s h.lt)
def z8 : Array Value := #[.int .i64 0, .slice none 0 0, .string ⟨#[]⟩, .int .i64 0, .int .i64 0, .bool false, .string ⟨#[]⟩, .float .f64 0]
abbrev set8 (W : World) (b : Nat) (u0 u1 u2 u3 u4 u5 u6 u7 : Value) : World :=
  (((((((W.setCell ⟨b, 0, none⟩ u0).setCell ⟨b, 1, none⟩ u1).setCell ⟨b, 2, none⟩ u2).setCell ⟨b, 3, none⟩ u3).setCell ⟨b, 4, none⟩ u4).setCell ⟨b, 5, none⟩ u5).setCell ⟨b, 6, none⟩ u6).setCell ⟨b, 7, none⟩ u7
theorem set8_only (W : World) (b : Nat) (u0 u1 u2 u3 u4 u5 u6 u7 : Value) : Only b W (set8 W b u0 u1 u2 u3 u4 u5 u6 u7) :=
  ((((((((Only.refl b W).set 0 u0).set 1 u1).set 2 u2).set 3 u3).set 4 u4).set 5 u5).set 6 u6).set 7 u7
theorem Twb.new {g s k : Nat} {a w w' : World} (h : Twb g s a w) (ho : Only k w w') (hk : a.heap.size ≤ k) : Twb g s a w' :=
  ⟨ho.os.trans h.os, ho.tape.trans h.tape, ho.output.trans h.output, Nat.le_trans h.size ho.size, fun m hm h1 h2 => (ho.block m (Nat.lt_of_lt_of_le hm h.size) (by intro e; injection e with e; omega)).trans (h.block m hm h1 h2)⟩
theorem heap_at {w : World} {b : Nat} {cs : Array Value} {t : TypeId} (h : w.heap[b]? = some (.cells cs t (0, 0))) (j : Nat) : w.cell? ⟨b, j, none⟩ = cs[j]? := cell_of_row w b j _ _ (0, 0) h
theorem heap_free {w : World} {b : Nat} {cs : Array Value} {t : TypeId} (h : w.heap[b]? = some (.cells cs t (0, 0))) (j : Nat) : w.frozen? ⟨b, j, none⟩ = false := by simp [World.frozen?, h]

abbrev agZ : Value := .agg #[.int .i64 0, .slice none 0 0, .string ⟨#[]⟩, .int .i64 0, .int .i64 0, .bool false, .string ⟨#[]⟩, .float .f64 0]
def RpE (g s : Nat) (er : Int) (w : World) (e : Ending) (w' : World) : Prop := e = .returned (.tuple #[agZ, .int .i64 er]) ∧ (∃ r' e', RdR w' g r' e') ∧ Twb g s w w'
def RpO (g s d : Nat) (x : Ex × Int × List UInt8) (w : World) (e : Ending) (w' : World) : Prop :=
  ∃ A c, e = .returned (.tuple #[agX x.1.op A x.1.kids.length c x.1.name x.1.val, .int .i64 0]) ∧ ExS (fun b => w.heap.size ≤ b) w' d A c x.1 ∧ RdR w' g x.2.2 0 ∧ SzB w' s (24 - x.2.1) ∧ Twb g s w w'
theorem RpE.mk {g s b6 : Nat} {er e' : Int} {r' : List UInt8} {w W : World} {cs : Array Value} (hr : RdR W g r' e') (ht : Twb g s w W) (hz : W.heap[b6]? = some (.cells cs 77 (0, 0))) (hb : w.heap.size ≤ b6) (hg : g ≠ b6) (u0 u1 u2 u3 u4 u5 u6 u7 : Value) :
    RpE g s er w (.returned (.tuple #[agZ, .int .i64 er])) (set8 W b6 u0 u1 u2 u3 u4 u5 u6 u7) :=
  ⟨rfl, ⟨_, _, hr.offT (set8_only _ _ _ _ _ _ _ _ _ _) hg hz (by decide)⟩, ht.new (set8_only _ _ _ _ _ _ _ _ _ _) hb⟩
theorem RpO.mk {g s d b6 c : Nat} {n : Int} {r : List UInt8} {x : Ex} {A : Option Addr} {w W : World} {cs : Array Value} (hx : ExS (fun b => b6 < b) W d A c x) (hr : RdR W g r 0) (hs : SzB W s (24 - n)) (ht : Twb g s w W) (hz : W.heap[b6]? = some (.cells cs 77 (0, 0))) (hb : w.heap.size ≤ b6) (hg : g ≠ b6) (hsb : s ≠ b6) (u0 u1 u2 u3 u4 u5 u6 u7 : Value) :
    RpO g s d (x, n, r) w (.returned (.tuple #[agX x.op A x.kids.length c x.name x.val, .int .i64 0])) (set8 W b6 u0 u1 u2 u3 u4 u5 u6 u7) := by
  have ho := set8_only W b6 u0 u1 u2 u3 u4 u5 u6 u7
  exact ⟨A, c, rfl, hx.move (fun b hb2 hl => ⟨ho.block b hl (by intro e; injection e with e; omega), by omega⟩) ho.size, hr.offT ho hg hz (by decide), hs.only ho hsb, ht.new ho hb⟩

structure Fr (w : World) (g s b6 b8 : Nat) (W : World) (cs : Array Value) : Prop where
  z : W.heap[b6]? = some (.cells z8 77 (0, 0))
  x : W.heap[b8]? = some (.cells cs 77 (0, 0))
  t : Twb g s w W
theorem Fr.two {w : World} {g s b6 b8 : Nat} {W W' : World} {cs : Array Value} (h : Fr w g s b6 b8 W cs) (k : Twb g s W W') (h1 : b6 ≠ g) (h2 : b6 ≠ s) (h3 : b8 ≠ g) (h4 : b8 ≠ s) : Fr w g s b6 b8 W' cs :=
  ⟨(k.block b6 (Array.getElem?_eq_some_iff.1 h.z).1 h1 h2).trans h.z, (k.block b8 (Array.getElem?_eq_some_iff.1 h.x).1 h3 h4).trans h.x, h.t.trans k⟩
theorem Fr.set {w : World} {g s b6 b8 : Nat} {W : World} {cs : Array Value} (h : Fr w g s b6 b8 W cs) (h68 : b6 ≠ b8) (hb : w.heap.size ≤ b8) (j : Nat) (u : Value) : Fr w g s b6 b8 (W.setCell ⟨b8, j, none⟩ u) (cs.setIfInBounds j u) := by
  refine ⟨(Below.heap_setCell W _ u b6 h68).trans h.z, ?_, h.t.setNew hb j u⟩
  have hx := h.x
  simp [World.setCell, Array.getElem?_modify, hx]

theorem wpList_append_rows {P : Program} {w : World} {ops : Array Oper} {rest : List Oper} {o : Oper} {a : Act} {Q : Exit → Act → World → Prop} (hgd : o.guard = none) (s x : Operand) (t : TypeId)
    (ho : o.op = .call { callee := .builtin .append, args := #[s, x], argTypes := #[t, t] })
    (base : Nat) (e : TypeId) (i : TypeInfo) (z : Value) (size bytes : Nat) (ht : P.underlying t = some (.slice e)) (hi : P.info? e = some i) (hz : i.zero = some z)
    (hsize : i.size = size) (hby : i.bytes = bytes) (hzs : z.cells.size = size) (hpos : 0 < size)
    (v : Value) (n : Nat) (xs : List Value) (hs : a.eval s = v) (hown : w.ownsRow base e size v n xs)
    (y : Value) (m : Nat) (news : List Value) (hx : a.eval x = y) (hr : RowS w size y m news) (h1 : ∀ u ∈ news, u.oneCell' = true)
    (h63 : n + m ≤ maxLen) (hbytes : (n + m) * bytes ≤ 140737488355328) (hbase : base ≤ w.heap.size)
    (h : ∀ v' w', w'.ownsRow base e size v' (n + m) (xs ++ news) → w.grownBy w' v.ownBlock → (v'.ownBlock = v.ownBlock ∨ v'.ownBlock = some w.heap.size) → wpList P ops Q rest (a.put o.dst v') w') : wpList P ops Q (o :: rest) a w :=
  wpList_plain hgd fun K hK => by
    obtain ⟨v', w', hrun, h2, h3, h4⟩ := run_append_rows (P := P) base t o.type e i z size bytes ht hi hz hsize hby hzs hpos v n xs hown y m news hr h1 h63 hbytes hbase
    unfold Oper.wp execOp
    simp only [ho, resolve, invoke, builtin, Sem.run_bind, Sem.run_pure, Result.andThen_ok, List.map_toArray, List.map_cons, List.map_nil, hs, hx, hrun]
    exact hK _ _ (h v' w' h2 h3 h4)

structure RpI (F : Int → List UInt8 → Except Int (Ex × Int × List UInt8)) (w : World) (g s b6 b8 d c : Nat) (L : Except Int (List Ex × Int × List UInt8)) (op : Int) (nm : ByteArray) (v : Vl) (wr : World) (k : Nat) (qs : List Kx) (nk : Int) (rk : List UInt8) (row : Value) : Prop where
  pre : pre (qs.map Kx.e) (getL F (c - k) nk rk) = L
  n0 : 0 ≤ nk
  n1 : nk ≤ 24
  len : rk.length ≤ 1000000000000
  rd : RdR wr g rk 0
  sz : SzB wr s (24 - nk)
  fr : Fr w g s b6 b8 wr #[.int .i64 op, row, .string nm, .int .i64 v.k, .int .i64 v.i, .bool v.b, .string v.s, .float .f64 v.n]
  own : wr.ownsRow (b8 + 1) 77 8 row k (qs.flatMap Kx.cells)
  kids : ∀ q ∈ qs, ExS (fun b => b8 < b ∧ row.ownBlock ≠ some b) wr d q.A q.c q.e
theorem RpI.next {F : Int → List UInt8 → Except Int (Ex × Int × List UInt8)} {w : World} {g s b6 b8 d c : Nat} {L : Except Int (List Ex × Int × List UInt8)} {op : Int} {nm : ByteArray} {v : Vl} {wr w2 w4 : World} {k : Nat} {qs : List Kx} {nk n1 : Int} {rk r1 : List UInt8} {row row' : Value} {kid : Ex} {A : Option Addr} {cc : Nat} {o1 o2 : Obj}
    (h : RpI F w g s b6 b8 d c L op nm v wr k qs nk rk row) (hk : k < c) (hx : F nk rk = .ok (kid, n1, r1)) (hbd : 0 ≤ n1 ∧ n1 ≤ nk ∧ r1.length ≤ rk.length) (hgw : g < w.heap.size) (hsw : s < w.heap.size) (h6 : w.heap.size ≤ b6) (h68 : b6 < b8)
    (hex : ExS (fun b => wr.heap.size ≤ b) w2 d A cc kid) (hrd : RdR w2 g r1 0) (hsz : SzB w2 s (24 - n1)) (htw : Twb g s wr w2)
    (hown : w4.ownsRow (b8 + 1) 77 8 row' (k + 1) (qs.flatMap Kx.cells ++ (Kx.mk kid A cc).cells)) (hgr : ((w2.alloc o1).alloc o2).grownBy w4 row.ownBlock) (hrow : row'.ownBlock = row.ownBlock ∨ row'.ownBlock = some ((w2.alloc o1).alloc o2).heap.size) :
    RpI F w g s b6 b8 d c L op nm v (w4.setCell ⟨b8, 1, none⟩ row') (k + 1) (qs ++ [Kx.mk kid A cc]) n1 r1 row' := by
  obtain ⟨b0, b1, b2⟩ := hbd
  have hb8 : b8 < wr.heap.size := (Array.getElem?_eq_some_iff.1 h.fr.x).1
  have hb6 : b6 < wr.heap.size := (Array.getElem?_eq_some_iff.1 h.fr.z).1
  have hz2 := htw.size
  have hz3 : ((w2.alloc o1).alloc o2).heap.size = w2.heap.size + 2 := by simp
  have hz4 := hgr.size
  have hrow0 := h.own.lt
  -- a block that is none of those that were written
  have hkeep : ∀ b, b < w2.heap.size → b ≠ b8 → row.ownBlock ≠ some b → (w4.setCell ⟨b8, 1, none⟩ row').heap[b]? = w2.heap[b]? := fun b h1 h2 h3 => by
    rw [Below.heap_setCell w4 _ _ b h2, hgr.block b (by omega) (fun e => h3 e.symm)]
    exact ((alloc1 (w2.alloc o1) o2).block b (by simp; omega)).trans ((alloc1 w2 o1).block b h1)
  have hsz5 : (w4.setCell ⟨b8, 1, none⟩ row').heap.size = w4.heap.size := by simp [World.setCell]
  have h8own : row.ownBlock ≠ some b8 := fun e => by have := (hrow0 b8 e).1; omega
  have hkx : w2.heap[b8]? = some (.cells #[.int .i64 op, row, .string nm, .int .i64 v.k, .int .i64 v.i, .bool v.b, .string v.s, .float .f64 v.n] 77 (0, 0)) := (htw.block b8 hb8 (by omega) (by omega)).trans h.fr.x
  have hlow : ∀ b, b < b8 → row.ownBlock ≠ some b := fun b hb e => by have := (hrow0 b e).1; omega
  have hrowT : ∀ (b : Nat) (cs : Array Value) (fr : Nat × Nat), w2.heap[b]? = some (Obj.cells cs 5 fr) → row.ownBlock ≠ some b := fun b cs fr hb e => by
    rcases h.own.2 with ⟨rfl, -⟩ | ⟨g', cap, cur, rfl, hbase, hg', -⟩
    · cases e
    · injection e with e
      have e : g' = b := e
      subst e
      have h5 := (htw.block g' (Array.getElem?_eq_some_iff.1 hg').1 (by omega) (by omega)).trans hg'
      exact other_block hb h5 (by decide) rfl
  refine ⟨?_, b0, by have := h.n1; omega, by have := h.len; omega, ?_, ?_, ⟨?_, ?_, ?_⟩, ?_, ?_⟩
  · rw [List.map_append, List.map_cons, List.map_nil, ← h.pre, show c - k = c - (k + 1) + 1 by omega]
    exact (pre_ok hx).symm
  · exact hrd.keep (by rw [hsz5]; omega) (hkeep g (by omega) (by omega) (hlow g (by omega))) fun b cs fr hb => hkeep b (Array.getElem?_eq_some_iff.1 hb).1 (other_block hb hkx (by decide)) (hrowT b cs fr hb)
  · exact hsz.at (hkeep s (by omega) (by omega) (hlow s (by omega)))
  · exact (hkeep b6 (by omega) (by omega) (hlow b6 h68)).trans ((htw.block b6 hb6 (by omega) (by omega)).trans h.fr.z)
  · have h5 : w4.heap[b8]? = w2.heap[b8]? := (hgr.block b8 (by omega) (fun e => h8own e.symm)).trans (((alloc1 (w2.alloc o1) o2).block b8 (by simp; omega)).trans ((alloc1 w2 o1).block b8 (by omega)))
    rw [hkx] at h5
    simp [World.setCell, Array.getElem?_modify, h5]
  · have hwz := h.fr.t.size
    refine ⟨?_, ?_, ?_, by rw [hsz5]; omega, fun m hm m1 m2 => ?_⟩
    · exact hgr.os.trans (htw.os.trans h.fr.t.os)
    · exact hgr.tape.trans (htw.tape.trans h.fr.t.tape)
    · exact hgr.output.trans (htw.output.trans h.fr.t.output)
    · exact (hkeep m (by omega) (by omega) (hlow m (by omega))).trans ((htw.block m (by omega) m1 m2).trans (h.fr.t.block m hm m1 m2))
  · rw [List.flatMap_append, List.flatMap_cons, List.flatMap_nil, List.append_nil]
    exact ownsRow_setCell_below hown (a := ⟨b8, 1, none⟩) (Nat.lt_succ_self b8) row'
  · intro q hq
    rcases List.mem_append.1 hq with hq | hq
    · refine (h.kids q hq).move (fun b hb hl => ?_) (by rw [hsz5]; omega)
      refine ⟨(hkeep b (by omega) (by omega) hb.2).trans (htw.block b hl (by omega) (by omega)), hb.1, ?_⟩
      rcases hrow with e | e
      · rw [e]; exact hb.2
      · rw [e]; intro e2; injection e2 with e2; omega
    · rw [List.mem_singleton.1 hq]
      refine hex.move (fun b hb hl => ?_) (by rw [hsz5]; omega)
      have hne : row.ownBlock ≠ some b := fun e => by have := (hrow0 b e).2; omega
      refine ⟨hkeep b hl (by omega) hne, by omega, ?_⟩
      rcases hrow with e | e
      · rw [e]; exact hne
      · rw [e]; intro e2; injection e2 with e2; omega

theorem infoZ {P : Program} {e : TypeId} {z : Value} {s b : Nat} (h : (P.info? e).map (fun i => (i.zero, i.size, i.bytes)) = some (some z, s, b)) : ∃ i, P.info? e = some i ∧ i.zero = some z ∧ i.size = s ∧ i.bytes = b := by
  obtain ⟨i, hi, hzz⟩ := Option.map_eq_some_iff.1 h
  simp only [Prod.mk.injEq] at hzz
  exact ⟨i, hi, hzz.1, hzz.2.1, hzz.2.2⟩
theorem own_sliceX {w : World} {base e sz n : Nat} {v : Value} {xs : List Value} (h : w.ownsRow base e sz v n xs) : ∃ A c, v = .slice A n c := by
  rcases h.2 with ⟨rfl, h0⟩ | ⟨gb, cap, cur, e1, -⟩
  · have hn := h.1
    exact ⟨none, 0, by rw [h0]⟩
  · exact ⟨_, _, e1⟩

def GxE (g : Nat) (er : Int) (w : World) (e : Ending) (w' : World) : Prop := e = .returned (.tuple #[agZ, .int .i64 er]) ∧ (∃ r' e', RdR w' g r' e') ∧ Only g w w'
def GxO (g : Nat) (x : Ex × Int × List UInt8) (w : World) (e : Ending) (w' : World) : Prop :=
  ∃ A c, e = .returned (.tuple #[agX x.1.op A x.1.kids.length c x.1.name x.1.val, .int .i64 0]) ∧ ExS (fun b => w.heap.size ≤ b) w' 6 A c x.1 ∧ RdR w' g x.2.2 0 ∧ Only g w w'
theorem Only.new {g k : Nat} {a w w' : World} (h : Only g a w) (ho : Only k w w') (hk : a.heap.size ≤ k) : Only g a w' :=
  ⟨ho.os.trans h.os, ho.tape.trans h.tape, ho.output.trans h.output, Nat.le_trans h.size ho.size, fun m hm h1 => (ho.block m (Nat.lt_of_lt_of_le hm h.size) (by intro e; injection e with e; omega)).trans (h.block m hm h1)⟩
theorem GxE.mk {g b6 : Nat} {er e' : Int} {r' : List UInt8} {w W : World} {cs : Array Value} (hr : RdR W g r' e') (ho : Only g w W) (hz : W.heap[b6]? = some (.cells cs 77 (0, 0))) (hb : w.heap.size ≤ b6) (hg : g ≠ b6) (u0 u1 u2 u3 u4 u5 u6 u7 : Value) :
    GxE g er w (.returned (.tuple #[agZ, .int .i64 er])) (set8 W b6 u0 u1 u2 u3 u4 u5 u6 u7) :=
  ⟨rfl, ⟨_, _, hr.offT (set8_only _ _ _ _ _ _ _ _ _ _) hg hz (by decide)⟩, ho.new (set8_only _ _ _ _ _ _ _ _ _ _) hb⟩
theorem GxO.mk {g b6 c : Nat} {n : Int} {r : List UInt8} {x : Ex} {A : Option Addr} {w W : World} {cs : Array Value} (hx : ExS (fun b => b6 < b) W 6 A c x) (hr : RdR W g r 0) (ho : Only g w W) (hz : W.heap[b6]? = some (.cells cs 77 (0, 0))) (hb : w.heap.size ≤ b6) (hg : g ≠ b6) (u0 u1 u2 u3 u4 u5 u6 u7 : Value) :
    GxO g (x, n, r) w (.returned (.tuple #[agX x.op A x.kids.length c x.name x.val, .int .i64 0])) (set8 W b6 u0 u1 u2 u3 u4 u5 u6 u7) := by
  have h8 := set8_only W b6 u0 u1 u2 u3 u4 u5 u6 u7
  exact ⟨A, c, rfl, hx.move (fun b hb2 hl => ⟨h8.block b hl (by intro e; injection e with e; omega), by omega⟩) h8.size, hr.offT h8 hg hz (by decide), ho.new h8 hb⟩



/-! what is right is short -/
theorem fits_good {v : Vl} {k : Int} {l : List ByteArray} (h : fitsV v k l = 0) : goodV v = true ∧ v.k = k := by
  unfold fitsV at h
  cases hg : goodV v with
  | false => rw [hg] at h; simp at h
  | true =>
    rw [hg, Bool.true_and] at h
    by_cases hk : v.k = k
    · exact ⟨rfl, hk⟩
    · rw [if_neg (by simpa using hk)] at h
      simp at h
theorem orgs_len : ∀ (l : List Int) (a : Int), -1 ≤ a → orgsR a l = true → a ≤ 3 → (l.length : Int) + a ≤ 3
  | [], a, _, _, h => by simpa using h
  | o :: l, a, ha, h, _ => by
    unfold orgsR at h
    simp only [Bool.and_eq_true, decide_eq_true_eq] at h
    have := orgs_len l o (by omega) h.2 h.1.2
    rw [List.length_cons]
    omega
theorem check_parts {c : Ctr} (h : checkC c = 0) : nameB c.name = true ∧ fieldsR c = true ∧ stagesR c = true ∧ movesR c = true := by
  unfold checkC at h
  cases h1 : nameB c.name <;> cases h2 : fieldsR c <;> cases h3 : stagesR c <;> cases h4 : movesR c <;> simp [h1, h2, h3, h4] at h ⊢



structure Cse where
  id : ByteArray
  ctr : ByteArray
  stage : Int
  vals : List Vl
  ends : List Int
  susp : Bool
  shut : Bool
  steps : Int
def zK : Cse := ⟨⟨#[]⟩, ⟨#[]⟩, 0, [], [], false, false, 0⟩
def memI (o : Int) (l : List Int) : Bool := l.any fun x => x == o
theorem memI_iff (o : Int) (l : List Int) : memI o l = true ↔ o ∈ l := by
  unfold memI
  rw [List.any_eq_true]
  constructor
  · rintro ⟨x, h1, h2⟩
    rw [beq_iff_eq] at h2
    exact h2 ▸ h1
  · intro h
    exact ⟨o, h, by simp⟩
theorem memI_no (o : Int) (l : List Int) : memI o l = false ↔ o ∉ l := by
  rw [← memI_iff]
  cases memI o l <;> simp
def fitK : List Vl → List Fld → Bool
  | v :: vs, f :: fs => (fitsV v f.f.kind f.en == 0) && fitK vs fs
  | _, _ => true
def endsR (orgs : List Int) : Int → List Int → Bool
  | _, [] => true
  | a, o :: l => (!decide (o ≤ a) && memI o orgs) && endsR orgs o l
def zS : Stg := ⟨⟨#[]⟩, 0, []⟩
def stgAt (c : Ctr) (i : Int) : Stg := (c.ss[i.toNat]?).getD zS
def rightF (c : Ctr) (k : Cse) : Bool :=
  nameB k.id && (k.ctr.toList == c.name.toList) && (decide (0 ≤ k.stage) && decide (k.stage < (c.ss.length : Int))) && ((k.vals.length == c.fs.length) && fitK k.vals c.fs) &&
    endsR (stgAt c k.stage).orgs (-1) k.ends && !(k.susp && k.shut) && (decide (0 ≤ k.steps) && decide (k.steps ≤ 1099511627776))
def rightK (c : Ctr) (k : Cse) : Bool := (checkC c == 0) && rightF c k
def newK (c : Ctr) (id : ByteArray) : Cse × Int := if checkC c = 0 then (if nameB id = true then (⟨id, c.name, 0, c.fs.map Fld.y, [], false, false, 0⟩, 0) else (zK, 50)) else (zK, 81)

/-! 7.2 -/
def updK (c : Ctr) (k : Cse) (nm : ByteArray) (v : Vl) (org : Int) : Cse × Int :=
  if (stgAt c k.stage).orgs ≠ [] ∧ memI org (stgAt c k.stage).orgs = false then (k, 72) else
  match c.fs[(placeN nm (c.fs.map fun f => f.f.name) 0).toNat]?, decide (placeN nm (c.fs.map fun f => f.f.name) 0 < 0) with
  | some f, false => if fitsV v f.f.kind f.en = 0 then ({ k with vals := k.vals.set (placeN nm (c.fs.map fun f => f.f.name) 0).toNat v, ends := [] }, 0) else (k, fitsV v f.f.kind f.en)
  | _, _ => (k, 50)
def insI (o : Int) : List Int → List Int
  | [] => [o]
  | x :: l => if o < x then o :: x :: l else x :: insI o l
def endK (c : Ctr) (k : Cse) (org : Int) : Cse × Int :=
  if memI org (stgAt c k.stage).orgs = true then (if memI org k.ends = true then (k, 82) else ({ k with ends := insI org k.ends }, 0)) else (k, 72)
def effK (c : Ctr) (ev : Ex → Vl × Int) : List Eff → List Vl → List Vl × Int
  | [], a => (a, 0)
  | e :: l, a =>
    match c.fs[(placeN e.field (c.fs.map fun f => f.f.name) 0).toNat]? with
    | none => ([], 0)
    | some f =>
      if (ev e.e).2 = 0 then (if fitsV (ev e.e).1 f.f.kind f.en = 0 then effK c ev l (a.set (placeN e.field (c.fs.map fun f => f.f.name) 0).toNat (ev e.e).1) else ([], fitsV (ev e.e).1 f.f.kind f.en)) else ([], (ev e.e).2)
def mayK (c : Ctr) (k : Cse) (m : Mv) (ev : Ex → Vl × Int) (org : Int) : Int :=
  if m.frm ≠ k.stage then 61 else if 0 ≤ m.org ∧ m.org ≠ org then 72 else if (k.ends.length : Int) < (stgAt c k.stage).need then 71 else
  if (ev m.guard).2 ≠ 0 then (ev m.guard).2 else if (ev m.guard).1.b = true then 0 else 70
def advK (c : Ctr) (k : Cse) (nm : ByteArray) (ev : Ex → Vl × Int) (org : Int) : Cse × Int :=
  match c.ms[(placeN nm (c.ms.map Mv.name) 0).toNat]?, decide (placeN nm (c.ms.map Mv.name) 0 < 0) with
  | some m, false =>
    if mayK c k m ev org ≠ 0 then (k, mayK c k m ev org) else
    if (effK c ev m.effs k.vals).2 ≠ 0 then (k, (effK c ev m.effs k.vals).2) else ({ k with vals := (effK c ev m.effs k.vals).1, stage := m.too, ends := [] }, 0)
  | _, _ => (k, 50)
def leadsK (c : Ctr) (st : Int) : Bool := c.ms.any fun m => m.frm == st
def barK (k : Cse) (d : Int) : Int :=
  if d = 9 then (if k.shut = true then 0 else 75) else if d = 7 then (if k.shut = true then 73 else 0) else if k.susp = true then 74 else if k.shut = true then 73 else 0
def stepK (c : Ctr) (k : Cse) (d : Int) (nm : ByteArray) (v : Vl) (ev : Ex → Vl × Int) (org : Int) : Cse × Int :=
  if barK k d ≠ 0 then (k, barK k d) else
  if d = 3 then updK c k nm v org else if d = 4 then endK c k org else if d = 5 then advK c k nm ev org else
  if d = 6 then ({ k with susp := true }, 0) else if d = 7 then (if k.susp = true then ({ k with susp := false }, 0) else (k, 75)) else
  if d = 8 then (if leadsK c k.stage = true then (k, 61) else ({ k with shut := true }, 0)) else ({ k with shut := false, stage := 0, ends := [] }, 0)
def countK (r : Cse × Int) (k : Cse) : Cse × Int := if r.2 = 0 then ({ r.1 with steps := r.1.steps + 1 }, 0) else (k, r.2)
def evK (c : Ctr) (k : Cse) (e : Ex) : Vl × Int := evalP e (c.fs.map Fld.f) k.vals
def doK (c : Ctr) (k : Cse) (d : Int) (nm : ByteArray) (v : Vl) (org : Int) : Cse × Int :=
  if rightK c k = false ∨ d < 3 ∨ 9 < d ∨ org < 0 ∨ 4 ≤ org then (k, 1) else if k.steps = 1099511627776 then (k, 3) else countK (stepK c k d nm v (evK c k) org) k

/-! what is right, by its parts -/
structure RtK (c : Ctr) (k : Cse) : Prop where
  ck : checkC c = 0
  nm : nameB k.id = true
  ct : k.ctr.toList = c.name.toList
  s0 : 0 ≤ k.stage
  s1 : k.stage < (c.ss.length : Int)
  vn : k.vals.length = c.fs.length
  vf : fitK k.vals c.fs = true
  en : endsR (stgAt c k.stage).orgs (-1) k.ends = true
  sc : ¬ (k.susp = true ∧ k.shut = true)
  t0 : 0 ≤ k.steps
  t1 : k.steps ≤ 1099511627776
theorem rightK_iff (c : Ctr) (k : Cse) : rightK c k = true ↔ RtK c k := by
  constructor
  · intro h
    simp only [rightK, rightF, Bool.and_eq_true, beq_iff_eq, decide_eq_true_eq, Bool.not_eq_true', Bool.and_eq_false_iff] at h
    obtain ⟨h1, ⟨⟨⟨⟨⟨h2, h3⟩, h4, h5⟩, h6, h7⟩, h8⟩, h9⟩, h10, h11⟩ := h
    refine ⟨h1, h2, h3, h4, h5, h6, h7, h8, ?_, h10, h11⟩
    rintro ⟨ha, hb⟩
    rcases h9 with h9 | h9
    · rw [ha] at h9; cases h9
    · rw [hb] at h9; cases h9
  · rintro ⟨h1, h2, h3, h4, h5, h6, h7, h8, h9, h10, h11⟩
    simp only [rightK, rightF, Bool.and_eq_true, beq_iff_eq, decide_eq_true_eq, Bool.not_eq_true', Bool.and_eq_false_iff]
    refine ⟨h1, ⟨⟨⟨⟨⟨h2, h3⟩, h4, h5⟩, h6, h7⟩, h8⟩, ?_⟩, h10, h11⟩
    rcases hs : k.susp with _ | _
    · exact .inl rfl
    · rcases hc : k.shut with _ | _
      · exact .inr rfl
      · exact absurd ⟨hs, hc⟩ h9
theorem fitK_get : ∀ {vs : List Vl} {fs : List Fld}, fitK vs fs = true → ∀ (j : Nat) (hj : j < vs.length) (hf : j < fs.length), fitsV vs[j] fs[j].f.kind fs[j].en = 0
  | v :: vs, f :: fs, h, 0, hj, hf => by
    simp only [fitK, Bool.and_eq_true, beq_iff_eq] at h
    exact h.1
  | v :: vs, f :: fs, h, j + 1, hj, hf => by
    simp only [fitK, Bool.and_eq_true, beq_iff_eq] at h
    exact fitK_get h.2 j (by simpa using hj) (by simpa using hf)
theorem fitK_set : ∀ {vs : List Vl} {fs : List Fld} (j : Nat) (v : Vl) (f : Fld), fitK vs fs = true → fs[j]? = some f → fitsV v f.f.kind f.en = 0 → fitK (vs.set j v) fs = true
  | [], fs, j, v, f, h, hf, hv => by rw [List.set_nil]; exact h
  | x :: vs, [], j, v, f, h, hf, hv => by cases hf
  | x :: vs, g :: fs, 0, v, f, h, hf, hv => by
    injection hf with hf
    subst hf
    simp only [fitK, Bool.and_eq_true, beq_iff_eq] at h
    simp only [List.set_cons_zero, fitK, Bool.and_eq_true, beq_iff_eq]
    exact ⟨hv, h.2⟩
  | x :: vs, g :: fs, j + 1, v, f, h, hf, hv => by
    simp only [fitK, Bool.and_eq_true, beq_iff_eq] at h
    simp only [List.set_cons_succ, fitK, Bool.and_eq_true, beq_iff_eq]
    exact ⟨h.1, fitK_set j v f h.2 (by simpa using hf) hv⟩
theorem fitK_first : ∀ fs : List Fld, (∀ f ∈ fs, fitsV f.y f.f.kind f.en = 0) → fitK (fs.map Fld.y) fs = true
  | [], _ => rfl
  | f :: fs, h => by
    simp only [List.map_cons, fitK, Bool.and_eq_true, beq_iff_eq]
    exact ⟨h f (List.mem_cons_self ..), fitK_first fs fun g hg => h g (List.mem_cons_of_mem _ hg)⟩
theorem fitK_fitX : ∀ {vs : List Vl} {fs : List Fld}, vs.length = fs.length → fitK vs fs = true → fitX (fs.map Fld.f) vs = true
  | vs, fs, hl, h => by
    unfold fitX
    rw [Bool.and_eq_true, beq_iff_eq, List.length_map]
    refine ⟨hl.symm, List.all_eq_true.2 fun p hp => ?_⟩
    obtain ⟨j, hj, rfl⟩ := List.getElem_of_mem hp
    have hj1 : j < fs.length := by simp at hj; omega
    have hj2 : j < vs.length := by omega
    obtain ⟨h4, h5⟩ := fits_good (fitK_get h j hj2 hj1)
    rw [List.getElem_zip, Bool.and_eq_true, beq_iff_eq]
    simp only [List.getElem_map]
    exact ⟨h4, h5⟩
/-! what has endorsed -/
theorem endsR_lt {orgs : List Int} : ∀ {a : Int} {l : List Int}, endsR orgs a l = true → ∀ x ∈ l, a < x ∧ x ∈ orgs
  | a, [], _, x, hx => by cases hx
  | a, o :: l, h, x, hx => by
    simp only [endsR, Bool.and_eq_true, Bool.not_eq_true', decide_eq_false_iff_not, memI_iff] at h
    rcases List.mem_cons.1 hx with rfl | hx
    · exact ⟨by omega, h.1.2⟩
    · have := endsR_lt h.2 x hx
      exact ⟨by omega, this.2⟩
theorem endsR_ins {orgs : List Int} {n : Int} (hn : n ∈ orgs) : ∀ {a : Int} {l : List Int}, endsR orgs a l = true → a < n → n ∉ l → endsR orgs a (insI n l) = true
  | a, [], _, ha, _ => by
    simp only [insI, endsR, Bool.and_eq_true, Bool.not_eq_true', decide_eq_false_iff_not, memI_iff, and_true]
    exact ⟨by omega, hn⟩
  | a, o :: l, h, ha, hm => by
    simp only [endsR, Bool.and_eq_true, Bool.not_eq_true', decide_eq_false_iff_not, memI_iff] at h
    have hne : n ≠ o := fun e => hm (e ▸ List.mem_cons_self ..)
    unfold insI
    by_cases hlt : n < o
    · rw [if_pos hlt]
      simp only [endsR, Bool.and_eq_true, Bool.not_eq_true', decide_eq_false_iff_not, memI_iff]
      exact ⟨⟨by omega, hn⟩, ⟨by omega, h.1.2⟩, h.2⟩
    · rw [if_neg hlt]
      simp only [endsR, Bool.and_eq_true, Bool.not_eq_true', decide_eq_false_iff_not, memI_iff]
      exact ⟨h.1, endsR_ins hn h.2 (by omega) fun e => hm (List.mem_cons_of_mem _ e)⟩

inductive Did7 (c : Ctr) (k : Cse) (d : Int) (v : Vl) (ev : Ex → Vl × Int) (org : Int) : Cse → Prop
  | upd (i : Nat) (f : Fld) (hd : d = 3) (hs : k.susp = false) (hc : k.shut = false) (hf : c.fs[i]? = some f) (hv : fitsV v f.f.kind f.en = 0) : Did7 c k d v ev org { k with vals := k.vals.set i v, ends := [] }
  | ends (hd : d = 4) (hs : k.susp = false) (hc : k.shut = false) (ho : org ∈ (stgAt c k.stage).orgs) (hn : org ∉ k.ends) : Did7 c k d v ev org { k with ends := insI org k.ends }
  | adv (m : Mv) (hd : d = 5) (hs : k.susp = false) (hc : k.shut = false) (hm : m ∈ c.ms) (hy : mayK c k m ev org = 0) (he : (effK c ev m.effs k.vals).2 = 0) : Did7 c k d v ev org { k with vals := (effK c ev m.effs k.vals).1, stage := m.too, ends := [] }
  | susp (hd : d = 6) (hs : k.susp = false) (hc : k.shut = false) : Did7 c k d v ev org { k with susp := true }
  | goes (hd : d = 7) (hc : k.shut = false) : Did7 c k d v ev org { k with susp := false }
  | shut (hd : d = 8) (hs : k.susp = false) (hc : k.shut = false) : Did7 c k d v ev org { k with shut := true }
  | again (hd : d = 9) (hc : k.shut = true) : Did7 c k d v ev org { k with shut := false, stage := 0, ends := [] }
theorem updK_org {c : Ctr} {k : Cse} {nm : ByteArray} {v : Vl} {org : Int} (h : (stgAt c k.stage).orgs ≠ [] ∧ memI org (stgAt c k.stage).orgs = false) : updK c k nm v org = (k, 72) := if_pos h
theorem updK_neg {c : Ctr} {k : Cse} {nm : ByteArray} {v : Vl} {org : Int} (h : ¬ ((stgAt c k.stage).orgs ≠ [] ∧ memI org (stgAt c k.stage).orgs = false)) (hp : placeN nm (c.fs.map fun f => f.f.name) 0 < 0) : updK c k nm v org = (k, 50) := by
  unfold updK
  rw [if_neg h, decide_eq_true hp]
  generalize c.fs[(placeN nm (c.fs.map fun f => f.f.name) 0).toNat]? = o
  cases o <;> rfl
theorem updK_at {c : Ctr} {k : Cse} {nm : ByteArray} {v : Vl} {org : Int} {f : Fld} (h : ¬ ((stgAt c k.stage).orgs ≠ [] ∧ memI org (stgAt c k.stage).orgs = false)) (hp : ¬ placeN nm (c.fs.map fun f => f.f.name) 0 < 0) (hf : c.fs[(placeN nm (c.fs.map fun f => f.f.name) 0).toNat]? = some f) :
    updK c k nm v org = if fitsV v f.f.kind f.en = 0 then ({ k with vals := k.vals.set (placeN nm (c.fs.map fun f => f.f.name) 0).toNat v, ends := [] }, 0) else (k, fitsV v f.f.kind f.en) := by
  unfold updK
  rw [if_neg h, decide_eq_false hp, hf]
theorem place_at {α : Type} (nm : ByteArray) (l : List α) (g : α → ByteArray) (hp : ¬ placeN nm (l.map g) 0 < 0) : ∃ (j : Nat) (hj : j < l.length), placeN nm (l.map g) 0 = (j : Int) ∧ l[(placeN nm (l.map g) 0).toNat]? = some l[j] := by
  have h1 := placeN_lt nm (l.map g) 0
  rw [List.length_map] at h1
  have hj : (placeN nm (l.map g) 0).toNat < l.length := by omega
  exact ⟨_, hj, by omega, List.getElem?_eq_getElem hj⟩
theorem advK_neg {c : Ctr} {k : Cse} {nm : ByteArray} {ev : Ex → Vl × Int} {org : Int} (hp : placeN nm (c.ms.map Mv.name) 0 < 0) : advK c k nm ev org = (k, 50) := by
  unfold advK
  rw [decide_eq_true hp]
  generalize c.ms[(placeN nm (c.ms.map Mv.name) 0).toNat]? = o
  cases o <;> rfl
theorem advK_at {c : Ctr} {k : Cse} {nm : ByteArray} {ev : Ex → Vl × Int} {org : Int} {m : Mv} (hp : ¬ placeN nm (c.ms.map Mv.name) 0 < 0) (hm : c.ms[(placeN nm (c.ms.map Mv.name) 0).toNat]? = some m) :
    advK c k nm ev org = if mayK c k m ev org ≠ 0 then (k, mayK c k m ev org) else if (effK c ev m.effs k.vals).2 ≠ 0 then (k, (effK c ev m.effs k.vals).2) else ({ k with vals := (effK c ev m.effs k.vals).1, stage := m.too, ends := [] }, 0) := by
  unfold advK
  rw [decide_eq_false hp, hm]
theorem effK_cons {c : Ctr} {ev : Ex → Vl × Int} {e : Eff} {l : List Eff} {a : List Vl} {f : Fld} (hf : c.fs[(placeN e.field (c.fs.map fun f => f.f.name) 0).toNat]? = some f) :
    effK c ev (e :: l) a = if (ev e.e).2 = 0 then (if fitsV (ev e.e).1 f.f.kind f.en = 0 then effK c ev l (a.set (placeN e.field (c.fs.map fun f => f.f.name) 0).toNat (ev e.e).1) else ([], fitsV (ev e.e).1 f.f.kind f.en)) else ([], (ev e.e).2) := by
  rw [effK, hf]
theorem barK_low {k : Cse} {d : Int} (h9 : d ≠ 9) (h7 : d ≠ 7) (h : barK k d = 0) : k.susp = false ∧ k.shut = false := by
  unfold barK at h
  rw [if_neg h9, if_neg h7] at h
  rcases hs : k.susp with _ | _
  · rcases hc : k.shut with _ | _
    · exact ⟨rfl, rfl⟩
    · rw [hs, hc] at h; exact absurd h (by simp)
  · rw [hs] at h; exact absurd h (by simp)
theorem did_step {c : Ctr} {k : Cse} {d : Int} {nm : ByteArray} {v : Vl} {ev : Ex → Vl × Int} {org : Int} (h3 : 3 ≤ d) (h9 : d ≤ 9) (h : (stepK c k d nm v ev org).2 = 0) : Did7 c k d v ev org (stepK c k d nm v ev org).1 := by
  unfold stepK at h ⊢
  by_cases hb : barK k d ≠ 0
  · rw [if_pos hb] at h; exact absurd h hb
  rw [if_neg hb] at h ⊢
  replace hb := Decidable.not_not.1 hb
  by_cases e3 : d = 3
  · rw [if_pos e3] at h ⊢
    obtain ⟨hs, hc⟩ := barK_low (by omega) (by omega) hb
    by_cases hno : (stgAt c k.stage).orgs ≠ [] ∧ memI org (stgAt c k.stage).orgs = false
    · rw [updK_org hno] at h; exact absurd h (by simp)
    by_cases hp : placeN nm (c.fs.map fun f => f.f.name) 0 < 0
    · rw [updK_neg hno hp] at h; exact absurd h (by simp)
    obtain ⟨j, hj, -, hf⟩ := place_at nm c.fs (fun f => f.f.name) hp
    rw [updK_at hno hp hf] at h ⊢
    by_cases hv : fitsV v (c.fs[j]).f.kind (c.fs[j]).en = 0
    · rw [if_pos hv]
      exact .upd _ _ e3 hs hc hf hv
    · rw [if_neg hv] at h; exact absurd h hv
  rw [if_neg e3] at h ⊢
  by_cases e4 : d = 4
  · rw [if_pos e4] at h ⊢
    obtain ⟨hs, hc⟩ := barK_low (by omega) (by omega) hb
    unfold endK at h ⊢
    split at h
    · rename_i ho
      split at h
      · exact absurd h (by simp)
      · rename_i hn
        rw [if_pos ho, if_neg hn]
        exact .ends e4 hs hc ((memI_iff _ _).1 ho) fun hm => hn ((memI_iff _ _).2 hm)
    · exact absurd h (by simp)
  rw [if_neg e4] at h ⊢
  by_cases e5 : d = 5
  · rw [if_pos e5] at h ⊢
    obtain ⟨hs, hc⟩ := barK_low (by omega) (by omega) hb
    by_cases hp : placeN nm (c.ms.map Mv.name) 0 < 0
    · rw [advK_neg hp] at h; exact absurd h (by simp)
    obtain ⟨j, hj, -, hm⟩ := place_at nm c.ms Mv.name hp
    rw [advK_at hp hm] at h ⊢
    by_cases hy : mayK c k c.ms[j] ev org ≠ 0
    · rw [if_pos hy] at h; exact absurd h hy
    rw [if_neg hy] at h ⊢
    by_cases he : (effK c ev (c.ms[j]).effs k.vals).2 ≠ 0
    · rw [if_pos he] at h; exact absurd h he
    rw [if_neg he]
    exact .adv c.ms[j] e5 hs hc (List.getElem_mem hj) (Decidable.not_not.1 hy) (Decidable.not_not.1 he)
  rw [if_neg e5] at h ⊢
  by_cases e6 : d = 6
  · rw [if_pos e6] at h ⊢
    obtain ⟨hs, hc⟩ := barK_low (by omega) (by omega) hb
    exact .susp e6 hs hc
  rw [if_neg e6] at h ⊢
  by_cases e7 : d = 7
  · rw [if_pos e7] at h ⊢
    split at h
    · rename_i hs
      rw [if_pos hs]
      unfold barK at hb
      rw [if_neg (show d ≠ 9 by omega), if_pos e7] at hb
      split at hb
      · exact absurd hb (by simp)
      · rename_i hc
        exact .goes e7 (by simpa using hc)
    · exact absurd h (by simp)
  rw [if_neg e7] at h ⊢
  by_cases e8 : d = 8
  · rw [if_pos e8] at h ⊢
    obtain ⟨hs, hc⟩ := barK_low (by omega) (by omega) hb
    split at h
    · exact absurd h (by simp)
    · rename_i hl
      rw [if_neg hl]
      exact .shut e8 hs hc
  rw [if_neg e8] at h ⊢
  have e9 : d = 9 := by omega
  unfold barK at hb
  rw [if_pos e9] at hb
  split at hb
  · rename_i hc; exact .again e9 hc
  · exact absurd hb (by simp)

theorem effs_at {c : Ctr} {m : Mv} (h : checkC c = 0) (hm : m ∈ c.ms) : ∀ e ∈ m.effs, 0 ≤ placeN e.field (c.fs.map fun f => f.f.name) 0 ∧ (placeN e.field (c.fs.map fun f => f.f.name) 0).toNat < c.fs.length := by
  intro e he
  obtain ⟨-, -, -, h4⟩ := check_parts h
  unfold movesR at h4
  simp only [Bool.and_eq_true, List.all_eq_true] at h4
  have h5 := h4.2 m hm
  unfold moveR effsR at h5
  simp only [Bool.and_eq_true, List.all_eq_true] at h5
  have h6 := h5.2.2 e he
  unfold effR at h6
  simp only [Bool.and_eq_true, decide_eq_true_eq] at h6
  have h7 := h6.1
  have h8 := findX_place e.field (c.fs.map Fld.f) 0
  have h9 : (c.fs.map Fld.f).map Fd.name = c.fs.map fun x => x.f.name := by rw [List.map_map]; rfl
  rw [h9] at h8
  rw [h8] at h7
  have h10 := placeN_lt e.field (c.fs.map fun x => x.f.name) 0
  rw [List.length_map] at h10
  exact ⟨h7, by omega⟩
theorem move_to {c : Ctr} {m : Mv} (h : checkC c = 0) (hm : m ∈ c.ms) : (0 ≤ m.frm ∧ m.frm < (c.ss.length : Int)) ∧ (0 ≤ m.too ∧ m.too < (c.ss.length : Int)) := by
  obtain ⟨-, -, -, h4⟩ := check_parts h
  unfold movesR at h4
  simp only [Bool.and_eq_true, List.all_eq_true] at h4
  have h5 := h4.2 m hm
  unfold moveR at h5
  simp only [Bool.and_eq_true, decide_eq_true_eq] at h5
  exact ⟨⟨h5.1.1.1.1.2.1, by have := h5.1.1.1.1.2.2; omega⟩, h5.1.1.1.2.1, by have := h5.1.1.1.2.2; omega⟩
theorem effK_right (c : Ctr) (ev : Ex → Vl × Int) : ∀ (es : List Eff) (a : List Vl), (∀ e ∈ es, (placeN e.field (c.fs.map fun f => f.f.name) 0).toNat < c.fs.length) → a.length = c.fs.length → fitK a c.fs = true → (effK c ev es a).2 = 0 →
    (effK c ev es a).1.length = c.fs.length ∧ fitK (effK c ev es a).1 c.fs = true
  | [], a, _, hl, hf, _ => ⟨hl, hf⟩
  | e :: es, a, hat, hl, hf, h => by
    have h1 := hat e (List.mem_cons_self ..)
    have hx := List.getElem?_eq_getElem h1
    rw [effK_cons hx] at h ⊢
    by_cases h0 : (ev e.e).2 = 0
    · rw [if_pos h0] at h ⊢
      by_cases hv : fitsV (ev e.e).1 (c.fs[(placeN e.field (c.fs.map fun f => f.f.name) 0).toNat]).f.kind (c.fs[(placeN e.field (c.fs.map fun f => f.f.name) 0).toNat]).en = 0
      · rw [if_pos hv] at h ⊢
        exact effK_right c ev es _ (fun e he => hat e (List.mem_cons_of_mem _ he)) (by rw [List.length_set]; exact hl) (fitK_set _ _ _ hf hx hv) h
      · rw [if_neg hv] at h; exact absurd h hv
    · rw [if_neg h0] at h; exact absurd h h0
theorem did_right {c : Ctr} {k n : Cse} {d : Int} {v : Vl} {ev : Ex → Vl × Int} {org : Int} (h : RtK c k) (h0 : 0 ≤ org) (hd : Did7 c k d v ev org n) : RtK c n ∧ n.steps = k.steps := by
  obtain ⟨ck, nm, ct, s0, s1, vn, vf, en, sc, t0, t1⟩ := h
  rcases hd with ⟨i, f, hd, hs, hc, hf, hv⟩ | ⟨hd, hs, hc, ho, hn⟩ | ⟨m, hd, hs, hc, hm, hy, he⟩ | ⟨hd, hs, hc⟩ | ⟨hd, hc⟩ | ⟨hd, hs, hc⟩ | ⟨hd, hc⟩
  · exact ⟨⟨ck, nm, ct, s0, s1, by rw [List.length_set]; exact vn, fitK_set i v f vf hf hv, rfl, sc, t0, t1⟩, rfl⟩
  · exact ⟨⟨ck, nm, ct, s0, s1, vn, vf, endsR_ins ho en (by omega) hn, sc, t0, t1⟩, rfl⟩
  · obtain ⟨e1, e2⟩ := effK_right c ev m.effs k.vals (fun e h => (effs_at ck hm e h).2) vn vf he
    exact ⟨⟨ck, nm, ct, (move_to ck hm).2.1, (move_to ck hm).2.2, e1, e2, rfl, sc, t0, t1⟩, rfl⟩
  · exact ⟨⟨ck, nm, ct, s0, s1, vn, vf, en, (fun h => by rw [hc] at h; exact absurd h.2 (by simp)), t0, t1⟩, rfl⟩
  · exact ⟨⟨ck, nm, ct, s0, s1, vn, vf, en, (fun h => absurd h.1 (by simp)), t0, t1⟩, rfl⟩
  · exact ⟨⟨ck, nm, ct, s0, s1, vn, vf, en, (fun h => by rw [hs] at h; exact absurd h.1 (by simp)), t0, t1⟩, rfl⟩
  · refine ⟨⟨ck, nm, ct, Int.le_refl _, by show (0 : Int) < _; omega, vn, vf, rfl, (fun h => absurd h.2 (by simp)), t0, t1⟩, rfl⟩
theorem do_cases (c : Ctr) (k : Cse) (d : Int) (nm : ByteArray) (v : Vl) (org : Int) : ((doK c k d nm v org).1 = k ∧ (doK c k d nm v org).2 ≠ 0) ∨
    (RtK c k ∧ 3 ≤ d ∧ d ≤ 9 ∧ 0 ≤ org ∧ org ≤ 3 ∧ k.steps ≠ 1099511627776 ∧ (doK c k d nm v org).2 = 0 ∧ ∃ n, Did7 c k d v (evK c k) org n ∧ (doK c k d nm v org).1 = { n with steps := n.steps + 1 }) := by
  unfold doK
  by_cases h1 : rightK c k = false ∨ d < 3 ∨ 9 < d ∨ org < 0 ∨ 4 ≤ org
  · rw [if_pos h1]
    exact .inl ⟨rfl, by simp⟩
  rw [if_neg h1]
  by_cases h2 : k.steps = 1099511627776
  · rw [if_pos h2]
    exact .inl ⟨rfl, by simp⟩
  rw [if_neg h2]
  have hr : RtK c k := (rightK_iff c k).1 (by cases h : rightK c k with | true => rfl | false => exact absurd (.inl h) h1)
  unfold countK
  by_cases h3 : (stepK c k d nm v (evK c k) org).2 = 0
  · rw [if_pos h3]
    exact .inr ⟨hr, by omega, by omega, by omega, by omega, h2, rfl, _, did_step (by omega) (by omega) h3, rfl⟩
  · rw [if_neg h3]
    exact .inl ⟨rfl, h3⟩
theorem do_right (c : Ctr) (k : Cse) (d : Int) (nm : ByteArray) (v : Vl) (org : Int) (h : rightK c k = true) : rightK c (doK c k d nm v org).1 = true := by
  rcases do_cases c k d nm v org with ⟨h1, -⟩ | ⟨hr, -, -, h0, -, ht, -, n, hd, h1⟩
  · rw [h1]; exact h
  · rw [h1, rightK_iff]
    obtain ⟨⟨ck, nm, ct, s0, s1, vn, vf, en, sc, t0, t1⟩, hs⟩ := did_right hr h0 hd
    have := hr.t1
    exact ⟨ck, nm, ct, s0, s1, vn, vf, en, sc, by show 0 ≤ n.steps + 1; omega, by show n.steps + 1 ≤ _; omega⟩
theorem new_right {c : Ctr} {id : ByteArray} (h : (newK c id).2 = 0) : rightK c (newK c id).1 = true ∧ checkC c = 0 := by
  unfold newK at h ⊢
  by_cases hc : checkC c = 0
  · rw [if_pos hc] at h ⊢
    by_cases hn : nameB id = true
    · rw [if_pos hn] at h ⊢
      refine ⟨(rightK_iff _ _).2 ⟨hc, hn, rfl, Int.le_refl _, ?_, by simp, ?_, rfl, by simp, Int.le_refl _, (show (0 : Int) ≤ 1099511627776 by decide)⟩, hc⟩
      · obtain ⟨-, -, h3, -⟩ := check_parts hc
        unfold stagesR at h3
        simp only [Bool.and_eq_true, decide_eq_true_eq] at h3
        show (0 : Int) < _
        omega
      · refine fitK_first _ fun f hf => ?_
        obtain ⟨-, h2, -, -⟩ := check_parts hc
        unfold fieldsR at h2
        simp only [Bool.and_eq_true, decide_eq_true_eq, List.all_eq_true] at h2
        have h3 := h2.2 f hf
        unfold fieldR at h3
        simp only [Bool.and_eq_true, beq_iff_eq] at h3
        exact h3.2
    · rw [if_neg hn] at h; exact absurd h (by simp)
  · rw [if_neg hc] at h; exact absurd h (by simp)

def RowN {α : Type} (S : Nat → Prop) (w : World) (K : Nat) (R : World → Addr → α → Prop) (A : Option Addr) (c : Nat) (l : List α) : Prop :=
  l.length ≤ c ∧ c ≤ maxLen ∧ (A = none → c = 0) ∧ ∀ j (hj : j < l.length), ∃ b, A = some ⟨b, 0, none⟩ ∧ b < w.heap.size ∧ S b ∧ R w ⟨b, j * K, none⟩ l[j]
theorem RowN.nil {α : Type} (S : Nat → Prop) (w : World) (K : Nat) (R : World → Addr → α → Prop) : RowN S w K R none 0 [] := ⟨Nat.le_refl _, Nat.zero_le _, fun _ => rfl, fun j hj => absurd hj (Nat.not_lt_zero _)⟩
theorem RowN.row {α : Type} {S : Nat → Prop} {w : World} {K : Nat} {R R' : World → Addr → α → Prop} (hR : ∀ p x, R w p x → R' w p x) {A : Option Addr} {c : Nat} {l : List α} (h : RowN S w K R A c l) : RowK w K R' A c l := by
  obtain ⟨h1, h2, h3, h4⟩ := h
  refine ⟨h1, h2, h3, fun j hj => ?_⟩
  obtain ⟨b, e1, e2, -, e3⟩ := h4 j hj
  refine ⟨_, e1, e2, ?_⟩
  rw [Addr.add_lit, Nat.zero_add]
  exact hR _ _ e3
abbrev Kept (S T : Nat → Prop) (w w' : World) : Prop := ∀ b, S b → b < w.heap.size → w'.heap[b]? = w.heap[b]? ∧ T b
theorem RowN.move {α : Type} {S T : Nat → Prop} {w w' : World} {K : Nat} {R R' : World → Addr → α → Prop} (h : Kept S T w w') (hz : w.heap.size ≤ w'.heap.size) (hR : ∀ (b o : Nat) (x : α), w'.heap[b]? = w.heap[b]? → R w ⟨b, o, none⟩ x → R' w' ⟨b, o, none⟩ x) {A : Option Addr} {c : Nat} {l : List α} (hx : RowN S w K R A c l) : RowN T w' K R' A c l := by
  obtain ⟨h1, h2, h3, h4⟩ := hx
  refine ⟨h1, h2, h3, fun j hj => ?_⟩
  obtain ⟨b, e1, e2, e3, e4⟩ := h4 j hj
  obtain ⟨f1, f2⟩ := h b e3 e2
  exact ⟨b, e1, Nat.lt_of_lt_of_le e2 hz, f2, hR b _ _ f1 e4⟩
theorem rowN_own {α β : Type} {T : Nat → Prop} {w : World} {base : Nat} {t : TypeId} {K : Nat} {v : Value} {n : Nat} (cells : β → List Value) (hK : ∀ q, (cells q).length = K) (hpos : 0 < K) (val : β → α) {R : World → Addr → α → Prop} {qs : List β} (h : w.ownsRow base t K v n (qs.flatMap cells)) (hT : ∀ b, base ≤ b → T b)
    (hR : ∀ q ∈ qs, ∀ b i : Nat, (∀ o, o < K → w.cell? ⟨b, i + o, none⟩ = (cells q)[o]?) → R w ⟨b, i, none⟩ (val q)) : ∃ A c, v = .slice A (qs.map val).length c ∧ RowN T w K R A c (qs.map val) := by
  have hl := h.1
  rw [flat_len cells K hK] at hl
  have hn : n = qs.length := (Nat.eq_of_mul_eq_mul_right hpos hl).symm
  subst hn
  rcases h.2 with ⟨rfl, h0⟩ | ⟨g, cap, cur, rfl, hbase, hg, hc, hm, hcs, ht⟩
  · have : qs = [] := List.eq_nil_of_length_eq_zero h0
    subst this
    exact ⟨none, 0, rfl, RowN.nil _ _ _ _⟩
  · refine ⟨some ⟨g, 0, none⟩, cap, by rw [List.length_map], by rw [List.length_map]; exact hc, hm, fun h => (by cases h), fun j hj => ?_⟩
    have hjl : j < qs.length := by simpa using hj
    refine ⟨g, rfl, (Array.getElem?_eq_some_iff.1 hg).1, hT g hbase, ?_⟩
    rw [List.getElem_map]
    refine hR _ (List.getElem_mem hjl) g _ fun o ho => ?_
    have hlt : j * K + o < qs.length * K := by
      have : (j + 1) * K ≤ qs.length * K := Nat.mul_le_mul_right _ hjl
      rw [Nat.add_mul] at this
      omega
    rw [cell_of_row w g _ _ _ (0, 0) hg, ← flat_get cells K hK qs j o hjl ho, ← ht, List.getElem?_take, if_pos hlt, Array.getElem?_toList]

/-! texts, ints -/
def StrP (w : World) (p : Addr) (s : ByteArray) : Prop := w.cell? p = some (.string s)
def IntP (w : World) (p : Addr) (n : Int) : Prop := w.cell? p = some (.int .i64 n)
abbrev intC (n : Int) : List Value := [.int .i64 n]
theorem StrP.at {w w' : World} (b o : Nat) (x : ByteArray) (h : w'.heap[b]? = w.heap[b]?) (hx : StrP w ⟨b, o, none⟩ x) : StrP w' ⟨b, o, none⟩ x := (World.cell?_of_block (a := ⟨b, o, none⟩) h).trans hx
theorem IntP.at {w w' : World} (b o : Nat) (x : Int) (h : w'.heap[b]? = w.heap[b]?) (hx : IntP w ⟨b, o, none⟩ x) : IntP w' ⟨b, o, none⟩ x := (World.cell?_of_block (a := ⟨b, o, none⟩) h).trans hx
theorem rd_rowN {α : Type} {S : Nat → Prop} {w : World} {A : Option Addr} {c : Nat} {l : List α} (val : α → Value) (h : RowN S w 1 (fun w p x => w.cell? p = some (val x)) A c l) : Rd w (.slice A l.length c) (l.map val) := by
  obtain ⟨h1, h2, h3, h4⟩ := h
  refine ⟨A, c, by rw [List.length_map], by rw [List.length_map]; exact h1, h2, h3, fun hne => ?_⟩
  have hl : 0 < l.length := by
    rcases l with _ | ⟨x, l⟩
    · exact absurd rfl hne
    · simp
  obtain ⟨b, e1, e2, -, -⟩ := h4 0 hl
  refine ⟨_, e1, e2, fun j u hj => ?_⟩
  rw [List.getElem?_map] at hj
  by_cases hjl : j < l.length
  · rw [List.getElem?_eq_getElem hjl] at hj
    obtain ⟨b2, f1, -, -, f2⟩ := h4 j hjl
    rw [e1] at f1
    injection f1 with f1
    injection f1 with f1
    subst f1
    rw [Addr.add_lit, Nat.zero_add]
    rw [Nat.mul_one] at f2
    rw [f2]
    exact hj
  · rw [List.getElem?_eq_none (Nat.le_of_not_lt hjl)] at hj
    cases hj
abbrev TxN (S : Nat → Prop) (w : World) (A : Option Addr) (c : Nat) (l : List ByteArray) : Prop := RowN S w 1 StrP A c l
abbrev IsN (S : Nat → Prop) (w : World) (A : Option Addr) (c : Nat) (l : List Int) : Prop := RowN S w 1 IntP A c l
theorem TxN.ss {S : Nat → Prop} {w : World} {A : Option Addr} {c : Nat} {l : List ByteArray} (h : TxN S w A c l) : Ss w (.slice A l.length c) l := rd_rowN Value.string h
theorem IsN.is {S : Nat → Prop} {w : World} {A : Option Addr} {c : Nat} {l : List Int} (h : IsN S w A c l) : Is w (.slice A l.length c) l := rd_rowN (Value.int .i64) h
theorem TxN.move {S T : Nat → Prop} {w w' : World} (h : Kept S T w w') (hz : w.heap.size ≤ w'.heap.size) {A : Option Addr} {c : Nat} {l : List ByteArray} (hx : TxN S w A c l) : TxN T w' A c l := RowN.move h hz (fun b o x hb hp => hp.at b o x hb) hx
theorem IsN.move {S T : Nat → Prop} {w w' : World} (h : Kept S T w w') (hz : w.heap.size ≤ w'.heap.size) {A : Option Addr} {c : Nat} {l : List Int} (hx : IsN S w A c l) : IsN T w' A c l := RowN.move h hz (fun b o x hb hp => hp.at b o x hb) hx

/-! fields -/
structure FldX where
  f : Fld
  A : Option Addr
  c : Nat
def FldX.cells (q : FldX) : List Value := [.string q.f.f.name, .int .i64 q.f.f.kind, .slice q.A q.f.en.length q.c, .int .i64 q.f.y.k, .int .i64 q.f.y.i, .bool q.f.y.b, .string q.f.y.s, .float .f64 q.f.y.n]
def FldX.ok (S : Nat → Prop) (w : World) (q : FldX) : Prop := TxN S w q.A q.c q.f.en
def FldQ (S : Nat → Prop) (w : World) (p : Addr) (f : Fld) : Prop := ∃ A c, Fdp w p f.f.name f.f.kind A f.en.length c f.y ∧ TxN S w A c f.en
theorem FldQ.fldp {S : Nat → Prop} {w : World} {p : Addr} {f : Fld} (h : FldQ S w p f) : FldP w p f := by
  obtain ⟨A, c, h1, h2⟩ := h
  exact ⟨A, c, h1, h2.ss⟩
theorem Fdp.at {w w' : World} {p : Addr} {nm : ByteArray} {fk : Int} {A : Option Addr} {n c : Nat} {y : Vl} (h : Fdp w p nm fk A n c y) (hb : w'.heap[p.block]? = w.heap[p.block]?) : Fdp w' p nm fk A n c y := by
  obtain ⟨h0, h1, h2, h3, h4, h5, h6, h7⟩ := h
  have k : ∀ o, w'.cell? ⟨p.block, o, none⟩ = w.cell? ⟨p.block, o, none⟩ := fun o => World.cell?_of_block (a := ⟨p.block, o, none⟩) hb
  exact ⟨(World.cell?_of_block hb).trans h0, (k _).trans h1, (k _).trans h2, (k _).trans h3, (k _).trans h4, (k _).trans h5, (k _).trans h6, (k _).trans h7⟩
abbrev FldN (S : Nat → Prop) (w : World) (A : Option Addr) (c : Nat) (l : List Fld) : Prop := RowN S w 8 (FldQ S) A c l
theorem FldN.move {S T : Nat → Prop} {w w' : World} (h : Kept S T w w') (hz : w.heap.size ≤ w'.heap.size) {A : Option Addr} {c : Nat} {l : List Fld} (hx : FldN S w A c l) : FldN T w' A c l :=
  RowN.move h hz (fun b o x hb hp => by obtain ⟨A, c, h1, h2⟩ := hp; exact ⟨A, c, h1.at hb, h2.move h hz⟩) hx
theorem FldN.k {S : Nat → Prop} {w : World} {A : Option Addr} {c : Nat} {l : List Fld} (h : FldN S w A c l) : FldK w A c l := RowN.row (fun p x h => h.fldp) h
/-! stages -/
structure StgX where
  s : Stg
  A : Option Addr
  c : Nat
def StgX.cells (q : StgX) : List Value := [.string q.s.name, .int .i64 q.s.need, .slice q.A q.s.orgs.length q.c]
def StgX.ok (S : Nat → Prop) (w : World) (q : StgX) : Prop := IsN S w q.A q.c q.s.orgs
def StgQ (S : Nat → Prop) (w : World) (p : Addr) (s : Stg) : Prop := ∃ A c, w.cell? p = some (.string s.name) ∧ w.cell? ⟨p.block, p.off + 1, none⟩ = some (.int .i64 s.need) ∧ w.cell? ⟨p.block, p.off + 2, none⟩ = some (.slice A s.orgs.length c) ∧ IsN S w A c s.orgs
theorem StgQ.stgp {S : Nat → Prop} {w : World} {p : Addr} {s : Stg} (h : StgQ S w p s) : StgP w p s := by
  obtain ⟨A, c, h1, h2, h3, h4⟩ := h
  exact ⟨A, c, h1, h2, h3, h4.is⟩
theorem cellAt {w w' : World} {p : Addr} {o : Nat} {x : Value} (hb : w'.heap[p.block]? = w.heap[p.block]?) (h : w.cell? ⟨p.block, o, none⟩ = some x) : w'.cell? ⟨p.block, o, none⟩ = some x := (World.cell?_of_block (a := ⟨p.block, o, none⟩) hb).trans h
theorem cellAt0 {w w' : World} {p : Addr} {x : Value} (hb : w'.heap[p.block]? = w.heap[p.block]?) (h : w.cell? p = some x) : w'.cell? p = some x := (World.cell?_of_block hb).trans h
abbrev StgN (S : Nat → Prop) (w : World) (A : Option Addr) (c : Nat) (l : List Stg) : Prop := RowN S w 3 (StgQ S) A c l
theorem StgN.move {S T : Nat → Prop} {w w' : World} (h : Kept S T w w') (hz : w.heap.size ≤ w'.heap.size) {A : Option Addr} {c : Nat} {l : List Stg} (hx : StgN S w A c l) : StgN T w' A c l :=
  RowN.move h hz (fun b o x hb hp => by obtain ⟨A, c, h1, h2, h3, h4⟩ := hp; exact ⟨A, c, cellAt0 hb h1, cellAt (p := ⟨b, o, none⟩) hb h2, cellAt (p := ⟨b, o, none⟩) hb h3, h4.move h hz⟩) hx
theorem StgN.k {S : Nat → Prop} {w : World} {A : Option Addr} {c : Nat} {l : List Stg} (h : StgN S w A c l) : StgK w A c l := RowN.row (fun p x h => h.stgp) h
/-! effects -/
structure EffX where
  e : Eff
  A : Option Addr
  c : Nat
def EffX.cells (q : EffX) : List Value := [.string q.e.field, .int .i64 q.e.e.op, .slice q.A q.e.e.kids.length q.c, .string q.e.e.name, .int .i64 q.e.e.val.k, .int .i64 q.e.e.val.i, .bool q.e.e.val.b, .string q.e.e.val.s, .float .f64 q.e.e.val.n]
def EffX.ok (S : Nat → Prop) (w : World) (q : EffX) : Prop := ExS S w 6 q.A q.c q.e.e
def EffQ (S : Nat → Prop) (w : World) (p : Addr) (e : Eff) : Prop := ∃ A c, w.cell? p = some (.string e.field) ∧ Kid w ⟨p.block, p.off + 1, none⟩ e.e.op A e.e.kids.length c e.e.name e.e.val ∧ ExS S w 6 A c e.e
theorem EffQ.effp {S : Nat → Prop} {w : World} {p : Addr} {e : Eff} (h : EffQ S w p e) : EffP w p e := by
  obtain ⟨A, c, h1, h2, h3⟩ := h
  exact ⟨A, c, h1, h2, 6, h3.exk⟩
abbrev EffN (S : Nat → Prop) (w : World) (A : Option Addr) (c : Nat) (l : List Eff) : Prop := RowN S w 9 (EffQ S) A c l
theorem EffN.move {S T : Nat → Prop} {w w' : World} (h : Kept S T w w') (hz : w.heap.size ≤ w'.heap.size) {A : Option Addr} {c : Nat} {l : List Eff} (hx : EffN S w A c l) : EffN T w' A c l :=
  RowN.move h hz (fun b o x hb hp => by obtain ⟨A, c, h1, h2, h3⟩ := hp; exact ⟨A, c, cellAt0 hb h1, h2.at hb, h3.move h hz⟩) hx
theorem EffN.k {S : Nat → Prop} {w : World} {A : Option Addr} {c : Nat} {l : List Eff} (h : EffN S w A c l) : EffK w A c l := RowN.row (fun p x h => h.effp) h
/-! moves -/
structure MvX where
  m : Mv
  A : Option Addr
  c : Nat
  EA : Option Addr
  ec : Nat
def MvX.cells (q : MvX) : List Value := [.string q.m.name, .int .i64 q.m.frm, .int .i64 q.m.too, .int .i64 q.m.guard.op, .slice q.A q.m.guard.kids.length q.c, .string q.m.guard.name, .int .i64 q.m.guard.val.k, .int .i64 q.m.guard.val.i, .bool q.m.guard.val.b, .string q.m.guard.val.s, .float .f64 q.m.guard.val.n, .slice q.EA q.m.effs.length q.ec, .int .i64 q.m.org]
def MvX.ok (S : Nat → Prop) (w : World) (q : MvX) : Prop := ExS S w 6 q.A q.c q.m.guard ∧ EffN S w q.EA q.ec q.m.effs
def MvQ (S : Nat → Prop) (w : World) (p : Addr) (m : Mv) : Prop := ∃ A c EA ec, w.cell? p = some (.string m.name) ∧ w.cell? ⟨p.block, p.off + 1, none⟩ = some (.int .i64 m.frm) ∧ w.cell? ⟨p.block, p.off + 2, none⟩ = some (.int .i64 m.too) ∧
  Kid w ⟨p.block, p.off + 3, none⟩ m.guard.op A m.guard.kids.length c m.guard.name m.guard.val ∧ ExS S w 6 A c m.guard ∧
  w.cell? ⟨p.block, p.off + 11, none⟩ = some (.slice EA m.effs.length ec) ∧ w.cell? ⟨p.block, p.off + 12, none⟩ = some (.int .i64 m.org) ∧ EffN S w EA ec m.effs
theorem MvQ.mvp {S : Nat → Prop} {w : World} {p : Addr} {m : Mv} (h : MvQ S w p m) : MvP w p m := by
  obtain ⟨A, c, EA, ec, h0, h1, h2, h3, h4, h5, h6, h7⟩ := h
  exact ⟨A, c, EA, ec, h0, h1, h2, h3, ⟨6, h4.exk⟩, h5, h6, h7.k⟩
abbrev MvN (S : Nat → Prop) (w : World) (A : Option Addr) (c : Nat) (l : List Mv) : Prop := RowN S w 13 (MvQ S) A c l
theorem MvN.move {S T : Nat → Prop} {w w' : World} (h : Kept S T w w') (hz : w.heap.size ≤ w'.heap.size) {A : Option Addr} {c : Nat} {l : List Mv} (hx : MvN S w A c l) : MvN T w' A c l :=
  RowN.move h hz (fun b o x hb hp => by
    obtain ⟨A, c, EA, ec, h0, h1, h2, h3, h4, h5, h6, h7⟩ := hp
    exact ⟨A, c, EA, ec, cellAt0 hb h0, cellAt (p := ⟨b, o, none⟩) hb h1, cellAt (p := ⟨b, o, none⟩) hb h2, h3.at hb, h4.move h hz, cellAt (p := ⟨b, o, none⟩) hb h5, cellAt (p := ⟨b, o, none⟩) hb h6, h7.move h hz⟩) hx
theorem MvN.k {S : Nat → Prop} {w : World} {A : Option Addr} {c : Nat} {l : List Mv} (h : MvN S w A c l) : MvK w A c l := RowN.row (fun p x h => h.mvp) h

abbrev csK (k : Cse) (VA : Option Addr) (vc : Nat) (EA : Option Addr) (ec : Nat) : Array Value := #[.string k.id, .string k.ctr, .int .i64 k.stage, .slice VA k.vals.length vc, .slice EA k.ends.length ec, .bool k.susp, .bool k.shut, .int .i64 k.steps]
structure CsK (w : World) (k : Cse) (VA : Option Addr) (vc : Nat) (EA : Option Addr) (ec : Nat) : Prop where
  v : VlK w VA vc k.vals
  e : Is w (.slice EA k.ends.length ec) k.ends
theorem CsK.below {w w' : World} {k : Cse} {VA : Option Addr} {vc : Nat} {EA : Option Addr} {ec : Nat} (h : CsK w k VA vc EA ec) (hb : Below w.heap.size w w') : CsK w' k VA vc EA ec := ⟨h.v.below hb (Nat.le_refl _), Rd.below h.e hb (Nat.le_refl _)⟩
structure okK (k : Cse) : Prop where
  v : ∀ v ∈ k.vals, okV v
  st : in64 k.stage
  en : ∀ o ∈ k.ends, in64 o
  sp : in64 k.steps
abbrev VlN (S : Nat → Prop) (w : World) (A : Option Addr) (c : Nat) (l : List Vl) : Prop := RowN S w 5 Vlp A c l
theorem Vlp.at {w w' : World} {p : Addr} {y : Vl} (h : Vlp w p y) (hb : w'.heap[p.block]? = w.heap[p.block]?) : Vlp w' p y := ⟨cellAt0 hb h.1, cellAt hb h.2.1, cellAt hb h.2.2.1, cellAt hb h.2.2.2.1, cellAt hb h.2.2.2.2⟩
theorem VlN.move {S T : Nat → Prop} {w w' : World} (h : Kept S T w w') (hz : w.heap.size ≤ w'.heap.size) {A : Option Addr} {c : Nat} {l : List Vl} (hx : VlN S w A c l) : VlN T w' A c l := RowN.move h hz (fun b o x hb hp => hp.at hb) hx
theorem VlN.k {S : Nat → Prop} {w : World} {A : Option Addr} {c : Nat} {l : List Vl} (h : VlN S w A c l) : VlK w A c l := RowN.row (fun p x h => h) h
structure CsN (S : Nat → Prop) (w : World) (k : Cse) (VA : Option Addr) (vc : Nat) (EA : Option Addr) (ec : Nat) : Prop where
  v : VlN S w VA vc k.vals
  e : IsN S w EA ec k.ends
theorem CsN.k {S : Nat → Prop} {w : World} {k : Cse} {VA : Option Addr} {vc : Nat} {EA : Option Addr} {ec : Nat} (h : CsN S w k VA vc EA ec) : CsK w k VA vc EA ec := ⟨h.v.k, h.e.is⟩
theorem CsN.move {S T : Nat → Prop} {w w' : World} (h : Kept S T w w') (hz : w.heap.size ≤ w'.heap.size) {k : Cse} {VA : Option Addr} {vc : Nat} {EA : Option Addr} {ec : Nat} (hx : CsN S w k VA vc EA ec) : CsN T w' k VA vc EA ec := ⟨hx.v.move h hz, hx.e.move h hz⟩
def GivesK (r : Cse × Int) (w : World) (e : Ending) (w' : World) : Prop := ∃ VA vc EA ec, e = .returned (.tuple #[.agg (csK r.1 VA vc EA ec), .int .i64 r.2]) ∧ CsN (fun b => w.heap.size ≤ b) w' r.1 VA vc EA ec ∧ Below w.heap.size w w'

end Go.Proofs.YtachhcabgggimaaGreat

namespace Go.Proofs.YtachhcabgggimaaGreat
open Go.RowKit Go.ChangeShapes Go.WideShapes Go.ChangeAt
set_option linter.unusedVariables false
set_option linter.unusedSimpArgs false
set_option maxRecDepth 20000

structure Act7 where
  d : Int
  name : ByteArray
  v : Vl
  org : Int
def ActP (w : World) (p : Addr) (a : Act7) : Prop := w.cell? p = some (.int .i64 a.d) ∧ w.cell? ⟨p.block, p.off + 1, none⟩ = some (.string a.name) ∧ Vlp w ⟨p.block, p.off + 2, none⟩ a.v ∧ w.cell? ⟨p.block, p.off + 7, none⟩ = some (.int .i64 a.org)
theorem ActP.below {w w' : World} {p : Addr} {a : Act7} (h : ActP w p a) (hb : Below w.heap.size w w') (hl : p.block < w.heap.size) : ActP w' p a := ⟨cellp hb hl h.1, cellp hb hl h.2.1, h.2.2.1.below hb hl, cellp hb hl h.2.2.2⟩
abbrev ActK (w : World) : Option Addr → Nat → List Act7 → Prop := RowK w 8 ActP
theorem ActK.below {w w' : World} {A : Option Addr} {c : Nat} {l : List Act7} (h : ActK w A c l) (hb : Below w.heap.size w w') : ActK w' A c l := RowK.below (fun p x hl h => ActP.below h hb hl) h hb.size
section
variable {H : Type} {enc : TypeId × Value → H} {W : World} {sp : Nat → Bool} {hd : Bool} {base : Nat} {v : Value} {d : DataW H} {ps : List MemPlace}
theorem open_case (hv : Value.okWide Tryz.prog W .any base 45 v) (h : DataW.Trod enc Tryz.prog W 0 sp hd 45 v d ps) :
    ∃ (k : Cse) (VA : Option Addr) (vc : Nat) (EA : Option Addr) (ec : Nat), v = .agg (csK k VA vc EA ec) ∧ CsK W k VA vc EA ec ∧ okK k := by
  obtain ⟨cs, rfl, hsz⟩ := okWide_struct Tryz.underlying45 hv
  obtain ⟨fuel, hf⟩ := h
  obtain ⟨ys, m, -, -, -, hys, hfs⟩ := DataW.trod_struct Tryz.underlying45 hf
  have k0 : Tryz.prog.cellsOf 45 = 8 := by kernel_rfl
  have k1 : Tryz.prog.cellsOf 9 = 1 := by kernel_rfl
  have k2 : Tryz.prog.cellsOf 3 = 1 := by kernel_rfl
  have k3 : Tryz.prog.cellsOf 42 = 1 := by kernel_rfl
  have k4 : Tryz.prog.cellsOf 43 = 1 := by kernel_rfl
  have k5 : Tryz.prog.cellsOf 4 = 1 := by kernel_rfl
  rw [k0] at hsz
  obtain ⟨l⟩ := cs
  match l, hsz with
  | [c0, c1, c2, c3, c4, c5, c6, c7], _ =>
    match ys, hys with
    | [y0, y1, y2, y3, y4, y5, y6, y7], _ =>
      have g0 := hfs 0 _ rfl
      have g1 := hfs 1 _ rfl
      have g2 := hfs 2 _ rfl
      have g3 := hfs 3 _ rfl
      have g4 := hfs 4 _ rfl
      have g5 := hfs 5 _ rfl
      have g6 := hfs 6 _ rfl
      have g7 := hfs 7 _ rfl
      simp [k1, k2, k3, k4, k5, Value.cells] at g0 g1 g2 g3 g4 g5 g6 g7
      obtain ⟨z0, e0, -⟩ := DataW.trod_string Tryz.underlying9 g0
      obtain ⟨z1, e1, -⟩ := DataW.trod_string Tryz.underlying9 g1
      obtain ⟨z2, e2, -, w2⟩ := DataW.trod_int Tryz.underlying3 g2
      obtain ⟨vs, VA, vc, rfl, hvk, hvo⟩ := open_vls g3
      obtain ⟨es, hes, heo⟩ := open_is g4
      have hes2 := hes
      obtain ⟨EA, ec, rfl, -⟩ := hes
      simp only [List.length_map] at hes2 ⊢
      obtain ⟨z5, e5, -⟩ := DataW.trod_bool Tryz.underlying4 g5
      obtain ⟨z6, e6, -⟩ := DataW.trod_bool Tryz.underlying4 g6
      obtain ⟨z7, e7, -, w7⟩ := DataW.trod_int Tryz.underlying3 g7
      simp at e0 e1 e2 e5 e6 e7
      subst e0 e1 e2 e5 e6 e7
      exact ⟨⟨z0, z1, z2, vs, es, z5, z6, z7⟩, VA, vc, EA, ec, rfl, ⟨hvk, hes2⟩, ⟨hvo, in64_of w2, heo, in64_of w7⟩⟩
end
end Go.Proofs.YtachhcabgggimaaGreat

namespace Go.Proofs.YtachhcabgggimaaGreat
open Go.RowKit
set_option linter.unusedVariables false
set_option linter.unusedSimpArgs false
set_option maxRecDepth 20000

def AllBs (W : World) : List Value → List (List UInt8) → Prop
  | [], [] => True
  | x :: vs, l :: ls => Bs W x l ∧ AllBs W vs ls
  | _, _ => False
theorem AllBs.len {W : World} : ∀ {vs : List Value} {ls : List (List UInt8)}, AllBs W vs ls → vs.length = ls.length
  | [], [], _ => rfl
  | x :: vs, l :: ls, h => by rw [List.length_cons, List.length_cons, AllBs.len h.2]
theorem AllBs.at {W : World} : ∀ {vs : List Value} {ls : List (List UInt8)}, AllBs W vs ls → ∀ (k : Nat) (x : Value) (l : List UInt8), vs[k]? = some x → ls[k]? = some l → Bs W x l
  | x :: vs, l :: ls, h, 0, y, m, h1, h2 => by
    injection h1 with h1
    injection h2 with h2
    subst h1 h2
    exact h.1
  | x :: vs, l :: ls, h, k + 1, y, m, h1, h2 => AllBs.at h.2 k y m h1 h2

def firstB {α : Type} (P : α → Bool) : List α → Nat → Int
  | [], _ => -1
  | x :: l, i => if P x = true then i else firstB P l (i + 1)
abbrev agFl (x : Fld) (A : Option Addr) (c : Nat) : Value := .agg #[.string x.f.name, .int .i64 x.f.kind, .slice A x.en.length c, .int .i64 x.y.k, .int .i64 x.y.i, .bool x.y.b, .string x.y.s, .float .f64 x.y.n]
abbrev agSt (x : Stg) (A : Option Addr) (c : Nat) : Value := .agg #[.string x.name, .int .i64 x.need, .slice A x.orgs.length c]
abbrev agMv (x : Mv) (A : Option Addr) (c : Nat) (EA : Option Addr) (ec : Nat) : Value := .agg #[.string x.name, .int .i64 x.frm, .int .i64 x.too, .int .i64 x.guard.op, .slice A x.guard.kids.length c, .string x.guard.name, .int .i64 x.guard.val.k, .int .i64 x.guard.val.i, .bool x.guard.val.b, .string x.guard.val.s, .float .f64 x.guard.val.n, .slice EA x.effs.length ec, .int .i64 x.org]
set_option maxHeartbeats 1000000 in
theorem idx_Field (P : Fld → Bool) (p : Nat) (A : Option Addr) (cc : Nat) (l : List Fld) (w : World) (hf : FldK w A cc l)
    (hcall : ∀ x ∈ l, ∀ (A : Option Addr) (c : Nat) W, Below w.heap.size w W → Ss W (.slice A x.en.length c) x.en → Calls Tryz.prog 171 #[agFl x A c, .pointer (some ⟨p, 0, none⟩)] W (VMk (.bool (P x)) W)) :
    Calls Tryz.prog 170 #[.slice A l.length cc, .func (Fn.func 171) #[] #[.pointer (some ⟨p, 0, none⟩)]] w (VMk (.int .i64 (firstB P l 0)) w) := by
  obtain ⟨h1, h2, h3, h4⟩ := hf
  unfold maxLen at h2
  have hlen : l.length ≤ 9223372036854775807 := by omega
  have HP := Lib.hid hcall
  have H4 := Lib.hid h4
  clear hcall h4 h1 h2 h3
  have hsf := fun (w : World) (a : Addr) (m : Mode) (b : Nat) => run_store Tryz.prog w a (.float .f64 b) m rfl
  go_enter Tryz.func170, Tryz.ntmps170
  go_wp2
  go_loopw [8] (fun i wr => ∃ k : Nat, k ≤ l.length ∧ i = .int .i64 k ∧ firstB P (l.drop k) k = firstB P l 0 ∧ Below w.heap.size w wr) (fun i _ => l.length - (intOf i).toNat)
  case atStart => exact ⟨0, Nat.zero_le _, rfl, rfl, Below.refl _ _⟩
  case round =>
    obtain ⟨k, hk, rfl, hfi, hb⟩ := hrel
    by_cases hlt : k < l.length
    · obtain ⟨ad, rfl, hbl, hpart⟩ := H4.out k hlt
      have hpart2 := hpart.below hb (by rw [block_add]; exact hbl)
      have hmem := List.getElem_mem hlt
      rw [List.drop_eq_getElem_cons hlt, firstB] at hfi
      generalize l[k] = x at *
      obtain ⟨A, c, hq, hdeep⟩ := hpart2
      have q0 : wr.cell? (ad.add (k * 8)) = some (.string x.f.name) := hq.1
      have q1 : wr.cell? ⟨(ad.add (k * 8)).block, (ad.add (k * 8)).off + 1, none⟩ = some (.int .i64 x.f.kind) := hq.2.1
      have q2 : wr.cell? ⟨(ad.add (k * 8)).block, (ad.add (k * 8)).off + 2, none⟩ = some (.slice A x.en.length c) := hq.2.2.1
      have q3 : wr.cell? ⟨(ad.add (k * 8)).block, (ad.add (k * 8)).off + 3, none⟩ = some (.int .i64 x.y.k) := hq.2.2.2.1
      have q4 : wr.cell? ⟨(ad.add (k * 8)).block, (ad.add (k * 8)).off + 4, none⟩ = some (.int .i64 x.y.i) := hq.2.2.2.2.1
      have q5 : wr.cell? ⟨(ad.add (k * 8)).block, (ad.add (k * 8)).off + 5, none⟩ = some (.bool x.y.b) := hq.2.2.2.2.2.1
      have q6 : wr.cell? ⟨(ad.add (k * 8)).block, (ad.add (k * 8)).off + 6, none⟩ = some (.string x.y.s) := hq.2.2.2.2.2.2.1
      have q7 : wr.cell? ⟨(ad.add (k * 8)).block, (ad.add (k * 8)).off + 7, none⟩ = some (.float .f64 x.y.n) := hq.2.2.2.2.2.2.2
      have hc := HP.out x hmem A c wr hb hdeep
      clear hpart hmem
      rcases hd : P x with _ | _
      all_goals
        rw [hd] at hc hfi
        have HC := Lib.hid hc
        have HF := Lib.hid hfi
        clear hc hfi hd hq hdeep
        go_wp2_with (go_at_call 171; refine HC.out.mono ?_; rintro e w1 ⟨rfl, hb1⟩)
      · go_roundw
        case rel => exact ⟨k + 1, by omega, by go_num, by have h := HF.out; rwa [if_neg (by decide)] at h, hb.trans (hb1.mono hb.size)⟩
        case measure => simp [intOf]; omega
      · go_ret
        exact ⟨ret_int (by have h := HF.out; simpa using h), hb.trans (hb1.mono hb.size)⟩
    · obtain rfl : k = l.length := by omega
      rw [List.drop_length, firstB] at hfi
      have HF := Lib.hid hfi
      clear hfi
      go_wp2
      go_ret
      exact ⟨ret_int HF.out, hb⟩
set_option maxHeartbeats 1000000 in
theorem idx_Stage (P : Stg → Bool) (p : Nat) (A : Option Addr) (cc : Nat) (l : List Stg) (w : World) (hf : StgK w A cc l)
    (hcall : ∀ x ∈ l, ∀ (A : Option Addr) (c : Nat) W, Below w.heap.size w W → Is W (.slice A x.orgs.length c) x.orgs → Calls Tryz.prog 80 #[agSt x A c, .pointer (some ⟨p, 0, none⟩)] W (VMk (.bool (P x)) W)) :
    Calls Tryz.prog 79 #[.slice A l.length cc, .func (Fn.func 80) #[] #[.pointer (some ⟨p, 0, none⟩)]] w (VMk (.int .i64 (firstB P l 0)) w) := by
  obtain ⟨h1, h2, h3, h4⟩ := hf
  unfold maxLen at h2
  have hlen : l.length ≤ 9223372036854775807 := by omega
  have HP := Lib.hid hcall
  have H4 := Lib.hid h4
  clear hcall h4 h1 h2 h3
  have hsf := fun (w : World) (a : Addr) (m : Mode) (b : Nat) => run_store Tryz.prog w a (.float .f64 b) m rfl
  go_enter Tryz.func79, Tryz.ntmps79
  go_wp2
  go_loopw [8] (fun i wr => ∃ k : Nat, k ≤ l.length ∧ i = .int .i64 k ∧ firstB P (l.drop k) k = firstB P l 0 ∧ Below w.heap.size w wr) (fun i _ => l.length - (intOf i).toNat)
  case atStart => exact ⟨0, Nat.zero_le _, rfl, rfl, Below.refl _ _⟩
  case round =>
    obtain ⟨k, hk, rfl, hfi, hb⟩ := hrel
    by_cases hlt : k < l.length
    · obtain ⟨ad, rfl, hbl, hpart⟩ := H4.out k hlt
      have hpart2 := hpart.below hb (by rw [block_add]; exact hbl)
      have hmem := List.getElem_mem hlt
      rw [List.drop_eq_getElem_cons hlt, firstB] at hfi
      generalize l[k] = x at *
      obtain ⟨A, c, h0, h1, h2, hdeep⟩ := hpart2
      have q0 : wr.cell? (ad.add (k * 3)) = some (.string x.name) := h0
      have q1 : wr.cell? ⟨(ad.add (k * 3)).block, (ad.add (k * 3)).off + 1, none⟩ = some (.int .i64 x.need) := h1
      have q2 : wr.cell? ⟨(ad.add (k * 3)).block, (ad.add (k * 3)).off + 2, none⟩ = some (.slice A x.orgs.length c) := h2
      have hc := HP.out x hmem A c wr hb hdeep
      clear hpart hmem
      rcases hd : P x with _ | _
      all_goals
        rw [hd] at hc hfi
        have HC := Lib.hid hc
        have HF := Lib.hid hfi
        clear hc hfi hd hdeep
        go_wp2_with (go_at_call 80; refine HC.out.mono ?_; rintro e w1 ⟨rfl, hb1⟩)
      · go_roundw
        case rel => exact ⟨k + 1, by omega, by go_num, by have h := HF.out; rwa [if_neg (by decide)] at h, hb.trans (hb1.mono hb.size)⟩
        case measure => simp [intOf]; omega
      · go_ret
        exact ⟨ret_int (by have h := HF.out; simpa using h), hb.trans (hb1.mono hb.size)⟩
    · obtain rfl : k = l.length := by omega
      rw [List.drop_length, firstB] at hfi
      have HF := Lib.hid hfi
      clear hfi
      go_wp2
      go_ret
      exact ⟨ret_int HF.out, hb⟩
set_option maxHeartbeats 1000000 in
theorem idx_Move (P : Mv → Bool) (p : Nat) (A : Option Addr) (cc : Nat) (l : List Mv) (w : World) (hf : MvK w A cc l)
    (hcall : ∀ x ∈ l, ∀ (A : Option Addr) (c : Nat) (EA : Option Addr) (ec : Nat) W, Below w.heap.size w W → (ExE W A c x.guard ∧ EffK W EA ec x.effs) → Calls Tryz.prog 179 #[agMv x A c EA ec, .pointer (some ⟨p, 0, none⟩)] W (VMk (.bool (P x)) W)) :
    Calls Tryz.prog 178 #[.slice A l.length cc, .func (Fn.func 179) #[] #[.pointer (some ⟨p, 0, none⟩)]] w (VMk (.int .i64 (firstB P l 0)) w) := by
  obtain ⟨h1, h2, h3, h4⟩ := hf
  unfold maxLen at h2
  have hlen : l.length ≤ 9223372036854775807 := by omega
  have HP := Lib.hid hcall
  have H4 := Lib.hid h4
  clear hcall h4 h1 h2 h3
  have hsf := fun (w : World) (a : Addr) (m : Mode) (b : Nat) => run_store Tryz.prog w a (.float .f64 b) m rfl
  go_enter Tryz.func178, Tryz.ntmps178
  go_wp2
  go_loopw [8] (fun i wr => ∃ k : Nat, k ≤ l.length ∧ i = .int .i64 k ∧ firstB P (l.drop k) k = firstB P l 0 ∧ Below w.heap.size w wr) (fun i _ => l.length - (intOf i).toNat)
  case atStart => exact ⟨0, Nat.zero_le _, rfl, rfl, Below.refl _ _⟩
  case round =>
    obtain ⟨k, hk, rfl, hfi, hb⟩ := hrel
    by_cases hlt : k < l.length
    · obtain ⟨ad, rfl, hbl, hpart⟩ := H4.out k hlt
      have hpart2 := hpart.below hb (by rw [block_add]; exact hbl)
      have hmem := List.getElem_mem hlt
      rw [List.drop_eq_getElem_cons hlt, firstB] at hfi
      generalize l[k] = x at *
      obtain ⟨A, c, EA, ec, h0, h1, h2, hk, he, h11, h12, hek⟩ := hpart2
      have q0 : wr.cell? (ad.add (k * 13)) = some (.string x.name) := h0
      have q1 : wr.cell? ⟨(ad.add (k * 13)).block, (ad.add (k * 13)).off + 1, none⟩ = some (.int .i64 x.frm) := h1
      have q2 : wr.cell? ⟨(ad.add (k * 13)).block, (ad.add (k * 13)).off + 2, none⟩ = some (.int .i64 x.too) := h2
      have q3 : wr.cell? ⟨(ad.add (k * 13)).block, (ad.add (k * 13)).off + 3, none⟩ = some (.int .i64 x.guard.op) := hk.1
      have q4 : wr.cell? ⟨(ad.add (k * 13)).block, (ad.add (k * 13)).off + 4, none⟩ = some (.slice A x.guard.kids.length c) := hk.2.1
      have q5 : wr.cell? ⟨(ad.add (k * 13)).block, (ad.add (k * 13)).off + 5, none⟩ = some (.string x.guard.name) := hk.2.2.1
      have q6 : wr.cell? ⟨(ad.add (k * 13)).block, (ad.add (k * 13)).off + 6, none⟩ = some (.int .i64 x.guard.val.k) := hk.2.2.2.1
      have q7 : wr.cell? ⟨(ad.add (k * 13)).block, (ad.add (k * 13)).off + 7, none⟩ = some (.int .i64 x.guard.val.i) := hk.2.2.2.2.1
      have q8 : wr.cell? ⟨(ad.add (k * 13)).block, (ad.add (k * 13)).off + 8, none⟩ = some (.bool x.guard.val.b) := hk.2.2.2.2.2.1
      have q9 : wr.cell? ⟨(ad.add (k * 13)).block, (ad.add (k * 13)).off + 9, none⟩ = some (.string x.guard.val.s) := hk.2.2.2.2.2.2.1
      have q10 : wr.cell? ⟨(ad.add (k * 13)).block, (ad.add (k * 13)).off + 10, none⟩ = some (.float .f64 x.guard.val.n) := hk.2.2.2.2.2.2.2
      have q11 : wr.cell? ⟨(ad.add (k * 13)).block, (ad.add (k * 13)).off + 11, none⟩ = some (.slice EA x.effs.length ec) := h11
      have q12 : wr.cell? ⟨(ad.add (k * 13)).block, (ad.add (k * 13)).off + 12, none⟩ = some (.int .i64 x.org) := h12
      have hc := HP.out x hmem A c EA ec wr hb ⟨he, hek⟩
      clear hpart hmem
      rcases hd : P x with _ | _
      all_goals
        rw [hd] at hc hfi
        have HC := Lib.hid hc
        have HF := Lib.hid hfi
        clear hc hfi hd he hek
        go_wp2_with (go_at_call 179; refine HC.out.mono ?_; rintro e w1 ⟨rfl, hb1⟩)
      · go_roundw
        case rel => exact ⟨k + 1, by omega, by go_num, by have h := HF.out; rwa [if_neg (by decide)] at h, hb.trans (hb1.mono hb.size)⟩
        case measure => simp [intOf]; omega
      · go_ret
        exact ⟨ret_int (by have h := HF.out; simpa using h), hb.trans (hb1.mono hb.size)⟩
    · obtain rfl : k = l.length := by omega
      rw [List.drop_length, firstB] at hfi
      have HF := Lib.hid hfi
      clear hfi
      go_wp2
      go_ret
      exact ⟨ret_int HF.out, hb⟩

end Go.Proofs.YtachhcabgggimaaGreat
