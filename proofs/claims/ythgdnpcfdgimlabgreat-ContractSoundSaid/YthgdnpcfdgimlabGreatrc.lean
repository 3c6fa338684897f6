/- rc: ETell3 ETell6 ETell7 ETell8 EFit ETell9 ELaw EAw0 CMem EArgs CArgs CArgV EPut ERFit ESound ERSmall ERPut ERows ERows2 EKid ERSame EGet1 EGet2 EGet3 EGet4 EBack (made by shake.py). -/
import Derived.StillTailTactics
import Derived.Deep.RegionHeld3
import Derived.Test.YthgdnpcfdgimlabGreatrb
/- Layer 5: what a part tells, by the program. (Made by gen/gentell.py.) -/
namespace Go.Proofs.YthgdnpcfdgimlabGreat
open Go.RowKit
set_option linter.unusedVariables false
set_option linter.unusedSimpArgs false
set_option maxRecDepth 20000

set_option maxHeartbeats 600000 in
theorem tell_10 (FA : Option Addr) (fn FC : Nat) (VA : Option Addr) (vn VC : Nat) (ad : Addr) (n c : Nat) (nm : ByteArray) (v : Vl) (w : World) (A0 : Option Addr) (n0 c0 : Nat) (m0 : ByteArray) (y0 : Vl) (p0 : Int) (R0 : Vl × Int) (hq0 : ∀ W, Below w.heap.size w W → Kid W ad p0 A0 n0 c0 m0 y0) (h0 : ∀ W, Below w.heap.size w W → Calls Tryz.prog 117 #[agR FA fn FC VA vn VC, agX p0 A0 n0 c0 m0 y0] W (TellP R0 W)) (hv0 : R0.2 = 0 → okV R0.1) (A1 : Option Addr) (n1 c1 : Nat) (m1 : ByteArray) (y1 : Vl) (p1 : Int) (R1 : Vl × Int) (hq1 : ∀ W, Below w.heap.size w W → Kid W ⟨ad.block, ad.off + 8, none⟩ p1 A1 n1 c1 m1 y1) (h1 : ∀ W, Below w.heap.size w W → Calls Tryz.prog 117 #[agR FA fn FC VA vn VC, agX p1 A1 n1 c1 m1 y1] W (TellP R1 W)) (hv1 : R1.2 = 0 → okV R1.1) (hn : 1 < n) :
    Calls Tryz.prog 117 #[agR FA fn FC VA vn VC, agX 10 (some ad) n c nm v] w (TellP (if R0.2 ≠ 0 then (vZero, R0.2) else (if R0.1.b = false then (R0.1, 0) else R1)) w) := by
  have hi1 : (1 : Int) < (n : Int) := by omega
  have hsf := fun (w : World) (a : Addr) (m : Mode) (b : Nat) => run_store Tryz.prog w a (.float .f64 b) m rfl
  have hi : (0 : Int) < (n : Int) := by omega
  have hn0 : 0 < n := by omega
  have HQ1 := Lib.hid hq1
  have H1 := Lib.hid h1
  clear hq1 h1 hv1
  obtain ⟨r1, r2⟩ := R0
  have H0 := Lib.hid h0
  clear h0
  by_cases hz : r2 = 0
  · subst hz
    rw [if_neg (fun h => h rfl)]
    have h0 := fun W hb => (H0.out W hb).mono (fun e w' h => (⟨h.1.trans (if_pos rfl), h.2⟩ : e = .returned (agV r1) ∧ Below W.heap.size W w'))
    clear H0
    have H0 := Lib.hid h0
    clear h0 hv0
    rcases hb : r1.b with _ | _
    · rw [if_pos rfl]
      have HBB := Lib.hid hb
      clear hb
      have htb : TB w FA fn FC VA vn VC 10 (some ad) n c nm v (((w.alloc (.cells #[.slice FA fn FC, .slice VA vn VC] 103)).alloc (.cells #[.int .i64 10, .slice (some ad) n c, .string nm, .int .i64 v.k, .int .i64 v.i, .bool v.b, .string v.s, .float .f64 v.n] 58)).alloc (.cells #[.int .i64 0, .int .i64 0, .bool false, .string { data := #[] }, .float .f64 0] 53)) := TB_new w FA fn FC VA vn VC 10 (some ad) n c nm v
      have HHELD := Lib.hid (fun W (hb : TB w FA fn FC VA vn VC 10 (some ad) n c nm v W) => (show THeld w FA fn FC VA vn VC ad n c p0 A0 n0 c0 m0 y0 W from let q := hq0 W hb.1; ⟨hb.2.2.1, hb.2.2.2.1, hb.2.2.2.2.1.2.1, q.1, q.2.1, q.2.2.1, q.2.2.2.1, q.2.2.2.2.1, q.2.2.2.2.2.1, q.2.2.2.2.2.2.1, q.2.2.2.2.2.2.2⟩))
      clear hq0
      have HKP := Lib.hid (fun (W W' : World) (h : TB w FA fn FC VA vn VC 10 (some ad) n c nm v W ∧ THeld w FA fn FC VA vn VC ad n c p0 A0 n0 c0 m0 y0 W) (hb : Below W.heap.size W W') => And.intro (h.1.below hb) (HHELD.out _ (h.1.below hb)))
      have HKS := Lib.hid (fun (W : World) (b : Nat) (u0 u1 u2 u3 u4 : Value) (hge : w.heap.size + 3 ≤ b) (h : TB w FA fn FC VA vn VC 10 (some ad) n c nm v W ∧ THeld w FA fn FC VA vn VC ad n c p0 A0 n0 c0 m0 y0 W) => let hb := below_set5 (Below.refl (w.heap.size + 3) W) hge u0 u1 u2 u3 u4; And.intro (h.1.below3 hb) (HHELD.out _ (h.1.below3 hb)))
      go_enter Tryz.func117, Tryz.ntmps117
      go_upto_region 6 with fail
      generalize ((w.alloc (.cells #[.slice FA fn FC, .slice VA vn VC] 103)).alloc (.cells #[.int .i64 10, .slice (some ad) n c, .string nm, .int .i64 v.k, .int .i64 v.i, .bool v.b, .string v.s, .float .f64 v.n] 58)).alloc (.cells #[.int .i64 0, .int .i64 0, .bool false, .string { data := #[] }, .float .f64 0] 53) = wb at *
      go_cut [5] from 23 to 28 (fun s5 wx => ∃ b, s5 = .pointer (some ⟨b, 0, none⟩) ∧ w.heap.size + 3 ≤ b ∧ TB w FA fn FC VA vn VC 10 (some ad) n c nm v wx ∧ Bx wx b r1)
      case first =>
        have hS0 : TB w FA fn FC VA vn VC 10 (some ad) n c nm v wb.drew ∧ THeld w FA fn FC VA vn VC ad n c p0 A0 n0 c0 m0 y0 wb.drew := ⟨htb.below (Below.refl _ _).drew, HHELD.out _ (htb.below (Below.refl _ _).drew)⟩
        refine wp_region_held_drew (S := (fun W => TB w FA fn FC VA vn VC 10 (some ad) n c nm v W ∧ THeld w FA fn FC VA vn VC ad n c p0 A0 n0 c0 m0 y0 W)) (by kernel_rfl) (hS0) (fun hHeld => ?_)
        refine wpAnyH_take (i := 0) (oi := ?oi71) (v := ?v71) ?hi71 (by kernel_rfl) (by kernel_rfl) (by kernel_rfl) ?hQ71 (Or.inl ⟨?hw71, ?hy71⟩) (by assumption) ?rest71
        case hi71 => (simp only [gA, gB, gC]; rfl)
        case hQ71 => exact fun _ _ _ h => h
        case hw71 => rfl
        case hy71 => (intro w hSw; (try dsimp only at hSw); go_simp; try with_reducible rfl)
        (try simp only [Act.put, sA, sB, sC])
        refine wpAnyH_take (i := 1) (oi := ?oi72) (v := ?v72) ?hi72 (by kernel_rfl) (by kernel_rfl) (by kernel_rfl) ?hQ72 (Or.inl ⟨?hw72, ?hy72⟩) (by assumption) ?rest72
        case hi72 => (simp only [gA, gB, gC]; rfl)
        case hQ72 => exact fun _ _ _ h => h
        case hw72 => rfl
        case hy72 => (intro w hSw; (try dsimp only at hSw); go_simp; try with_reducible rfl)
        (try simp only [Act.put, sA, sB, sC])
        refine wpAnyH_take (i := 2) (oi := ?oi73) (v := ?v73) ?hi73 (by kernel_rfl) (by kernel_rfl) (by kernel_rfl) ?hQ73 (Or.inl ⟨?hw73, ?hy73⟩) (by assumption) ?rest73
        case hi73 => (simp only [gA, gB, gC]; rfl)
        case hQ73 => exact fun _ _ _ h => h
        case hw73 => rfl
        case hy73 => (intro w hSw; (try dsimp only at hSw); go_simp; try with_reducible rfl)
        (try simp only [Act.put, sA, sB, sC])
        refine wpAnyH_take (i := 3) (oi := ?oi74) (v := ?v74) ?hi74 (by kernel_rfl) (by kernel_rfl) (by kernel_rfl) ?hQ74 (Or.inl ⟨?hw74, ?hy74⟩) (by assumption) ?rest74
        case hi74 => (simp only [gA, gB, gC]; rfl)
        case hQ74 => exact fun _ _ _ h => h
        case hw74 => rfl
        case hy74 => (intro w hSw; (try dsimp only at hSw); go_simp; try with_reducible rfl)
        (try simp only [Act.put, sA, sB, sC])
        refine wpAnyH_take (i := 4) (oi := ?oi75) (v := ?v75) ?hi75 (by kernel_rfl) (by kernel_rfl) (by kernel_rfl) ?hQ75 (Or.inl ⟨?hw75, ?hy75⟩) (by assumption) ?rest75
        case hi75 => (simp only [gA, gB, gC]; rfl)
        case hQ75 => exact fun _ _ _ h => h
        case hw75 => rfl
        case hy75 => (intro w hSw; (try dsimp only at hSw); go_simp; try with_reducible rfl)
        (try simp only [Act.put, sA, sB, sC])
        refine wpAnyH_ready (rs := [5, 6]) (by kernel_rfl) (by simp) ?_
        refine AllReadyH.cons (o := ?o76) ?ho76 (fun K hK => ?st76) (AllReadyH.cons (o := ?o77) ?ho77 (fun K hK => ?st77) AllReadyH.nil)
        case ho76 => (simp only [gA, gB, gC]; rfl)
        case ho77 => (simp only [gA, gB, gC]; rfl)
        · go_simp
          refine (H0.out _ (And.left (And.left hHeld))).mono ?_; rintro e wA ⟨rfl, hbA⟩; have hSA := HKP.out _ _ hHeld hbA
          refine hK.out _ _ ?_ (fun hHeld => ?_)
          · (try dsimp only); exact hSA
          clear hK K
          (try simp only [Act.put, sA, sB, sC])
          refine wpAnyH_ready (rs := [6]) (by kernel_rfl) (by simp) ?_
          refine AllReadyH.cons (o := ?o78) ?ho78 (fun K hK => ?st78) AllReadyH.nil
          case ho78 => (simp only [gA, gB, gC]; rfl)
          go_simp
          refine hK.out _ _ ?_ (fun hHeld => ?_)
          · (try dsimp only); exact HKP.out _ _ hSA (alloc1 _ _)
          clear hK K
          (try simp only [Act.put, sA, sB, sC])
          refine wpAnyH_ready (rs := [7]) (by kernel_rfl) (by simp) ?_
          refine AllReadyH.cons (o := ?o79) ?ho79 (fun K hK => ?st79) AllReadyH.nil
          case ho79 => (simp only [gA, gB, gC]; rfl)
          go_simp
          refine hK.out _ _ ?_ (fun hHeld => ?_)
          · (try dsimp only); exact HKP.out _ _ hSA (alloc1 _ _)
          clear hK K
          (try simp only [Act.put, sA, sB, sC])
          refine wpAnyH_done (by kernel_rfl) ?_ _
          go_wp2_with fail
          go_meet
          exact ⟨_, rfl, hSA.1.2.1, hHeld.1, Bx.new _ r1⟩
        · go_simp
          refine hK.out _ _ ?_ (fun hHeld => ?_)
          · (try dsimp only); exact HKP.out _ _ hS0 (alloc1 _ _)
          clear hK K
          (try simp only [Act.put, sA, sB, sC])
          refine wpAnyH_ready (rs := [5]) (by kernel_rfl) (by simp) ?_
          refine AllReadyH.cons (o := ?o80) ?ho80 (fun K hK => ?st80) AllReadyH.nil
          case ho80 => (simp only [gA, gB, gC]; rfl)
          go_simp
          refine (H0.out _ (And.left (And.left hHeld))).mono ?_; rintro e wA ⟨rfl, hbA⟩; have hSA := HKP.out _ _ hHeld hbA; obtain ⟨e0, e1, e2, e3, e4, ef⟩ := newcells hbA
          refine hK.out _ _ ?_ (fun hHeld => ?_)
          · (try dsimp only); exact hSA
          clear hK K
          (try simp only [Act.put, sA, sB, sC])
          refine wpAnyH_ready (rs := [7]) (by kernel_rfl) (by simp) ?_
          refine AllReadyH.cons (o := ?o81) ?ho81 (fun K hK => ?st81) AllReadyH.nil
          case ho81 => (simp only [gA, gB, gC]; rfl)
          go_simp
          refine hK.out _ _ ?_ (fun hHeld => ?_)
          · (try dsimp only); exact HKS.out _ _ _ _ _ _ _ htb.2.1 hSA
          clear hK K
          (try simp only [Act.put, sA, sB, sC])
          refine wpAnyH_done (by kernel_rfl) ?_ _
          go_wp2_with fail
          go_meet
          exact ⟨_, rfl, htb.2.1, hHeld.1, bx_set e0 e1 e2 e3 e4⟩
      case rest =>
        clear htb HHELD HKP HKS
        obtain ⟨b, rfl, hbge, hTB, hx0, hx1, hx2, hx3, hx4⟩ := hcut
        obtain ⟨d0, d1, d2, d3, d4, d5, d6, d7⟩ := hTB.2.2.2.2.1
        have g0 := hTB.2.2.1
        have g1 := hTB.2.2.2.1
        have hb := HBB.out
        rw [hb] at hx2
        clear hb
        obtain ⟨ou0, ou1, ou2, ou3, ou4, ov0, ov1, ov2, ov3, ov4, ovf⟩ := TB.out hTB
        go_wp2_with fail
        exact bodyPost_ret (v := agV r1) (by simp [results, Tryz.results117, go_sem, HBB.out, ov0, ov1, ov2, ov3, ov4]) rfl ⟨rfl, TB.done hTB _ _ _ _ _⟩
    · rw [if_neg (by decide)]
      have HBB := Lib.hid hb
      clear hb
      have htb : TB w FA fn FC VA vn VC 10 (some ad) n c nm v (((w.alloc (.cells #[.slice FA fn FC, .slice VA vn VC] 103)).alloc (.cells #[.int .i64 10, .slice (some ad) n c, .string nm, .int .i64 v.k, .int .i64 v.i, .bool v.b, .string v.s, .float .f64 v.n] 58)).alloc (.cells #[.int .i64 0, .int .i64 0, .bool false, .string { data := #[] }, .float .f64 0] 53)) := TB_new w FA fn FC VA vn VC 10 (some ad) n c nm v
      have HHELD := Lib.hid (fun W (hb : TB w FA fn FC VA vn VC 10 (some ad) n c nm v W) => (show THeld w FA fn FC VA vn VC ad n c p0 A0 n0 c0 m0 y0 W from let q := hq0 W hb.1; ⟨hb.2.2.1, hb.2.2.2.1, hb.2.2.2.2.1.2.1, q.1, q.2.1, q.2.2.1, q.2.2.2.1, q.2.2.2.2.1, q.2.2.2.2.2.1, q.2.2.2.2.2.2.1, q.2.2.2.2.2.2.2⟩))
      clear hq0
      have HKP := Lib.hid (fun (W W' : World) (h : TB w FA fn FC VA vn VC 10 (some ad) n c nm v W ∧ THeld w FA fn FC VA vn VC ad n c p0 A0 n0 c0 m0 y0 W) (hb : Below W.heap.size W W') => And.intro (h.1.below hb) (HHELD.out _ (h.1.below hb)))
      have HKS := Lib.hid (fun (W : World) (b : Nat) (u0 u1 u2 u3 u4 : Value) (hge : w.heap.size + 3 ≤ b) (h : TB w FA fn FC VA vn VC 10 (some ad) n c nm v W ∧ THeld w FA fn FC VA vn VC ad n c p0 A0 n0 c0 m0 y0 W) => let hb := below_set5 (Below.refl (w.heap.size + 3) W) hge u0 u1 u2 u3 u4; And.intro (h.1.below3 hb) (HHELD.out _ (h.1.below3 hb)))
      go_enter Tryz.func117, Tryz.ntmps117
      go_upto_region 6 with fail
      generalize ((w.alloc (.cells #[.slice FA fn FC, .slice VA vn VC] 103)).alloc (.cells #[.int .i64 10, .slice (some ad) n c, .string nm, .int .i64 v.k, .int .i64 v.i, .bool v.b, .string v.s, .float .f64 v.n] 58)).alloc (.cells #[.int .i64 0, .int .i64 0, .bool false, .string { data := #[] }, .float .f64 0] 53) = wb at *
      go_cut [5] from 23 to 28 (fun s5 wx => ∃ b, s5 = .pointer (some ⟨b, 0, none⟩) ∧ w.heap.size + 3 ≤ b ∧ TB w FA fn FC VA vn VC 10 (some ad) n c nm v wx ∧ Bx wx b r1)
      case first =>
        have hS0 : TB w FA fn FC VA vn VC 10 (some ad) n c nm v wb.drew ∧ THeld w FA fn FC VA vn VC ad n c p0 A0 n0 c0 m0 y0 wb.drew := ⟨htb.below (Below.refl _ _).drew, HHELD.out _ (htb.below (Below.refl _ _).drew)⟩
        refine wp_region_held_drew (S := (fun W => TB w FA fn FC VA vn VC 10 (some ad) n c nm v W ∧ THeld w FA fn FC VA vn VC ad n c p0 A0 n0 c0 m0 y0 W)) (by kernel_rfl) (hS0) (fun hHeld => ?_)
        refine wpAnyH_take (i := 0) (oi := ?oi82) (v := ?v82) ?hi82 (by kernel_rfl) (by kernel_rfl) (by kernel_rfl) ?hQ82 (Or.inl ⟨?hw82, ?hy82⟩) (by assumption) ?rest82
        case hi82 => (simp only [gA, gB, gC]; rfl)
        case hQ82 => exact fun _ _ _ h => h
        case hw82 => rfl
        case hy82 => (intro w hSw; (try dsimp only at hSw); go_simp; try with_reducible rfl)
        (try simp only [Act.put, sA, sB, sC])
        refine wpAnyH_take (i := 1) (oi := ?oi83) (v := ?v83) ?hi83 (by kernel_rfl) (by kernel_rfl) (by kernel_rfl) ?hQ83 (Or.inl ⟨?hw83, ?hy83⟩) (by assumption) ?rest83
        case hi83 => (simp only [gA, gB, gC]; rfl)
        case hQ83 => exact fun _ _ _ h => h
        case hw83 => rfl
        case hy83 => (intro w hSw; (try dsimp only at hSw); go_simp; try with_reducible rfl)
        (try simp only [Act.put, sA, sB, sC])
        refine wpAnyH_take (i := 2) (oi := ?oi84) (v := ?v84) ?hi84 (by kernel_rfl) (by kernel_rfl) (by kernel_rfl) ?hQ84 (Or.inl ⟨?hw84, ?hy84⟩) (by assumption) ?rest84
        case hi84 => (simp only [gA, gB, gC]; rfl)
        case hQ84 => exact fun _ _ _ h => h
        case hw84 => rfl
        case hy84 => (intro w hSw; (try dsimp only at hSw); go_simp; try with_reducible rfl)
        (try simp only [Act.put, sA, sB, sC])
        refine wpAnyH_take (i := 3) (oi := ?oi85) (v := ?v85) ?hi85 (by kernel_rfl) (by kernel_rfl) (by kernel_rfl) ?hQ85 (Or.inl ⟨?hw85, ?hy85⟩) (by assumption) ?rest85
        case hi85 => (simp only [gA, gB, gC]; rfl)
        case hQ85 => exact fun _ _ _ h => h
        case hw85 => rfl
        case hy85 => (intro w hSw; (try dsimp only at hSw); go_simp; try with_reducible rfl)
        (try simp only [Act.put, sA, sB, sC])
        refine wpAnyH_take (i := 4) (oi := ?oi86) (v := ?v86) ?hi86 (by kernel_rfl) (by kernel_rfl) (by kernel_rfl) ?hQ86 (Or.inl ⟨?hw86, ?hy86⟩) (by assumption) ?rest86
        case hi86 => (simp only [gA, gB, gC]; rfl)
        case hQ86 => exact fun _ _ _ h => h
        case hw86 => rfl
        case hy86 => (intro w hSw; (try dsimp only at hSw); go_simp; try with_reducible rfl)
        (try simp only [Act.put, sA, sB, sC])
        refine wpAnyH_ready (rs := [5, 6]) (by kernel_rfl) (by simp) ?_
        refine AllReadyH.cons (o := ?o87) ?ho87 (fun K hK => ?st87) (AllReadyH.cons (o := ?o88) ?ho88 (fun K hK => ?st88) AllReadyH.nil)
        case ho87 => (simp only [gA, gB, gC]; rfl)
        case ho88 => (simp only [gA, gB, gC]; rfl)
        · go_simp
          refine (H0.out _ (And.left (And.left hHeld))).mono ?_; rintro e wA ⟨rfl, hbA⟩; have hSA := HKP.out _ _ hHeld hbA
          refine hK.out _ _ ?_ (fun hHeld => ?_)
          · (try dsimp only); exact hSA
          clear hK K
          (try simp only [Act.put, sA, sB, sC])
          refine wpAnyH_ready (rs := [6]) (by kernel_rfl) (by simp) ?_
          refine AllReadyH.cons (o := ?o89) ?ho89 (fun K hK => ?st89) AllReadyH.nil
          case ho89 => (simp only [gA, gB, gC]; rfl)
          go_simp
          refine hK.out _ _ ?_ (fun hHeld => ?_)
          · (try dsimp only); exact HKP.out _ _ hSA (alloc1 _ _)
          clear hK K
          (try simp only [Act.put, sA, sB, sC])
          refine wpAnyH_ready (rs := [7]) (by kernel_rfl) (by simp) ?_
          refine AllReadyH.cons (o := ?o90) ?ho90 (fun K hK => ?st90) AllReadyH.nil
          case ho90 => (simp only [gA, gB, gC]; rfl)
          go_simp
          refine hK.out _ _ ?_ (fun hHeld => ?_)
          · (try dsimp only); exact HKP.out _ _ hSA (alloc1 _ _)
          clear hK K
          (try simp only [Act.put, sA, sB, sC])
          refine wpAnyH_done (by kernel_rfl) ?_ _
          go_wp2_with fail
          go_meet
          exact ⟨_, rfl, hSA.1.2.1, hHeld.1, Bx.new _ r1⟩
        · go_simp
          refine hK.out _ _ ?_ (fun hHeld => ?_)
          · (try dsimp only); exact HKP.out _ _ hS0 (alloc1 _ _)
          clear hK K
          (try simp only [Act.put, sA, sB, sC])
          refine wpAnyH_ready (rs := [5]) (by kernel_rfl) (by simp) ?_
          refine AllReadyH.cons (o := ?o91) ?ho91 (fun K hK => ?st91) AllReadyH.nil
          case ho91 => (simp only [gA, gB, gC]; rfl)
          go_simp
          refine (H0.out _ (And.left (And.left hHeld))).mono ?_; rintro e wA ⟨rfl, hbA⟩; have hSA := HKP.out _ _ hHeld hbA; obtain ⟨e0, e1, e2, e3, e4, ef⟩ := newcells hbA
          refine hK.out _ _ ?_ (fun hHeld => ?_)
          · (try dsimp only); exact hSA
          clear hK K
          (try simp only [Act.put, sA, sB, sC])
          refine wpAnyH_ready (rs := [7]) (by kernel_rfl) (by simp) ?_
          refine AllReadyH.cons (o := ?o92) ?ho92 (fun K hK => ?st92) AllReadyH.nil
          case ho92 => (simp only [gA, gB, gC]; rfl)
          go_simp
          refine hK.out _ _ ?_ (fun hHeld => ?_)
          · (try dsimp only); exact HKS.out _ _ _ _ _ _ _ htb.2.1 hSA
          clear hK K
          (try simp only [Act.put, sA, sB, sC])
          refine wpAnyH_done (by kernel_rfl) ?_ _
          go_wp2_with fail
          go_meet
          exact ⟨_, rfl, htb.2.1, hHeld.1, bx_set e0 e1 e2 e3 e4⟩
      case rest =>
        clear htb HHELD HKP HKS
        obtain ⟨b, rfl, hbge, hTB, hx0, hx1, hx2, hx3, hx4⟩ := hcut
        obtain ⟨d0, d1, d2, d3, d4, d5, d6, d7⟩ := hTB.2.2.2.2.1
        have g0 := hTB.2.2.1
        have g1 := hTB.2.2.2.1
        have hb := HBB.out
        rw [hb] at hx2
        clear hb
        obtain ⟨s1, s2⟩ := R1
        by_cases hz1 : s2 = 0
        · subst hz1
          have h1 := fun W hb => (H1.out W hb).mono (fun e w' h => (⟨h.1.trans (if_pos rfl), h.2⟩ : e = .returned (agV s1) ∧ Below W.heap.size W w'))
          clear H1
          have H1 := Lib.hid h1
          clear h1
          have HT := Lib.hid (fun W (hb : TC w FA fn FC VA vn VC 10 (some ad) n c nm v W) => (show THeldK w FA fn FC VA vn VC 10 ad n c ⟨ad.block, ad.off + 8, none⟩ p1 A1 n1 c1 m1 y1 W from let q := HQ1.out W hb.1; ⟨hb.2.2.1, hb.2.2.2.1, hb.2.2.2.2.1, hb.2.2.2.2.2.1, q.1, q.2.1, q.2.2.1, q.2.2.2.1, q.2.2.2.2.1, q.2.2.2.2.2.1, q.2.2.2.2.2.2.1, q.2.2.2.2.2.2.2⟩))
          have HK1 := Lib.hid (fun (W W' : World) (h : (TC w FA fn FC VA vn VC 10 (some ad) n c nm v W ∧ THeldK w FA fn FC VA vn VC 10 ad n c ⟨ad.block, ad.off + 8, none⟩ p1 A1 n1 c1 m1 y1 W)) (hb : Below W.heap.size W W') => (show (TC w FA fn FC VA vn VC 10 (some ad) n c nm v W' ∧ THeldK w FA fn FC VA vn VC 10 ad n c ⟨ad.block, ad.off + 8, none⟩ p1 A1 n1 c1 m1 y1 W') from ⟨h.1.below2 (hb.mono h.1.2.1), HT.out _ (h.1.below2 (hb.mono h.1.2.1))⟩))
          have HKZ := Lib.hid (fun (W : World) (u0 u1 u2 u3 u4 : Value) (h : (TC w FA fn FC VA vn VC 10 (some ad) n c nm v W ∧ THeldK w FA fn FC VA vn VC 10 ad n c ⟨ad.block, ad.off + 8, none⟩ p1 A1 n1 c1 m1 y1 W)) => let hb := below_set5 (Below.refl (w.heap.size + 2) W) (show w.heap.size + 2 ≤ w.heap.size + 1 + 1 by omega) u0 u1 u2 u3 u4; (show (TC w FA fn FC VA vn VC 10 (some ad) n c nm v (((((W.setCell ⟨w.heap.size + 1 + 1, 0, none⟩ u0).setCell ⟨w.heap.size + 1 + 1, 1, none⟩ u1).setCell ⟨w.heap.size + 1 + 1, 2, none⟩ u2).setCell ⟨w.heap.size + 1 + 1, 3, none⟩ u3).setCell ⟨w.heap.size + 1 + 1, 4, none⟩ u4) ∧ THeldK w FA fn FC VA vn VC 10 ad n c ⟨ad.block, ad.off + 8, none⟩ p1 A1 n1 c1 m1 y1 (((((W.setCell ⟨w.heap.size + 1 + 1, 0, none⟩ u0).setCell ⟨w.heap.size + 1 + 1, 1, none⟩ u1).setCell ⟨w.heap.size + 1 + 1, 2, none⟩ u2).setCell ⟨w.heap.size + 1 + 1, 3, none⟩ u3).setCell ⟨w.heap.size + 1 + 1, 4, none⟩ u4)) from ⟨h.1.below2 hb, HT.out _ (h.1.below2 hb)⟩))
          have hS1 : (fun W => (TC w FA fn FC VA vn VC 10 (some ad) n c nm v W ∧ THeldK w FA fn FC VA vn VC 10 ad n c ⟨ad.block, ad.off + 8, none⟩ p1 A1 n1 c1 m1 y1 W)) wc.drew := ⟨hTB.tc.below2 (Below.refl _ _).drew, HT.out _ (hTB.tc.below2 (Below.refl _ _).drew)⟩
          have HTB := Lib.hid hTB
          go_wp2_with fail
          refine wp_region_held_drew (S := (fun W => (TC w FA fn FC VA vn VC 10 (some ad) n c nm v W ∧ THeldK w FA fn FC VA vn VC 10 ad n c ⟨ad.block, ad.off + 8, none⟩ p1 A1 n1 c1 m1 y1 W))) (by kernel_rfl) (hS1) (fun hHeld => ?_)
          refine wpAnyH_take (i := 0) (oi := ?oi58) (v := ?v58) ?hi58 (by kernel_rfl) (by kernel_rfl) (by kernel_rfl) ?hQ58 (Or.inl ⟨?hw58, ?hy58⟩) (by assumption) ?rest58
          case hi58 => (simp only [gA, gB, gC]; rfl)
          case hQ58 => exact fun _ _ _ h => h
          case hw58 => rfl
          case hy58 => (intro w hSw; (try dsimp only at hSw); go_simp; try with_reducible rfl)
          (try simp only [Act.put, sA, sB, sC])
          refine wpAnyH_take (i := 1) (oi := ?oi59) (v := ?v59) ?hi59 (by kernel_rfl) (by kernel_rfl) (by kernel_rfl) ?hQ59 (Or.inl ⟨?hw59, ?hy59⟩) (by assumption) ?rest59
          case hi59 => (simp only [gA, gB, gC]; rfl)
          case hQ59 => exact fun _ _ _ h => h
          case hw59 => rfl
          case hy59 => (intro w hSw; (try dsimp only at hSw); go_simp; try with_reducible rfl)
          (try simp only [Act.put, sA, sB, sC])
          refine wpAnyH_take (i := 2) (oi := ?oi60) (v := ?v60) ?hi60 (by kernel_rfl) (by kernel_rfl) (by kernel_rfl) ?hQ60 (Or.inl ⟨?hw60, ?hy60⟩) (by assumption) ?rest60
          case hi60 => (simp only [gA, gB, gC]; rfl)
          case hQ60 => exact fun _ _ _ h => h
          case hw60 => rfl
          case hy60 => (intro w hSw; (try dsimp only at hSw); go_simp; try with_reducible rfl)
          (try simp only [Act.put, sA, sB, sC])
          refine wpAnyH_take (i := 3) (oi := ?oi61) (v := ?v61) ?hi61 (by kernel_rfl) (by kernel_rfl) (by kernel_rfl) ?hQ61 (Or.inl ⟨?hw61, ?hy61⟩) (by assumption) ?rest61
          case hi61 => (simp only [gA, gB, gC]; rfl)
          case hQ61 => exact fun _ _ _ h => h
          case hw61 => rfl
          case hy61 => (intro w hSw; (try dsimp only at hSw); go_simp; try with_reducible rfl)
          (try simp only [Act.put, sA, sB, sC])
          refine wpAnyH_take (i := 4) (oi := ?oi62) (v := ?v62) ?hi62 (by kernel_rfl) (by kernel_rfl) (by kernel_rfl) ?hQ62 (Or.inl ⟨?hw62, ?hy62⟩) (by assumption) ?rest62
          case hi62 => (simp only [gA, gB, gC]; rfl)
          case hQ62 => exact fun _ _ _ h => h
          case hw62 => rfl
          case hy62 => (intro w hSw; (try dsimp only at hSw); go_simp; try with_reducible rfl)
          (try simp only [Act.put, sA, sB, sC])
          refine wpAnyH_ready (rs := [5]) (by kernel_rfl) (by simp) ?_
          refine AllReadyH.cons (o := ?o63) ?ho63 (fun K hK => ?st63) AllReadyH.nil
          case ho63 => (simp only [gA, gB, gC]; rfl)
          go_simp
          refine (H1.out _ hHeld.1.1).mono ?_; rintro e w2 ⟨rfl, hb2⟩; obtain ⟨ou0, ou1, ou2, ou3, ou4, ov0, ov1, ov2, ov3, ov4, ovf⟩ := TB.out ((HTB.out.below (Below.refl _ _).drew).below hb2)
          refine hK.out _ _ ?_ (fun hHeld => ?_)
          · (try dsimp only); exact HK1.out _ _ hHeld hb2
          clear hK K
          (try simp only [Act.put, sA, sB, sC])
          refine wpAnyH_ready (rs := [6]) (by kernel_rfl) (by simp) ?_
          refine AllReadyH.cons (o := ?o64) ?ho64 (fun K hK => ?st64) AllReadyH.nil
          case ho64 => (simp only [gA, gB, gC]; rfl)
          go_simp
          refine hK.out _ _ ?_ (fun hHeld => ?_)
          · (try dsimp only); exact HKZ.out _ _ _ _ _ _ hHeld
          clear hK K
          (try simp only [Act.put, sA, sB, sC])
          refine wpAnyH_done (by kernel_rfl) ?_ _
          go_wp2_with fail
          exact bodyPost_ret (v := agV s1) (by simp [results, Tryz.results117, go_sem, ov0, ov1, ov2, ov3, ov4]) rfl ⟨rfl, TB.done ((HTB.out.below (Below.refl _ _).drew).below hb2) _ _ _ _ _⟩
        · have h1 := fun W hb => (H1.out W hb).mono (fun e w' h => (⟨h.1.trans (if_neg hz1), h.2⟩ : e = .panicked (PV s2) ∧ Below W.heap.size W w'))
          clear H1
          have H1 := Lib.hid h1
          have HZ1 := Lib.hid hz1
          clear h1 hz1
          have HT := Lib.hid (fun W (hb : TC w FA fn FC VA vn VC 10 (some ad) n c nm v W) => (show THeldK w FA fn FC VA vn VC 10 ad n c ⟨ad.block, ad.off + 8, none⟩ p1 A1 n1 c1 m1 y1 W from let q := HQ1.out W hb.1; ⟨hb.2.2.1, hb.2.2.2.1, hb.2.2.2.2.1, hb.2.2.2.2.2.1, q.1, q.2.1, q.2.2.1, q.2.2.2.1, q.2.2.2.2.1, q.2.2.2.2.2.1, q.2.2.2.2.2.2.1, q.2.2.2.2.2.2.2⟩))
          have HK1 := Lib.hid (fun (W W' : World) (h : (TC w FA fn FC VA vn VC 10 (some ad) n c nm v W ∧ THeldK w FA fn FC VA vn VC 10 ad n c ⟨ad.block, ad.off + 8, none⟩ p1 A1 n1 c1 m1 y1 W)) (hb : Below W.heap.size W W') => (show (TC w FA fn FC VA vn VC 10 (some ad) n c nm v W' ∧ THeldK w FA fn FC VA vn VC 10 ad n c ⟨ad.block, ad.off + 8, none⟩ p1 A1 n1 c1 m1 y1 W') from ⟨h.1.below2 (hb.mono h.1.2.1), HT.out _ (h.1.below2 (hb.mono h.1.2.1))⟩))
          have HKZ := Lib.hid (fun (W : World) (u0 u1 u2 u3 u4 : Value) (h : (TC w FA fn FC VA vn VC 10 (some ad) n c nm v W ∧ THeldK w FA fn FC VA vn VC 10 ad n c ⟨ad.block, ad.off + 8, none⟩ p1 A1 n1 c1 m1 y1 W)) => let hb := below_set5 (Below.refl (w.heap.size + 2) W) (show w.heap.size + 2 ≤ w.heap.size + 1 + 1 by omega) u0 u1 u2 u3 u4; (show (TC w FA fn FC VA vn VC 10 (some ad) n c nm v (((((W.setCell ⟨w.heap.size + 1 + 1, 0, none⟩ u0).setCell ⟨w.heap.size + 1 + 1, 1, none⟩ u1).setCell ⟨w.heap.size + 1 + 1, 2, none⟩ u2).setCell ⟨w.heap.size + 1 + 1, 3, none⟩ u3).setCell ⟨w.heap.size + 1 + 1, 4, none⟩ u4) ∧ THeldK w FA fn FC VA vn VC 10 ad n c ⟨ad.block, ad.off + 8, none⟩ p1 A1 n1 c1 m1 y1 (((((W.setCell ⟨w.heap.size + 1 + 1, 0, none⟩ u0).setCell ⟨w.heap.size + 1 + 1, 1, none⟩ u1).setCell ⟨w.heap.size + 1 + 1, 2, none⟩ u2).setCell ⟨w.heap.size + 1 + 1, 3, none⟩ u3).setCell ⟨w.heap.size + 1 + 1, 4, none⟩ u4)) from ⟨h.1.below2 hb, HT.out _ (h.1.below2 hb)⟩))
          have hS1 : (fun W => (TC w FA fn FC VA vn VC 10 (some ad) n c nm v W ∧ THeldK w FA fn FC VA vn VC 10 ad n c ⟨ad.block, ad.off + 8, none⟩ p1 A1 n1 c1 m1 y1 W)) wc.drew := ⟨hTB.tc.below2 (Below.refl _ _).drew, HT.out _ (hTB.tc.below2 (Below.refl _ _).drew)⟩
          have HTB := Lib.hid hTB
          go_wp2_with fail
          refine wp_region_held_drew (S := (fun W => (TC w FA fn FC VA vn VC 10 (some ad) n c nm v W ∧ THeldK w FA fn FC VA vn VC 10 ad n c ⟨ad.block, ad.off + 8, none⟩ p1 A1 n1 c1 m1 y1 W))) (by kernel_rfl) (hS1) (fun hHeld => ?_)
          refine wpAnyH_take (i := 0) (oi := ?oi65) (v := ?v65) ?hi65 (by kernel_rfl) (by kernel_rfl) (by kernel_rfl) ?hQ65 (Or.inl ⟨?hw65, ?hy65⟩) (by assumption) ?rest65
          case hi65 => (simp only [gA, gB, gC]; rfl)
          case hQ65 => exact fun _ _ _ h => h
          case hw65 => rfl
          case hy65 => (intro w hSw; (try dsimp only at hSw); go_simp; try with_reducible rfl)
          (try simp only [Act.put, sA, sB, sC])
          refine wpAnyH_take (i := 1) (oi := ?oi66) (v := ?v66) ?hi66 (by kernel_rfl) (by kernel_rfl) (by kernel_rfl) ?hQ66 (Or.inl ⟨?hw66, ?hy66⟩) (by assumption) ?rest66
          case hi66 => (simp only [gA, gB, gC]; rfl)
          case hQ66 => exact fun _ _ _ h => h
          case hw66 => rfl
          case hy66 => (intro w hSw; (try dsimp only at hSw); go_simp; try with_reducible rfl)
          (try simp only [Act.put, sA, sB, sC])
          refine wpAnyH_take (i := 2) (oi := ?oi67) (v := ?v67) ?hi67 (by kernel_rfl) (by kernel_rfl) (by kernel_rfl) ?hQ67 (Or.inl ⟨?hw67, ?hy67⟩) (by assumption) ?rest67
          case hi67 => (simp only [gA, gB, gC]; rfl)
          case hQ67 => exact fun _ _ _ h => h
          case hw67 => rfl
          case hy67 => (intro w hSw; (try dsimp only at hSw); go_simp; try with_reducible rfl)
          (try simp only [Act.put, sA, sB, sC])
          refine wpAnyH_take (i := 3) (oi := ?oi68) (v := ?v68) ?hi68 (by kernel_rfl) (by kernel_rfl) (by kernel_rfl) ?hQ68 (Or.inl ⟨?hw68, ?hy68⟩) (by assumption) ?rest68
          case hi68 => (simp only [gA, gB, gC]; rfl)
          case hQ68 => exact fun _ _ _ h => h
          case hw68 => rfl
          case hy68 => (intro w hSw; (try dsimp only at hSw); go_simp; try with_reducible rfl)
          (try simp only [Act.put, sA, sB, sC])
          refine wpAnyH_take (i := 4) (oi := ?oi69) (v := ?v69) ?hi69 (by kernel_rfl) (by kernel_rfl) (by kernel_rfl) ?hQ69 (Or.inl ⟨?hw69, ?hy69⟩) (by assumption) ?rest69
          case hi69 => (simp only [gA, gB, gC]; rfl)
          case hQ69 => exact fun _ _ _ h => h
          case hw69 => rfl
          case hy69 => (intro w hSw; (try dsimp only at hSw); go_simp; try with_reducible rfl)
          (try simp only [Act.put, sA, sB, sC])
          refine wpAnyH_ready (rs := [5]) (by kernel_rfl) (by simp) ?_
          refine AllReadyH.cons (o := ?o70) ?ho70 (fun K hK => ?st70) AllReadyH.nil
          case ho70 => (simp only [gA, gB, gC]; rfl)
          go_simp
          refine (H1.out _ hHeld.1.1).mono ?_; rintro e w2 ⟨rfl, hb2⟩
          exact ⟨rfl, (if_neg HZ1.out).symm, ((HTB.out.below (Below.refl _ _).drew).below hb2).1⟩
  · have h0 := fun W hb => (H0.out W hb).mono (fun e w' h => (⟨h.1.trans (if_neg hz), h.2⟩ : e = .panicked (PV r2) ∧ Below W.heap.size W w'))
    clear H0
    have H0 := Lib.hid h0
    have HZ := Lib.hid hz
    rw [if_pos hz]
    clear h0 hv0 hz
    have htb : TB w FA fn FC VA vn VC 10 (some ad) n c nm v (((w.alloc (.cells #[.slice FA fn FC, .slice VA vn VC] 103)).alloc (.cells #[.int .i64 10, .slice (some ad) n c, .string nm, .int .i64 v.k, .int .i64 v.i, .bool v.b, .string v.s, .float .f64 v.n] 58)).alloc (.cells #[.int .i64 0, .int .i64 0, .bool false, .string { data := #[] }, .float .f64 0] 53)) := TB_new w FA fn FC VA vn VC 10 (some ad) n c nm v
    have HHELD := Lib.hid (fun W (hb : TB w FA fn FC VA vn VC 10 (some ad) n c nm v W) => (show THeld w FA fn FC VA vn VC ad n c p0 A0 n0 c0 m0 y0 W from let q := hq0 W hb.1; ⟨hb.2.2.1, hb.2.2.2.1, hb.2.2.2.2.1.2.1, q.1, q.2.1, q.2.2.1, q.2.2.2.1, q.2.2.2.2.1, q.2.2.2.2.2.1, q.2.2.2.2.2.2.1, q.2.2.2.2.2.2.2⟩))
    clear hq0
    have HKP := Lib.hid (fun (W W' : World) (h : TB w FA fn FC VA vn VC 10 (some ad) n c nm v W ∧ THeld w FA fn FC VA vn VC ad n c p0 A0 n0 c0 m0 y0 W) (hb : Below W.heap.size W W') => And.intro (h.1.below hb) (HHELD.out _ (h.1.below hb)))
    have HKS := Lib.hid (fun (W : World) (b : Nat) (u0 u1 u2 u3 u4 : Value) (hge : w.heap.size + 3 ≤ b) (h : TB w FA fn FC VA vn VC 10 (some ad) n c nm v W ∧ THeld w FA fn FC VA vn VC ad n c p0 A0 n0 c0 m0 y0 W) => let hb := below_set5 (Below.refl (w.heap.size + 3) W) hge u0 u1 u2 u3 u4; And.intro (h.1.below3 hb) (HHELD.out _ (h.1.below3 hb)))
    go_enter Tryz.func117, Tryz.ntmps117
    go_upto_region 6 with fail
    generalize ((w.alloc (.cells #[.slice FA fn FC, .slice VA vn VC] 103)).alloc (.cells #[.int .i64 10, .slice (some ad) n c, .string nm, .int .i64 v.k, .int .i64 v.i, .bool v.b, .string v.s, .float .f64 v.n] 58)).alloc (.cells #[.int .i64 0, .int .i64 0, .bool false, .string { data := #[] }, .float .f64 0] 53) = wb at *
    have hS0 : TB w FA fn FC VA vn VC 10 (some ad) n c nm v wb.drew ∧ THeld w FA fn FC VA vn VC ad n c p0 A0 n0 c0 m0 y0 wb.drew := ⟨htb.below (Below.refl _ _).drew, HHELD.out _ (htb.below (Below.refl _ _).drew)⟩
    refine wp_region_held_drew (S := (fun W => TB w FA fn FC VA vn VC 10 (some ad) n c nm v W ∧ THeld w FA fn FC VA vn VC ad n c p0 A0 n0 c0 m0 y0 W)) (by kernel_rfl) (hS0) (fun hHeld => ?_)
    refine wpAnyH_take (i := 0) (oi := ?oi93) (v := ?v93) ?hi93 (by kernel_rfl) (by kernel_rfl) (by kernel_rfl) ?hQ93 (Or.inl ⟨?hw93, ?hy93⟩) (by assumption) ?rest93
    case hi93 => (simp only [gA, gB, gC]; rfl)
    case hQ93 => exact fun _ _ _ h => h
    case hw93 => rfl
    case hy93 => (intro w hSw; (try dsimp only at hSw); go_simp; try with_reducible rfl)
    (try simp only [Act.put, sA, sB, sC])
    refine wpAnyH_take (i := 1) (oi := ?oi94) (v := ?v94) ?hi94 (by kernel_rfl) (by kernel_rfl) (by kernel_rfl) ?hQ94 (Or.inl ⟨?hw94, ?hy94⟩) (by assumption) ?rest94
    case hi94 => (simp only [gA, gB, gC]; rfl)
    case hQ94 => exact fun _ _ _ h => h
    case hw94 => rfl
    case hy94 => (intro w hSw; (try dsimp only at hSw); go_simp; try with_reducible rfl)
    (try simp only [Act.put, sA, sB, sC])
    refine wpAnyH_take (i := 2) (oi := ?oi95) (v := ?v95) ?hi95 (by kernel_rfl) (by kernel_rfl) (by kernel_rfl) ?hQ95 (Or.inl ⟨?hw95, ?hy95⟩) (by assumption) ?rest95
    case hi95 => (simp only [gA, gB, gC]; rfl)
    case hQ95 => exact fun _ _ _ h => h
    case hw95 => rfl
    case hy95 => (intro w hSw; (try dsimp only at hSw); go_simp; try with_reducible rfl)
    (try simp only [Act.put, sA, sB, sC])
    refine wpAnyH_take (i := 3) (oi := ?oi96) (v := ?v96) ?hi96 (by kernel_rfl) (by kernel_rfl) (by kernel_rfl) ?hQ96 (Or.inl ⟨?hw96, ?hy96⟩) (by assumption) ?rest96
    case hi96 => (simp only [gA, gB, gC]; rfl)
    case hQ96 => exact fun _ _ _ h => h
    case hw96 => rfl
    case hy96 => (intro w hSw; (try dsimp only at hSw); go_simp; try with_reducible rfl)
    (try simp only [Act.put, sA, sB, sC])
    refine wpAnyH_take (i := 4) (oi := ?oi97) (v := ?v97) ?hi97 (by kernel_rfl) (by kernel_rfl) (by kernel_rfl) ?hQ97 (Or.inl ⟨?hw97, ?hy97⟩) (by assumption) ?rest97
    case hi97 => (simp only [gA, gB, gC]; rfl)
    case hQ97 => exact fun _ _ _ h => h
    case hw97 => rfl
    case hy97 => (intro w hSw; (try dsimp only at hSw); go_simp; try with_reducible rfl)
    (try simp only [Act.put, sA, sB, sC])
    refine wpAnyH_ready (rs := [5, 6]) (by kernel_rfl) (by simp) ?_
    refine AllReadyH.cons (o := ?o98) ?ho98 (fun K hK => ?st98) (AllReadyH.cons (o := ?o99) ?ho99 (fun K hK => ?st99) AllReadyH.nil)
    case ho98 => (simp only [gA, gB, gC]; rfl)
    case ho99 => (simp only [gA, gB, gC]; rfl)
    · go_simp
      refine (H0.out _ (And.left (And.left hHeld))).mono ?_; rintro e wA ⟨rfl, hbA⟩
      exact ⟨rfl, (if_neg HZ.out).symm, (And.left (And.left hHeld)).trans (hbA.mono (And.left (And.left hHeld)).size)⟩
    · go_simp
      refine hK.out _ _ ?_ (fun hHeld => ?_)
      · (try dsimp only); exact HKP.out _ _ hS0 (alloc1 _ _)
      clear hK K
      (try simp only [Act.put, sA, sB, sC])
      refine wpAnyH_ready (rs := [5]) (by kernel_rfl) (by simp) ?_
      refine AllReadyH.cons (o := ?o100) ?ho100 (fun K hK => ?st100) AllReadyH.nil
      case ho100 => (simp only [gA, gB, gC]; rfl)
      go_simp
      refine (H0.out _ (And.left (And.left hHeld))).mono ?_; rintro e wA ⟨rfl, hbA⟩
      exact ⟨rfl, (if_neg HZ.out).symm, (And.left (And.left hHeld)).trans (hbA.mono (And.left (And.left hHeld)).size)⟩
set_option maxHeartbeats 600000 in
theorem tell_11 (FA : Option Addr) (fn FC : Nat) (VA : Option Addr) (vn VC : Nat) (ad : Addr) (n c : Nat) (nm : ByteArray) (v : Vl) (w : World) (A0 : Option Addr) (n0 c0 : Nat) (m0 : ByteArray) (y0 : Vl) (p0 : Int) (R0 : Vl × Int) (hq0 : ∀ W, Below w.heap.size w W → Kid W ad p0 A0 n0 c0 m0 y0) (h0 : ∀ W, Below w.heap.size w W → Calls Tryz.prog 117 #[agR FA fn FC VA vn VC, agX p0 A0 n0 c0 m0 y0] W (TellP R0 W)) (hv0 : R0.2 = 0 → okV R0.1) (A1 : Option Addr) (n1 c1 : Nat) (m1 : ByteArray) (y1 : Vl) (p1 : Int) (R1 : Vl × Int) (hq1 : ∀ W, Below w.heap.size w W → Kid W ⟨ad.block, ad.off + 8, none⟩ p1 A1 n1 c1 m1 y1) (h1 : ∀ W, Below w.heap.size w W → Calls Tryz.prog 117 #[agR FA fn FC VA vn VC, agX p1 A1 n1 c1 m1 y1] W (TellP R1 W)) (hv1 : R1.2 = 0 → okV R1.1) (hn : 1 < n) :
    Calls Tryz.prog 117 #[agR FA fn FC VA vn VC, agX 11 (some ad) n c nm v] w (TellP (if R0.2 ≠ 0 then (vZero, R0.2) else (if R0.1.b = true then (R0.1, 0) else R1)) w) := by
  have hi1 : (1 : Int) < (n : Int) := by omega
  have hsf := fun (w : World) (a : Addr) (m : Mode) (b : Nat) => run_store Tryz.prog w a (.float .f64 b) m rfl
  have hi : (0 : Int) < (n : Int) := by omega
  have hn0 : 0 < n := by omega
  have HQ1 := Lib.hid hq1
  have H1 := Lib.hid h1
  clear hq1 h1 hv1
  obtain ⟨r1, r2⟩ := R0
  have H0 := Lib.hid h0
  clear h0
  by_cases hz : r2 = 0
  · subst hz
    rw [if_neg (fun h => h rfl)]
    have h0 := fun W hb => (H0.out W hb).mono (fun e w' h => (⟨h.1.trans (if_pos rfl), h.2⟩ : e = .returned (agV r1) ∧ Below W.heap.size W w'))
    clear H0
    have H0 := Lib.hid h0
    clear h0 hv0
    rcases hb : r1.b with _ | _
    · rw [if_neg (by decide)]
      have HBB := Lib.hid hb
      clear hb
      have htb : TB w FA fn FC VA vn VC 11 (some ad) n c nm v (((w.alloc (.cells #[.slice FA fn FC, .slice VA vn VC] 103)).alloc (.cells #[.int .i64 11, .slice (some ad) n c, .string nm, .int .i64 v.k, .int .i64 v.i, .bool v.b, .string v.s, .float .f64 v.n] 58)).alloc (.cells #[.int .i64 0, .int .i64 0, .bool false, .string { data := #[] }, .float .f64 0] 53)) := TB_new w FA fn FC VA vn VC 11 (some ad) n c nm v
      have HHELD := Lib.hid (fun W (hb : TB w FA fn FC VA vn VC 11 (some ad) n c nm v W) => (show THeld w FA fn FC VA vn VC ad n c p0 A0 n0 c0 m0 y0 W from let q := hq0 W hb.1; ⟨hb.2.2.1, hb.2.2.2.1, hb.2.2.2.2.1.2.1, q.1, q.2.1, q.2.2.1, q.2.2.2.1, q.2.2.2.2.1, q.2.2.2.2.2.1, q.2.2.2.2.2.2.1, q.2.2.2.2.2.2.2⟩))
      clear hq0
      have HKP := Lib.hid (fun (W W' : World) (h : TB w FA fn FC VA vn VC 11 (some ad) n c nm v W ∧ THeld w FA fn FC VA vn VC ad n c p0 A0 n0 c0 m0 y0 W) (hb : Below W.heap.size W W') => And.intro (h.1.below hb) (HHELD.out _ (h.1.below hb)))
      have HKS := Lib.hid (fun (W : World) (b : Nat) (u0 u1 u2 u3 u4 : Value) (hge : w.heap.size + 3 ≤ b) (h : TB w FA fn FC VA vn VC 11 (some ad) n c nm v W ∧ THeld w FA fn FC VA vn VC ad n c p0 A0 n0 c0 m0 y0 W) => let hb := below_set5 (Below.refl (w.heap.size + 3) W) hge u0 u1 u2 u3 u4; And.intro (h.1.below3 hb) (HHELD.out _ (h.1.below3 hb)))
      go_enter Tryz.func117, Tryz.ntmps117
      go_upto_region 6 with fail
      generalize ((w.alloc (.cells #[.slice FA fn FC, .slice VA vn VC] 103)).alloc (.cells #[.int .i64 11, .slice (some ad) n c, .string nm, .int .i64 v.k, .int .i64 v.i, .bool v.b, .string v.s, .float .f64 v.n] 58)).alloc (.cells #[.int .i64 0, .int .i64 0, .bool false, .string { data := #[] }, .float .f64 0] 53) = wb at *
      go_cut [5] from 23 to 28 (fun s5 wx => ∃ b, s5 = .pointer (some ⟨b, 0, none⟩) ∧ w.heap.size + 3 ≤ b ∧ TB w FA fn FC VA vn VC 11 (some ad) n c nm v wx ∧ Bx wx b r1)
      case first =>
        have hS0 : TB w FA fn FC VA vn VC 11 (some ad) n c nm v wb.drew ∧ THeld w FA fn FC VA vn VC ad n c p0 A0 n0 c0 m0 y0 wb.drew := ⟨htb.below (Below.refl _ _).drew, HHELD.out _ (htb.below (Below.refl _ _).drew)⟩
        refine wp_region_held_drew (S := (fun W => TB w FA fn FC VA vn VC 11 (some ad) n c nm v W ∧ THeld w FA fn FC VA vn VC ad n c p0 A0 n0 c0 m0 y0 W)) (by kernel_rfl) (hS0) (fun hHeld => ?_)
        refine wpAnyH_take (i := 0) (oi := ?oi114) (v := ?v114) ?hi114 (by kernel_rfl) (by kernel_rfl) (by kernel_rfl) ?hQ114 (Or.inl ⟨?hw114, ?hy114⟩) (by assumption) ?rest114
        case hi114 => (simp only [gA, gB, gC]; rfl)
        case hQ114 => exact fun _ _ _ h => h
        case hw114 => rfl
        case hy114 => (intro w hSw; (try dsimp only at hSw); go_simp; try with_reducible rfl)
        (try simp only [Act.put, sA, sB, sC])
        refine wpAnyH_take (i := 1) (oi := ?oi115) (v := ?v115) ?hi115 (by kernel_rfl) (by kernel_rfl) (by kernel_rfl) ?hQ115 (Or.inl ⟨?hw115, ?hy115⟩) (by assumption) ?rest115
        case hi115 => (simp only [gA, gB, gC]; rfl)
        case hQ115 => exact fun _ _ _ h => h
        case hw115 => rfl
        case hy115 => (intro w hSw; (try dsimp only at hSw); go_simp; try with_reducible rfl)
        (try simp only [Act.put, sA, sB, sC])
        refine wpAnyH_take (i := 2) (oi := ?oi116) (v := ?v116) ?hi116 (by kernel_rfl) (by kernel_rfl) (by kernel_rfl) ?hQ116 (Or.inl ⟨?hw116, ?hy116⟩) (by assumption) ?rest116
        case hi116 => (simp only [gA, gB, gC]; rfl)
        case hQ116 => exact fun _ _ _ h => h
        case hw116 => rfl
        case hy116 => (intro w hSw; (try dsimp only at hSw); go_simp; try with_reducible rfl)
        (try simp only [Act.put, sA, sB, sC])
        refine wpAnyH_take (i := 3) (oi := ?oi117) (v := ?v117) ?hi117 (by kernel_rfl) (by kernel_rfl) (by kernel_rfl) ?hQ117 (Or.inl ⟨?hw117, ?hy117⟩) (by assumption) ?rest117
        case hi117 => (simp only [gA, gB, gC]; rfl)
        case hQ117 => exact fun _ _ _ h => h
        case hw117 => rfl
        case hy117 => (intro w hSw; (try dsimp only at hSw); go_simp; try with_reducible rfl)
        (try simp only [Act.put, sA, sB, sC])
        refine wpAnyH_take (i := 4) (oi := ?oi118) (v := ?v118) ?hi118 (by kernel_rfl) (by kernel_rfl) (by kernel_rfl) ?hQ118 (Or.inl ⟨?hw118, ?hy118⟩) (by assumption) ?rest118
        case hi118 => (simp only [gA, gB, gC]; rfl)
        case hQ118 => exact fun _ _ _ h => h
        case hw118 => rfl
        case hy118 => (intro w hSw; (try dsimp only at hSw); go_simp; try with_reducible rfl)
        (try simp only [Act.put, sA, sB, sC])
        refine wpAnyH_ready (rs := [5, 6]) (by kernel_rfl) (by simp) ?_
        refine AllReadyH.cons (o := ?o119) ?ho119 (fun K hK => ?st119) (AllReadyH.cons (o := ?o120) ?ho120 (fun K hK => ?st120) AllReadyH.nil)
        case ho119 => (simp only [gA, gB, gC]; rfl)
        case ho120 => (simp only [gA, gB, gC]; rfl)
        · go_simp
          refine (H0.out _ (And.left (And.left hHeld))).mono ?_; rintro e wA ⟨rfl, hbA⟩; have hSA := HKP.out _ _ hHeld hbA
          refine hK.out _ _ ?_ (fun hHeld => ?_)
          · (try dsimp only); exact hSA
          clear hK K
          (try simp only [Act.put, sA, sB, sC])
          refine wpAnyH_ready (rs := [6]) (by kernel_rfl) (by simp) ?_
          refine AllReadyH.cons (o := ?o121) ?ho121 (fun K hK => ?st121) AllReadyH.nil
          case ho121 => (simp only [gA, gB, gC]; rfl)
          go_simp
          refine hK.out _ _ ?_ (fun hHeld => ?_)
          · (try dsimp only); exact HKP.out _ _ hSA (alloc1 _ _)
          clear hK K
          (try simp only [Act.put, sA, sB, sC])
          refine wpAnyH_ready (rs := [7]) (by kernel_rfl) (by simp) ?_
          refine AllReadyH.cons (o := ?o122) ?ho122 (fun K hK => ?st122) AllReadyH.nil
          case ho122 => (simp only [gA, gB, gC]; rfl)
          go_simp
          refine hK.out _ _ ?_ (fun hHeld => ?_)
          · (try dsimp only); exact HKP.out _ _ hSA (alloc1 _ _)
          clear hK K
          (try simp only [Act.put, sA, sB, sC])
          refine wpAnyH_done (by kernel_rfl) ?_ _
          go_wp2_with fail
          go_meet
          exact ⟨_, rfl, hSA.1.2.1, hHeld.1, Bx.new _ r1⟩
        · go_simp
          refine hK.out _ _ ?_ (fun hHeld => ?_)
          · (try dsimp only); exact HKP.out _ _ hS0 (alloc1 _ _)
          clear hK K
          (try simp only [Act.put, sA, sB, sC])
          refine wpAnyH_ready (rs := [5]) (by kernel_rfl) (by simp) ?_
          refine AllReadyH.cons (o := ?o123) ?ho123 (fun K hK => ?st123) AllReadyH.nil
          case ho123 => (simp only [gA, gB, gC]; rfl)
          go_simp
          refine (H0.out _ (And.left (And.left hHeld))).mono ?_; rintro e wA ⟨rfl, hbA⟩; have hSA := HKP.out _ _ hHeld hbA; obtain ⟨e0, e1, e2, e3, e4, ef⟩ := newcells hbA
          refine hK.out _ _ ?_ (fun hHeld => ?_)
          · (try dsimp only); exact hSA
          clear hK K
          (try simp only [Act.put, sA, sB, sC])
          refine wpAnyH_ready (rs := [7]) (by kernel_rfl) (by simp) ?_
          refine AllReadyH.cons (o := ?o124) ?ho124 (fun K hK => ?st124) AllReadyH.nil
          case ho124 => (simp only [gA, gB, gC]; rfl)
          go_simp
          refine hK.out _ _ ?_ (fun hHeld => ?_)
          · (try dsimp only); exact HKS.out _ _ _ _ _ _ _ htb.2.1 hSA
          clear hK K
          (try simp only [Act.put, sA, sB, sC])
          refine wpAnyH_done (by kernel_rfl) ?_ _
          go_wp2_with fail
          go_meet
          exact ⟨_, rfl, htb.2.1, hHeld.1, bx_set e0 e1 e2 e3 e4⟩
      case rest =>
        clear htb HHELD HKP HKS
        obtain ⟨b, rfl, hbge, hTB, hx0, hx1, hx2, hx3, hx4⟩ := hcut
        obtain ⟨d0, d1, d2, d3, d4, d5, d6, d7⟩ := hTB.2.2.2.2.1
        have g0 := hTB.2.2.1
        have g1 := hTB.2.2.2.1
        have hb := HBB.out
        rw [hb] at hx2
        clear hb
        obtain ⟨s1, s2⟩ := R1
        by_cases hz1 : s2 = 0
        · subst hz1
          have h1 := fun W hb => (H1.out W hb).mono (fun e w' h => (⟨h.1.trans (if_pos rfl), h.2⟩ : e = .returned (agV s1) ∧ Below W.heap.size W w'))
          clear H1
          have H1 := Lib.hid h1
          clear h1
          have HT := Lib.hid (fun W (hb : TC w FA fn FC VA vn VC 11 (some ad) n c nm v W) => (show THeldK w FA fn FC VA vn VC 11 ad n c ⟨ad.block, ad.off + 8, none⟩ p1 A1 n1 c1 m1 y1 W from let q := HQ1.out W hb.1; ⟨hb.2.2.1, hb.2.2.2.1, hb.2.2.2.2.1, hb.2.2.2.2.2.1, q.1, q.2.1, q.2.2.1, q.2.2.2.1, q.2.2.2.2.1, q.2.2.2.2.2.1, q.2.2.2.2.2.2.1, q.2.2.2.2.2.2.2⟩))
          have HK1 := Lib.hid (fun (W W' : World) (h : (TC w FA fn FC VA vn VC 11 (some ad) n c nm v W ∧ THeldK w FA fn FC VA vn VC 11 ad n c ⟨ad.block, ad.off + 8, none⟩ p1 A1 n1 c1 m1 y1 W)) (hb : Below W.heap.size W W') => (show (TC w FA fn FC VA vn VC 11 (some ad) n c nm v W' ∧ THeldK w FA fn FC VA vn VC 11 ad n c ⟨ad.block, ad.off + 8, none⟩ p1 A1 n1 c1 m1 y1 W') from ⟨h.1.below2 (hb.mono h.1.2.1), HT.out _ (h.1.below2 (hb.mono h.1.2.1))⟩))
          have HKZ := Lib.hid (fun (W : World) (u0 u1 u2 u3 u4 : Value) (h : (TC w FA fn FC VA vn VC 11 (some ad) n c nm v W ∧ THeldK w FA fn FC VA vn VC 11 ad n c ⟨ad.block, ad.off + 8, none⟩ p1 A1 n1 c1 m1 y1 W)) => let hb := below_set5 (Below.refl (w.heap.size + 2) W) (show w.heap.size + 2 ≤ w.heap.size + 1 + 1 by omega) u0 u1 u2 u3 u4; (show (TC w FA fn FC VA vn VC 11 (some ad) n c nm v (((((W.setCell ⟨w.heap.size + 1 + 1, 0, none⟩ u0).setCell ⟨w.heap.size + 1 + 1, 1, none⟩ u1).setCell ⟨w.heap.size + 1 + 1, 2, none⟩ u2).setCell ⟨w.heap.size + 1 + 1, 3, none⟩ u3).setCell ⟨w.heap.size + 1 + 1, 4, none⟩ u4) ∧ THeldK w FA fn FC VA vn VC 11 ad n c ⟨ad.block, ad.off + 8, none⟩ p1 A1 n1 c1 m1 y1 (((((W.setCell ⟨w.heap.size + 1 + 1, 0, none⟩ u0).setCell ⟨w.heap.size + 1 + 1, 1, none⟩ u1).setCell ⟨w.heap.size + 1 + 1, 2, none⟩ u2).setCell ⟨w.heap.size + 1 + 1, 3, none⟩ u3).setCell ⟨w.heap.size + 1 + 1, 4, none⟩ u4)) from ⟨h.1.below2 hb, HT.out _ (h.1.below2 hb)⟩))
          have hS1 : (fun W => (TC w FA fn FC VA vn VC 11 (some ad) n c nm v W ∧ THeldK w FA fn FC VA vn VC 11 ad n c ⟨ad.block, ad.off + 8, none⟩ p1 A1 n1 c1 m1 y1 W)) wc.drew := ⟨hTB.tc.below2 (Below.refl _ _).drew, HT.out _ (hTB.tc.below2 (Below.refl _ _).drew)⟩
          have HTB := Lib.hid hTB
          go_wp2_with fail
          refine wp_region_held_drew (S := (fun W => (TC w FA fn FC VA vn VC 11 (some ad) n c nm v W ∧ THeldK w FA fn FC VA vn VC 11 ad n c ⟨ad.block, ad.off + 8, none⟩ p1 A1 n1 c1 m1 y1 W))) (by kernel_rfl) (hS1) (fun hHeld => ?_)
          refine wpAnyH_take (i := 0) (oi := ?oi101) (v := ?v101) ?hi101 (by kernel_rfl) (by kernel_rfl) (by kernel_rfl) ?hQ101 (Or.inl ⟨?hw101, ?hy101⟩) (by assumption) ?rest101
          case hi101 => (simp only [gA, gB, gC]; rfl)
          case hQ101 => exact fun _ _ _ h => h
          case hw101 => rfl
          case hy101 => (intro w hSw; (try dsimp only at hSw); go_simp; try with_reducible rfl)
          (try simp only [Act.put, sA, sB, sC])
          refine wpAnyH_take (i := 1) (oi := ?oi102) (v := ?v102) ?hi102 (by kernel_rfl) (by kernel_rfl) (by kernel_rfl) ?hQ102 (Or.inl ⟨?hw102, ?hy102⟩) (by assumption) ?rest102
          case hi102 => (simp only [gA, gB, gC]; rfl)
          case hQ102 => exact fun _ _ _ h => h
          case hw102 => rfl
          case hy102 => (intro w hSw; (try dsimp only at hSw); go_simp; try with_reducible rfl)
          (try simp only [Act.put, sA, sB, sC])
          refine wpAnyH_take (i := 2) (oi := ?oi103) (v := ?v103) ?hi103 (by kernel_rfl) (by kernel_rfl) (by kernel_rfl) ?hQ103 (Or.inl ⟨?hw103, ?hy103⟩) (by assumption) ?rest103
          case hi103 => (simp only [gA, gB, gC]; rfl)
          case hQ103 => exact fun _ _ _ h => h
          case hw103 => rfl
          case hy103 => (intro w hSw; (try dsimp only at hSw); go_simp; try with_reducible rfl)
          (try simp only [Act.put, sA, sB, sC])
          refine wpAnyH_take (i := 3) (oi := ?oi104) (v := ?v104) ?hi104 (by kernel_rfl) (by kernel_rfl) (by kernel_rfl) ?hQ104 (Or.inl ⟨?hw104, ?hy104⟩) (by assumption) ?rest104
          case hi104 => (simp only [gA, gB, gC]; rfl)
          case hQ104 => exact fun _ _ _ h => h
          case hw104 => rfl
          case hy104 => (intro w hSw; (try dsimp only at hSw); go_simp; try with_reducible rfl)
          (try simp only [Act.put, sA, sB, sC])
          refine wpAnyH_take (i := 4) (oi := ?oi105) (v := ?v105) ?hi105 (by kernel_rfl) (by kernel_rfl) (by kernel_rfl) ?hQ105 (Or.inl ⟨?hw105, ?hy105⟩) (by assumption) ?rest105
          case hi105 => (simp only [gA, gB, gC]; rfl)
          case hQ105 => exact fun _ _ _ h => h
          case hw105 => rfl
          case hy105 => (intro w hSw; (try dsimp only at hSw); go_simp; try with_reducible rfl)
          (try simp only [Act.put, sA, sB, sC])
          refine wpAnyH_ready (rs := [5]) (by kernel_rfl) (by simp) ?_
          refine AllReadyH.cons (o := ?o106) ?ho106 (fun K hK => ?st106) AllReadyH.nil
          case ho106 => (simp only [gA, gB, gC]; rfl)
          go_simp
          refine (H1.out _ hHeld.1.1).mono ?_; rintro e w2 ⟨rfl, hb2⟩; obtain ⟨ou0, ou1, ou2, ou3, ou4, ov0, ov1, ov2, ov3, ov4, ovf⟩ := TB.out ((HTB.out.below (Below.refl _ _).drew).below hb2)
          refine hK.out _ _ ?_ (fun hHeld => ?_)
          · (try dsimp only); exact HK1.out _ _ hHeld hb2
          clear hK K
          (try simp only [Act.put, sA, sB, sC])
          refine wpAnyH_ready (rs := [6]) (by kernel_rfl) (by simp) ?_
          refine AllReadyH.cons (o := ?o107) ?ho107 (fun K hK => ?st107) AllReadyH.nil
          case ho107 => (simp only [gA, gB, gC]; rfl)
          go_simp
          refine hK.out _ _ ?_ (fun hHeld => ?_)
          · (try dsimp only); exact HKZ.out _ _ _ _ _ _ hHeld
          clear hK K
          (try simp only [Act.put, sA, sB, sC])
          refine wpAnyH_done (by kernel_rfl) ?_ _
          go_wp2_with fail
          exact bodyPost_ret (v := agV s1) (by simp [results, Tryz.results117, go_sem, ov0, ov1, ov2, ov3, ov4]) rfl ⟨rfl, TB.done ((HTB.out.below (Below.refl _ _).drew).below hb2) _ _ _ _ _⟩
        · have h1 := fun W hb => (H1.out W hb).mono (fun e w' h => (⟨h.1.trans (if_neg hz1), h.2⟩ : e = .panicked (PV s2) ∧ Below W.heap.size W w'))
          clear H1
          have H1 := Lib.hid h1
          have HZ1 := Lib.hid hz1
          clear h1 hz1
          have HT := Lib.hid (fun W (hb : TC w FA fn FC VA vn VC 11 (some ad) n c nm v W) => (show THeldK w FA fn FC VA vn VC 11 ad n c ⟨ad.block, ad.off + 8, none⟩ p1 A1 n1 c1 m1 y1 W from let q := HQ1.out W hb.1; ⟨hb.2.2.1, hb.2.2.2.1, hb.2.2.2.2.1, hb.2.2.2.2.2.1, q.1, q.2.1, q.2.2.1, q.2.2.2.1, q.2.2.2.2.1, q.2.2.2.2.2.1, q.2.2.2.2.2.2.1, q.2.2.2.2.2.2.2⟩))
          have HK1 := Lib.hid (fun (W W' : World) (h : (TC w FA fn FC VA vn VC 11 (some ad) n c nm v W ∧ THeldK w FA fn FC VA vn VC 11 ad n c ⟨ad.block, ad.off + 8, none⟩ p1 A1 n1 c1 m1 y1 W)) (hb : Below W.heap.size W W') => (show (TC w FA fn FC VA vn VC 11 (some ad) n c nm v W' ∧ THeldK w FA fn FC VA vn VC 11 ad n c ⟨ad.block, ad.off + 8, none⟩ p1 A1 n1 c1 m1 y1 W') from ⟨h.1.below2 (hb.mono h.1.2.1), HT.out _ (h.1.below2 (hb.mono h.1.2.1))⟩))
          have HKZ := Lib.hid (fun (W : World) (u0 u1 u2 u3 u4 : Value) (h : (TC w FA fn FC VA vn VC 11 (some ad) n c nm v W ∧ THeldK w FA fn FC VA vn VC 11 ad n c ⟨ad.block, ad.off + 8, none⟩ p1 A1 n1 c1 m1 y1 W)) => let hb := below_set5 (Below.refl (w.heap.size + 2) W) (show w.heap.size + 2 ≤ w.heap.size + 1 + 1 by omega) u0 u1 u2 u3 u4; (show (TC w FA fn FC VA vn VC 11 (some ad) n c nm v (((((W.setCell ⟨w.heap.size + 1 + 1, 0, none⟩ u0).setCell ⟨w.heap.size + 1 + 1, 1, none⟩ u1).setCell ⟨w.heap.size + 1 + 1, 2, none⟩ u2).setCell ⟨w.heap.size + 1 + 1, 3, none⟩ u3).setCell ⟨w.heap.size + 1 + 1, 4, none⟩ u4) ∧ THeldK w FA fn FC VA vn VC 11 ad n c ⟨ad.block, ad.off + 8, none⟩ p1 A1 n1 c1 m1 y1 (((((W.setCell ⟨w.heap.size + 1 + 1, 0, none⟩ u0).setCell ⟨w.heap.size + 1 + 1, 1, none⟩ u1).setCell ⟨w.heap.size + 1 + 1, 2, none⟩ u2).setCell ⟨w.heap.size + 1 + 1, 3, none⟩ u3).setCell ⟨w.heap.size + 1 + 1, 4, none⟩ u4)) from ⟨h.1.below2 hb, HT.out _ (h.1.below2 hb)⟩))
          have hS1 : (fun W => (TC w FA fn FC VA vn VC 11 (some ad) n c nm v W ∧ THeldK w FA fn FC VA vn VC 11 ad n c ⟨ad.block, ad.off + 8, none⟩ p1 A1 n1 c1 m1 y1 W)) wc.drew := ⟨hTB.tc.below2 (Below.refl _ _).drew, HT.out _ (hTB.tc.below2 (Below.refl _ _).drew)⟩
          have HTB := Lib.hid hTB
          go_wp2_with fail
          refine wp_region_held_drew (S := (fun W => (TC w FA fn FC VA vn VC 11 (some ad) n c nm v W ∧ THeldK w FA fn FC VA vn VC 11 ad n c ⟨ad.block, ad.off + 8, none⟩ p1 A1 n1 c1 m1 y1 W))) (by kernel_rfl) (hS1) (fun hHeld => ?_)
          refine wpAnyH_take (i := 0) (oi := ?oi108) (v := ?v108) ?hi108 (by kernel_rfl) (by kernel_rfl) (by kernel_rfl) ?hQ108 (Or.inl ⟨?hw108, ?hy108⟩) (by assumption) ?rest108
          case hi108 => (simp only [gA, gB, gC]; rfl)
          case hQ108 => exact fun _ _ _ h => h
          case hw108 => rfl
          case hy108 => (intro w hSw; (try dsimp only at hSw); go_simp; try with_reducible rfl)
          (try simp only [Act.put, sA, sB, sC])
          refine wpAnyH_take (i := 1) (oi := ?oi109) (v := ?v109) ?hi109 (by kernel_rfl) (by kernel_rfl) (by kernel_rfl) ?hQ109 (Or.inl ⟨?hw109, ?hy109⟩) (by assumption) ?rest109
          case hi109 => (simp only [gA, gB, gC]; rfl)
          case hQ109 => exact fun _ _ _ h => h
          case hw109 => rfl
          case hy109 => (intro w hSw; (try dsimp only at hSw); go_simp; try with_reducible rfl)
          (try simp only [Act.put, sA, sB, sC])
          refine wpAnyH_take (i := 2) (oi := ?oi110) (v := ?v110) ?hi110 (by kernel_rfl) (by kernel_rfl) (by kernel_rfl) ?hQ110 (Or.inl ⟨?hw110, ?hy110⟩) (by assumption) ?rest110
          case hi110 => (simp only [gA, gB, gC]; rfl)
          case hQ110 => exact fun _ _ _ h => h
          case hw110 => rfl
          case hy110 => (intro w hSw; (try dsimp only at hSw); go_simp; try with_reducible rfl)
          (try simp only [Act.put, sA, sB, sC])
          refine wpAnyH_take (i := 3) (oi := ?oi111) (v := ?v111) ?hi111 (by kernel_rfl) (by kernel_rfl) (by kernel_rfl) ?hQ111 (Or.inl ⟨?hw111, ?hy111⟩) (by assumption) ?rest111
          case hi111 => (simp only [gA, gB, gC]; rfl)
          case hQ111 => exact fun _ _ _ h => h
          case hw111 => rfl
          case hy111 => (intro w hSw; (try dsimp only at hSw); go_simp; try with_reducible rfl)
          (try simp only [Act.put, sA, sB, sC])
          refine wpAnyH_take (i := 4) (oi := ?oi112) (v := ?v112) ?hi112 (by kernel_rfl) (by kernel_rfl) (by kernel_rfl) ?hQ112 (Or.inl ⟨?hw112, ?hy112⟩) (by assumption) ?rest112
          case hi112 => (simp only [gA, gB, gC]; rfl)
          case hQ112 => exact fun _ _ _ h => h
          case hw112 => rfl
          case hy112 => (intro w hSw; (try dsimp only at hSw); go_simp; try with_reducible rfl)
          (try simp only [Act.put, sA, sB, sC])
          refine wpAnyH_ready (rs := [5]) (by kernel_rfl) (by simp) ?_
          refine AllReadyH.cons (o := ?o113) ?ho113 (fun K hK => ?st113) AllReadyH.nil
          case ho113 => (simp only [gA, gB, gC]; rfl)
          go_simp
          refine (H1.out _ hHeld.1.1).mono ?_; rintro e w2 ⟨rfl, hb2⟩
          exact ⟨rfl, (if_neg HZ1.out).symm, ((HTB.out.below (Below.refl _ _).drew).below hb2).1⟩
    · rw [if_pos rfl]
      have HBB := Lib.hid hb
      clear hb
      have htb : TB w FA fn FC VA vn VC 11 (some ad) n c nm v (((w.alloc (.cells #[.slice FA fn FC, .slice VA vn VC] 103)).alloc (.cells #[.int .i64 11, .slice (some ad) n c, .string nm, .int .i64 v.k, .int .i64 v.i, .bool v.b, .string v.s, .float .f64 v.n] 58)).alloc (.cells #[.int .i64 0, .int .i64 0, .bool false, .string { data := #[] }, .float .f64 0] 53)) := TB_new w FA fn FC VA vn VC 11 (some ad) n c nm v
      have HHELD := Lib.hid (fun W (hb : TB w FA fn FC VA vn VC 11 (some ad) n c nm v W) => (show THeld w FA fn FC VA vn VC ad n c p0 A0 n0 c0 m0 y0 W from let q := hq0 W hb.1; ⟨hb.2.2.1, hb.2.2.2.1, hb.2.2.2.2.1.2.1, q.1, q.2.1, q.2.2.1, q.2.2.2.1, q.2.2.2.2.1, q.2.2.2.2.2.1, q.2.2.2.2.2.2.1, q.2.2.2.2.2.2.2⟩))
      clear hq0
      have HKP := Lib.hid (fun (W W' : World) (h : TB w FA fn FC VA vn VC 11 (some ad) n c nm v W ∧ THeld w FA fn FC VA vn VC ad n c p0 A0 n0 c0 m0 y0 W) (hb : Below W.heap.size W W') => And.intro (h.1.below hb) (HHELD.out _ (h.1.below hb)))
      have HKS := Lib.hid (fun (W : World) (b : Nat) (u0 u1 u2 u3 u4 : Value) (hge : w.heap.size + 3 ≤ b) (h : TB w FA fn FC VA vn VC 11 (some ad) n c nm v W ∧ THeld w FA fn FC VA vn VC ad n c p0 A0 n0 c0 m0 y0 W) => let hb := below_set5 (Below.refl (w.heap.size + 3) W) hge u0 u1 u2 u3 u4; And.intro (h.1.below3 hb) (HHELD.out _ (h.1.below3 hb)))
      go_enter Tryz.func117, Tryz.ntmps117
      go_upto_region 6 with fail
      generalize ((w.alloc (.cells #[.slice FA fn FC, .slice VA vn VC] 103)).alloc (.cells #[.int .i64 11, .slice (some ad) n c, .string nm, .int .i64 v.k, .int .i64 v.i, .bool v.b, .string v.s, .float .f64 v.n] 58)).alloc (.cells #[.int .i64 0, .int .i64 0, .bool false, .string { data := #[] }, .float .f64 0] 53) = wb at *
      go_cut [5] from 23 to 28 (fun s5 wx => ∃ b, s5 = .pointer (some ⟨b, 0, none⟩) ∧ w.heap.size + 3 ≤ b ∧ TB w FA fn FC VA vn VC 11 (some ad) n c nm v wx ∧ Bx wx b r1)
      case first =>
        have hS0 : TB w FA fn FC VA vn VC 11 (some ad) n c nm v wb.drew ∧ THeld w FA fn FC VA vn VC ad n c p0 A0 n0 c0 m0 y0 wb.drew := ⟨htb.below (Below.refl _ _).drew, HHELD.out _ (htb.below (Below.refl _ _).drew)⟩
        refine wp_region_held_drew (S := (fun W => TB w FA fn FC VA vn VC 11 (some ad) n c nm v W ∧ THeld w FA fn FC VA vn VC ad n c p0 A0 n0 c0 m0 y0 W)) (by kernel_rfl) (hS0) (fun hHeld => ?_)
        refine wpAnyH_take (i := 0) (oi := ?oi125) (v := ?v125) ?hi125 (by kernel_rfl) (by kernel_rfl) (by kernel_rfl) ?hQ125 (Or.inl ⟨?hw125, ?hy125⟩) (by assumption) ?rest125
        case hi125 => (simp only [gA, gB, gC]; rfl)
        case hQ125 => exact fun _ _ _ h => h
        case hw125 => rfl
        case hy125 => (intro w hSw; (try dsimp only at hSw); go_simp; try with_reducible rfl)
        (try simp only [Act.put, sA, sB, sC])
        refine wpAnyH_take (i := 1) (oi := ?oi126) (v := ?v126) ?hi126 (by kernel_rfl) (by kernel_rfl) (by kernel_rfl) ?hQ126 (Or.inl ⟨?hw126, ?hy126⟩) (by assumption) ?rest126
        case hi126 => (simp only [gA, gB, gC]; rfl)
        case hQ126 => exact fun _ _ _ h => h
        case hw126 => rfl
        case hy126 => (intro w hSw; (try dsimp only at hSw); go_simp; try with_reducible rfl)
        (try simp only [Act.put, sA, sB, sC])
        refine wpAnyH_take (i := 2) (oi := ?oi127) (v := ?v127) ?hi127 (by kernel_rfl) (by kernel_rfl) (by kernel_rfl) ?hQ127 (Or.inl ⟨?hw127, ?hy127⟩) (by assumption) ?rest127
        case hi127 => (simp only [gA, gB, gC]; rfl)
        case hQ127 => exact fun _ _ _ h => h
        case hw127 => rfl
        case hy127 => (intro w hSw; (try dsimp only at hSw); go_simp; try with_reducible rfl)
        (try simp only [Act.put, sA, sB, sC])
        refine wpAnyH_take (i := 3) (oi := ?oi128) (v := ?v128) ?hi128 (by kernel_rfl) (by kernel_rfl) (by kernel_rfl) ?hQ128 (Or.inl ⟨?hw128, ?hy128⟩) (by assumption) ?rest128
        case hi128 => (simp only [gA, gB, gC]; rfl)
        case hQ128 => exact fun _ _ _ h => h
        case hw128 => rfl
        case hy128 => (intro w hSw; (try dsimp only at hSw); go_simp; try with_reducible rfl)
        (try simp only [Act.put, sA, sB, sC])
        refine wpAnyH_take (i := 4) (oi := ?oi129) (v := ?v129) ?hi129 (by kernel_rfl) (by kernel_rfl) (by kernel_rfl) ?hQ129 (Or.inl ⟨?hw129, ?hy129⟩) (by assumption) ?rest129
        case hi129 => (simp only [gA, gB, gC]; rfl)
        case hQ129 => exact fun _ _ _ h => h
        case hw129 => rfl
        case hy129 => (intro w hSw; (try dsimp only at hSw); go_simp; try with_reducible rfl)
        (try simp only [Act.put, sA, sB, sC])
        refine wpAnyH_ready (rs := [5, 6]) (by kernel_rfl) (by simp) ?_
        refine AllReadyH.cons (o := ?o130) ?ho130 (fun K hK => ?st130) (AllReadyH.cons (o := ?o131) ?ho131 (fun K hK => ?st131) AllReadyH.nil)
        case ho130 => (simp only [gA, gB, gC]; rfl)
        case ho131 => (simp only [gA, gB, gC]; rfl)
        · go_simp
          refine (H0.out _ (And.left (And.left hHeld))).mono ?_; rintro e wA ⟨rfl, hbA⟩; have hSA := HKP.out _ _ hHeld hbA
          refine hK.out _ _ ?_ (fun hHeld => ?_)
          · (try dsimp only); exact hSA
          clear hK K
          (try simp only [Act.put, sA, sB, sC])
          refine wpAnyH_ready (rs := [6]) (by kernel_rfl) (by simp) ?_
          refine AllReadyH.cons (o := ?o132) ?ho132 (fun K hK => ?st132) AllReadyH.nil
          case ho132 => (simp only [gA, gB, gC]; rfl)
          go_simp
          refine hK.out _ _ ?_ (fun hHeld => ?_)
          · (try dsimp only); exact HKP.out _ _ hSA (alloc1 _ _)
          clear hK K
          (try simp only [Act.put, sA, sB, sC])
          refine wpAnyH_ready (rs := [7]) (by kernel_rfl) (by simp) ?_
          refine AllReadyH.cons (o := ?o133) ?ho133 (fun K hK => ?st133) AllReadyH.nil
          case ho133 => (simp only [gA, gB, gC]; rfl)
          go_simp
          refine hK.out _ _ ?_ (fun hHeld => ?_)
          · (try dsimp only); exact HKP.out _ _ hSA (alloc1 _ _)
          clear hK K
          (try simp only [Act.put, sA, sB, sC])
          refine wpAnyH_done (by kernel_rfl) ?_ _
          go_wp2_with fail
          go_meet
          exact ⟨_, rfl, hSA.1.2.1, hHeld.1, Bx.new _ r1⟩
        · go_simp
          refine hK.out _ _ ?_ (fun hHeld => ?_)
          · (try dsimp only); exact HKP.out _ _ hS0 (alloc1 _ _)
          clear hK K
          (try simp only [Act.put, sA, sB, sC])
          refine wpAnyH_ready (rs := [5]) (by kernel_rfl) (by simp) ?_
          refine AllReadyH.cons (o := ?o134) ?ho134 (fun K hK => ?st134) AllReadyH.nil
          case ho134 => (simp only [gA, gB, gC]; rfl)
          go_simp
          refine (H0.out _ (And.left (And.left hHeld))).mono ?_; rintro e wA ⟨rfl, hbA⟩; have hSA := HKP.out _ _ hHeld hbA; obtain ⟨e0, e1, e2, e3, e4, ef⟩ := newcells hbA
          refine hK.out _ _ ?_ (fun hHeld => ?_)
          · (try dsimp only); exact hSA
          clear hK K
          (try simp only [Act.put, sA, sB, sC])
          refine wpAnyH_ready (rs := [7]) (by kernel_rfl) (by simp) ?_
          refine AllReadyH.cons (o := ?o135) ?ho135 (fun K hK => ?st135) AllReadyH.nil
          case ho135 => (simp only [gA, gB, gC]; rfl)
          go_simp
          refine hK.out _ _ ?_ (fun hHeld => ?_)
          · (try dsimp only); exact HKS.out _ _ _ _ _ _ _ htb.2.1 hSA
          clear hK K
          (try simp only [Act.put, sA, sB, sC])
          refine wpAnyH_done (by kernel_rfl) ?_ _
          go_wp2_with fail
          go_meet
          exact ⟨_, rfl, htb.2.1, hHeld.1, bx_set e0 e1 e2 e3 e4⟩
      case rest =>
        clear htb HHELD HKP HKS
        obtain ⟨b, rfl, hbge, hTB, hx0, hx1, hx2, hx3, hx4⟩ := hcut
        obtain ⟨d0, d1, d2, d3, d4, d5, d6, d7⟩ := hTB.2.2.2.2.1
        have g0 := hTB.2.2.1
        have g1 := hTB.2.2.2.1
        have hb := HBB.out
        rw [hb] at hx2
        clear hb
        obtain ⟨ou0, ou1, ou2, ou3, ou4, ov0, ov1, ov2, ov3, ov4, ovf⟩ := TB.out hTB
        go_wp2_with fail
        exact bodyPost_ret (v := agV r1) (by simp [results, Tryz.results117, go_sem, HBB.out, ov0, ov1, ov2, ov3, ov4]) rfl ⟨rfl, TB.done hTB _ _ _ _ _⟩
  · have h0 := fun W hb => (H0.out W hb).mono (fun e w' h => (⟨h.1.trans (if_neg hz), h.2⟩ : e = .panicked (PV r2) ∧ Below W.heap.size W w'))
    clear H0
    have H0 := Lib.hid h0
    have HZ := Lib.hid hz
    rw [if_pos hz]
    clear h0 hv0 hz
    have htb : TB w FA fn FC VA vn VC 11 (some ad) n c nm v (((w.alloc (.cells #[.slice FA fn FC, .slice VA vn VC] 103)).alloc (.cells #[.int .i64 11, .slice (some ad) n c, .string nm, .int .i64 v.k, .int .i64 v.i, .bool v.b, .string v.s, .float .f64 v.n] 58)).alloc (.cells #[.int .i64 0, .int .i64 0, .bool false, .string { data := #[] }, .float .f64 0] 53)) := TB_new w FA fn FC VA vn VC 11 (some ad) n c nm v
    have HHELD := Lib.hid (fun W (hb : TB w FA fn FC VA vn VC 11 (some ad) n c nm v W) => (show THeld w FA fn FC VA vn VC ad n c p0 A0 n0 c0 m0 y0 W from let q := hq0 W hb.1; ⟨hb.2.2.1, hb.2.2.2.1, hb.2.2.2.2.1.2.1, q.1, q.2.1, q.2.2.1, q.2.2.2.1, q.2.2.2.2.1, q.2.2.2.2.2.1, q.2.2.2.2.2.2.1, q.2.2.2.2.2.2.2⟩))
    clear hq0
    have HKP := Lib.hid (fun (W W' : World) (h : TB w FA fn FC VA vn VC 11 (some ad) n c nm v W ∧ THeld w FA fn FC VA vn VC ad n c p0 A0 n0 c0 m0 y0 W) (hb : Below W.heap.size W W') => And.intro (h.1.below hb) (HHELD.out _ (h.1.below hb)))
    have HKS := Lib.hid (fun (W : World) (b : Nat) (u0 u1 u2 u3 u4 : Value) (hge : w.heap.size + 3 ≤ b) (h : TB w FA fn FC VA vn VC 11 (some ad) n c nm v W ∧ THeld w FA fn FC VA vn VC ad n c p0 A0 n0 c0 m0 y0 W) => let hb := below_set5 (Below.refl (w.heap.size + 3) W) hge u0 u1 u2 u3 u4; And.intro (h.1.below3 hb) (HHELD.out _ (h.1.below3 hb)))
    go_enter Tryz.func117, Tryz.ntmps117
    go_upto_region 6 with fail
    generalize ((w.alloc (.cells #[.slice FA fn FC, .slice VA vn VC] 103)).alloc (.cells #[.int .i64 11, .slice (some ad) n c, .string nm, .int .i64 v.k, .int .i64 v.i, .bool v.b, .string v.s, .float .f64 v.n] 58)).alloc (.cells #[.int .i64 0, .int .i64 0, .bool false, .string { data := #[] }, .float .f64 0] 53) = wb at *
    have hS0 : TB w FA fn FC VA vn VC 11 (some ad) n c nm v wb.drew ∧ THeld w FA fn FC VA vn VC ad n c p0 A0 n0 c0 m0 y0 wb.drew := ⟨htb.below (Below.refl _ _).drew, HHELD.out _ (htb.below (Below.refl _ _).drew)⟩
    refine wp_region_held_drew (S := (fun W => TB w FA fn FC VA vn VC 11 (some ad) n c nm v W ∧ THeld w FA fn FC VA vn VC ad n c p0 A0 n0 c0 m0 y0 W)) (by kernel_rfl) (hS0) (fun hHeld => ?_)
    refine wpAnyH_take (i := 0) (oi := ?oi136) (v := ?v136) ?hi136 (by kernel_rfl) (by kernel_rfl) (by kernel_rfl) ?hQ136 (Or.inl ⟨?hw136, ?hy136⟩) (by assumption) ?rest136
    case hi136 => (simp only [gA, gB, gC]; rfl)
    case hQ136 => exact fun _ _ _ h => h
    case hw136 => rfl
    case hy136 => (intro w hSw; (try dsimp only at hSw); go_simp; try with_reducible rfl)
    (try simp only [Act.put, sA, sB, sC])
    refine wpAnyH_take (i := 1) (oi := ?oi137) (v := ?v137) ?hi137 (by kernel_rfl) (by kernel_rfl) (by kernel_rfl) ?hQ137 (Or.inl ⟨?hw137, ?hy137⟩) (by assumption) ?rest137
    case hi137 => (simp only [gA, gB, gC]; rfl)
    case hQ137 => exact fun _ _ _ h => h
    case hw137 => rfl
    case hy137 => (intro w hSw; (try dsimp only at hSw); go_simp; try with_reducible rfl)
    (try simp only [Act.put, sA, sB, sC])
    refine wpAnyH_take (i := 2) (oi := ?oi138) (v := ?v138) ?hi138 (by kernel_rfl) (by kernel_rfl) (by kernel_rfl) ?hQ138 (Or.inl ⟨?hw138, ?hy138⟩) (by assumption) ?rest138
    case hi138 => (simp only [gA, gB, gC]; rfl)
    case hQ138 => exact fun _ _ _ h => h
    case hw138 => rfl
    case hy138 => (intro w hSw; (try dsimp only at hSw); go_simp; try with_reducible rfl)
    (try simp only [Act.put, sA, sB, sC])
    refine wpAnyH_take (i := 3) (oi := ?oi139) (v := ?v139) ?hi139 (by kernel_rfl) (by kernel_rfl) (by kernel_rfl) ?hQ139 (Or.inl ⟨?hw139, ?hy139⟩) (by assumption) ?rest139
    case hi139 => (simp only [gA, gB, gC]; rfl)
    case hQ139 => exact fun _ _ _ h => h
    case hw139 => rfl
    case hy139 => (intro w hSw; (try dsimp only at hSw); go_simp; try with_reducible rfl)
    (try simp only [Act.put, sA, sB, sC])
    refine wpAnyH_take (i := 4) (oi := ?oi140) (v := ?v140) ?hi140 (by kernel_rfl) (by kernel_rfl) (by kernel_rfl) ?hQ140 (Or.inl ⟨?hw140, ?hy140⟩) (by assumption) ?rest140
    case hi140 => (simp only [gA, gB, gC]; rfl)
    case hQ140 => exact fun _ _ _ h => h
    case hw140 => rfl
    case hy140 => (intro w hSw; (try dsimp only at hSw); go_simp; try with_reducible rfl)
    (try simp only [Act.put, sA, sB, sC])
    refine wpAnyH_ready (rs := [5, 6]) (by kernel_rfl) (by simp) ?_
    refine AllReadyH.cons (o := ?o141) ?ho141 (fun K hK => ?st141) (AllReadyH.cons (o := ?o142) ?ho142 (fun K hK => ?st142) AllReadyH.nil)
    case ho141 => (simp only [gA, gB, gC]; rfl)
    case ho142 => (simp only [gA, gB, gC]; rfl)
    · go_simp
      refine (H0.out _ (And.left (And.left hHeld))).mono ?_; rintro e wA ⟨rfl, hbA⟩
      exact ⟨rfl, (if_neg HZ.out).symm, (And.left (And.left hHeld)).trans (hbA.mono (And.left (And.left hHeld)).size)⟩
    · go_simp
      refine hK.out _ _ ?_ (fun hHeld => ?_)
      · (try dsimp only); exact HKP.out _ _ hS0 (alloc1 _ _)
      clear hK K
      (try simp only [Act.put, sA, sB, sC])
      refine wpAnyH_ready (rs := [5]) (by kernel_rfl) (by simp) ?_
      refine AllReadyH.cons (o := ?o143) ?ho143 (fun K hK => ?st143) AllReadyH.nil
      case ho143 => (simp only [gA, gB, gC]; rfl)
      go_simp
      refine (H0.out _ (And.left (And.left hHeld))).mono ?_; rintro e wA ⟨rfl, hbA⟩
      exact ⟨rfl, (if_neg HZ.out).symm, (And.left (And.left hHeld)).trans (hbA.mono (And.left (And.left hHeld)).size)⟩
end Go.Proofs.YthgdnpcfdgimlabGreat

/- Layer 5: what an expression tells, by the program. -/
namespace Go.Proofs.YthgdnpcfdgimlabGreat
open Go.RowKit
set_option linter.unusedVariables false
set_option linter.unusedSimpArgs false
set_option maxRecDepth 20000

theorem alike_of {a b : Vl} (ha : goodV a = true) (hb : goodV b = true) (h : a.k = b.k) : alikeV a b = true := by
  unfold alikeV; rw [ha, hb, h, beq_self_eq_true]; rfl
theorem snd_ok {r : Vl × Int} {k : Int} (h : Snd r k) (h0 : r.2 = 0) : goodV r.1 = true ∧ okV r.1 ∧ r.1.k = k := by
  rcases h with ⟨_, h1, h2, h3⟩ | ⟨h1, _⟩
  · exact ⟨h1, h2, h3⟩
  · omega
/-- kid j of a row -/
theorem kid_at {w : World} {D : Nat} {A : Option Addr} {c : Nat} {e : Ex} (h : ExK w (D + 1) A c e) (j : Nat) (hj : j < e.kids.length) : ∃ ad A' c', A = some ad ∧ (∀ W, Below w.heap.size w W → Kid W (ad.add (j * 8)) e.kids[j].op A' e.kids[j].kids.length c' e.kids[j].name e.kids[j].val) ∧ ExK w D A' c' e.kids[j] := by
  obtain ⟨-, -, -, h4⟩ := h
  obtain ⟨ad, A', c', h5, h6, h7, h8⟩ := h4 j hj
  exact ⟨ad, A', c', h5, fun W hb => h7.below hb (by rw [block_add]; exact h6), h8⟩
theorem tell_any (FA : Option Addr) (FC : Nat) (fs : List Fd) (VA : Option Addr) (VC : Nat) (vs : List Vl) (hfit : fitX fs vs = true) (hvs : ∀ v ∈ vs, okV v) : ∀ (D d : Nat) (e : Ex) (A : Option Addr) (c : Nat) (k : Int) (w : World), ExK w D A c e → FdK w FA FC fs → VlK w VA VC vs → okX d e → deepX d e → chkX d e fs = (k, 0) →
    Calls Tryz.prog 117 #[agR FA fs.length FC VA vs.length VC, agX e.op A e.kids.length c e.name e.val] w (TellP (evX d e fs vs) w)
  | 0, _, _, _, _, _, _, h, _, _, _, _, _ => False.elim h
  | D + 1, 0, _, _, _, _, _, _, _, _, _, h, _ => False.elim h
  | D + 1, d + 1, e, A, c, k, w, hx, hfd, hvl, hok, hdeep, h => by
    obtain ⟨h1, h2⟩ := chkX_ok h
    have hform := (kindX_form h1).1
    have isnd : ∀ x ∈ e.kids, Snd (evX d x fs vs) (chkX d x fs).1 := fun x hx => ev_sound fs vs hfit hvs d x _ (hok.2.2 x hx) (hdeep x hx) (pair_of (h2 x hx))
    have ih : ∀ (x : Ex) (A' : Option Addr) (c' : Nat), x ∈ e.kids → ExK w D A' c' x → ∀ W, Below w.heap.size w W → Calls Tryz.prog 117 #[agR FA fs.length FC VA vs.length VC, agX x.op A' x.kids.length c' x.name x.val] W (TellP (evX d x fs vs) W) :=
      fun x A' c' hm hk W hb => tell_any FA FC fs VA VC vs hfit hvs D d x A' c' _ W (hk.below hb (Nat.le_refl _)) (hfd.below hb (Nat.le_refl _)) (hvl.below hb (Nat.le_refl _)) (hok.2.2 x hm) (hdeep x hm) (pair_of (h2 x hm))
    have hk := kindX_kinds h1
    have hat := fun j hj => kid_at hx j hj
    have hokv := hok.1
    clear h h1 h2 hdeep hok
    rcases hk with ⟨o, g, rfl⟩ | ⟨o, g, rfl⟩ | ⟨o, g, rfl⟩ | ⟨o, g, rfl⟩ | ⟨o, g, rfl⟩ | ⟨o, g1, g2, rfl⟩ | ⟨o, g, rfl⟩ | ⟨o, g, g1, rfl⟩ | ⟨o, g1, g2, rfl⟩ | ⟨o, g, g1, rfl⟩
    · rw [evX, if_pos o, o]
      exact tell_1 FA fs.length FC VA vs.length VC A e.kids.length c e.name e.val w
    · rw [evX, if_neg (by omega), if_pos o, o]
      obtain ⟨j, hj, hl⟩ := findX_at e.name fs 0 g
      rw [Nat.zero_add] at hj
      have hjj : (findX e.name fs 0).toNat = j := by omega
      rw [hjj]
      obtain ⟨v, e1, e2, e3⟩ := fit_at hfit j hl
      obtain ⟨hjv, e4⟩ := List.getElem?_eq_some_iff.1 e1
      obtain ⟨vad, e5, e6, e7⟩ := hvl.2.2.2 j hjv
      subst e5
      rw [e4] at e7
      rw [e1]
      exact tell_2 FA fs.length FC vad vs.length VC A e.kids.length c e.name e.val v w j _ rfl hjv (fun W hb => by rw [← hj]; exact place_any e.name FA FC fs W (hfd.below hb (Nat.le_refl _))) (fun W hb => e7.below hb (by rw [block_add]; exact e6))
    · obtain ⟨a, ha⟩ := kids_one (l := e.kids) (by rw [kidsN_1 (Or.inl o)] at hform; omega)
      rw [evX_one ha (Or.inl o), o]
      simp only [ha] at hat isnd ih g ⊢
      obtain ⟨ad, A0, c0, rfl, q0, x0⟩ := hat 0 (by simp)
      simp only [List.getElem_cons_zero, Nat.zero_mul, Addr.add_zero'] at q0 x0
      have s0 := isnd a (List.mem_cons_self ..)
      exact tell_3 FA fs.length FC VA vs.length VC ad 1 c e.name e.val w A0 _ c0 _ _ _ (evX d a fs vs) q0 (ih a A0 c0 (List.mem_cons_self ..) x0) (fun h0 => (snd_ok s0 h0).2.1) (by omega) (fun h0 W => Neg_any _ W (snd_ok s0 h0).2.1.2.1)
    · obtain ⟨a, ha⟩ := kids_one (l := e.kids) (by rw [kidsN_1 (Or.inr (Or.inr o))] at hform; omega)
      rw [evX_one ha (Or.inr (Or.inl o)), o]
      simp only [ha] at hat isnd ih g ⊢
      obtain ⟨ad, A0, c0, rfl, q0, x0⟩ := hat 0 (by simp)
      simp only [List.getElem_cons_zero, Nat.zero_mul, Addr.add_zero'] at q0 x0
      have s0 := isnd a (List.mem_cons_self ..)
      exact tell_16 FA fs.length FC VA vs.length VC ad 1 c e.name e.val w A0 _ c0 _ _ _ (evX d a fs vs) q0 (ih a A0 c0 (List.mem_cons_self ..) x0) (fun h0 => (snd_ok s0 h0).2.1) (by omega) (fun h0 W => Float_any _ W)
    · obtain ⟨a, ha⟩ := kids_one (l := e.kids) (by rw [kidsN_1 (Or.inr (Or.inl o))] at hform; omega)
      rw [evX_one ha (Or.inr (Or.inr o)), o]
      simp only [ha] at hat isnd ih g ⊢
      obtain ⟨ad, A0, c0, rfl, q0, x0⟩ := hat 0 (by simp)
      simp only [List.getElem_cons_zero, Nat.zero_mul, Addr.add_zero'] at q0 x0
      have s0 := isnd a (List.mem_cons_self ..)
      exact tell_12 FA fs.length FC VA vs.length VC ad 1 c e.name e.val w A0 _ c0 _ _ _ (evX d a fs vs) q0 (ih a A0 c0 (List.mem_cons_self ..) x0) (fun h0 => (snd_ok s0 h0).2.1) (by omega)
    · obtain ⟨a, b, ha⟩ := kids_two (l := e.kids) (by rw [kidsN_2 (by omega)] at hform; omega)
      rw [evX_lazy ha o]
      simp only [ha] at hat isnd ih ⊢
      obtain ⟨ad, A0, c0, rfl, q0, x0⟩ := hat 0 (by simp)
      obtain ⟨ad', A1, c1, hae, q1, x1⟩ := hat 1 (by simp)
      injection hae with hae; subst hae
      simp only [List.getElem_cons_zero, List.getElem_cons_succ, Nat.zero_mul, Nat.one_mul, Addr.add_zero', Addr.add_succ'] at q0 x0 q1 x1
      have s0 := isnd a (List.mem_cons_self ..)
      have s1 := isnd b (by simp)
      rcases o with o | o
      · rw [o]
        exact tell_10 FA fs.length FC VA vs.length VC ad 2 c e.name e.val w A0 _ c0 _ _ _ (evX d a fs vs) q0 (ih a A0 c0 (List.mem_cons_self ..) x0) (fun h0 => (snd_ok s0 h0).2.1) A1 _ c1 _ _ _ (evX d b fs vs) q1 (ih b A1 c1 (by simp) x1) (fun h0 => (snd_ok s1 h0).2.1) (by omega)
      · rw [o]
        exact tell_11 FA fs.length FC VA vs.length VC ad 2 c e.name e.val w A0 _ c0 _ _ _ (evX d a fs vs) q0 (ih a A0 c0 (List.mem_cons_self ..) x0) (fun h0 => (snd_ok s0 h0).2.1) A1 _ c1 _ _ _ (evX d b fs vs) q1 (ih b A1 c1 (by simp) x1) (fun h0 => (snd_ok s1 h0).2.1) (by omega)
    · obtain ⟨a, b, ha⟩ := kids_two (l := e.kids) (by rw [kidsN_2 (by omega)] at hform; omega)
      rw [evX_two ha (by omega)]
      simp only [ha] at hat isnd ih g ⊢
      obtain ⟨ad, A0, c0, rfl, q0, x0⟩ := hat 0 (by simp)
      obtain ⟨ad', A1, c1, hae, q1, x1⟩ := hat 1 (by simp)
      injection hae with hae; subst hae
      simp only [List.getElem_cons_zero, List.getElem_cons_succ, Nat.zero_mul, Nat.one_mul, Addr.add_zero', Addr.add_succ'] at q0 x0 q1 x1
      have s0 := isnd a (List.mem_cons_self ..)
      have s1 := isnd b (by simp)
      simp only [List.map_cons, List.map_nil, List.getD_cons_zero, List.getD_cons_succ] at g
      exact tell_two FA fs.length FC VA vs.length VC ad 2 c e.name e.val w e.op A0 _ c0 _ _ _ (evX d a fs vs) q0 (ih a A0 c0 (List.mem_cons_self ..) x0) (fun h0 => (snd_ok s0 h0).2.1) A1 _ c1 _ _ _ (evX d b fs vs) q1 (ih b A1 c1 (by simp) x1) (fun h0 => (snd_ok s1 h0).2.1) (by omega) (by omega) (by omega) (by omega) (by omega) (by omega) (by omega) (by omega) (by omega)
        (fun h0 h1 W => pair_any e.op _ _ W (snd_ok s0 h0).2.1 (snd_ok s1 h1).2.1 (fun h8 => by unfold eqV; rw [if_pos (alike_of (snd_ok s0 h0).1 (snd_ok s1 h1).1 (by rw [(snd_ok s0 h0).2.2, (snd_ok s1 h1).2.2]; exact g))]) (fun h9 => absurd (o.symm.trans h9) (by decide)))
    · obtain ⟨a, b, ha⟩ := kids_two (l := e.kids) (by rw [kidsN_2 (by omega)] at hform; omega)
      rw [evX_two ha (by omega)]
      simp only [ha] at hat isnd ih g g1 ⊢
      obtain ⟨ad, A0, c0, rfl, q0, x0⟩ := hat 0 (by simp)
      obtain ⟨ad', A1, c1, hae, q1, x1⟩ := hat 1 (by simp)
      injection hae with hae; subst hae
      simp only [List.getElem_cons_zero, List.getElem_cons_succ, Nat.zero_mul, Nat.one_mul, Addr.add_zero', Addr.add_succ'] at q0 x0 q1 x1
      have s0 := isnd a (List.mem_cons_self ..)
      have s1 := isnd b (by simp)
      simp only [List.map_cons, List.map_nil, List.getD_cons_zero, List.getD_cons_succ] at g g1
      exact tell_two FA fs.length FC VA vs.length VC ad 2 c e.name e.val w e.op A0 _ c0 _ _ _ (evX d a fs vs) q0 (ih a A0 c0 (List.mem_cons_self ..) x0) (fun h0 => (snd_ok s0 h0).2.1) A1 _ c1 _ _ _ (evX d b fs vs) q1 (ih b A1 c1 (by simp) x1) (fun h0 => (snd_ok s1 h0).2.1) (by omega) (by omega) (by omega) (by omega) (by omega) (by omega) (by omega) (by omega) (by omega)
        (fun h0 h1 W => pair_any e.op _ _ W (snd_ok s0 h0).2.1 (snd_ok s1 h1).2.1 (fun h8 => absurd (o.symm.trans h8) (by decide)) (fun h9 => by unfold ltV; rw [(alike_of (snd_ok s0 h0).1 (snd_ok s1 h1).1 (by rw [(snd_ok s0 h0).2.2, (snd_ok s1 h1).2.2]; exact g)), show ((evX d a fs vs).1.k == 2) = false from by rw [(snd_ok s0 h0).2.2]; rcases g1 with h | h | h <;> rw [h] <;> rfl]; rfl))
    · obtain ⟨a, b, c', ha⟩ := kids_three (l := e.kids) (by rw [kidsN_3 o] at hform; omega)
      rw [evX_if ha o, o]
      simp only [ha] at hat isnd ih ⊢
      obtain ⟨ad, A0, c0, rfl, q0, x0⟩ := hat 0 (by simp)
      obtain ⟨ad', A1, c1, hae, q1, x1⟩ := hat 1 (by simp)
      injection hae with hae; subst hae
      obtain ⟨ad', A2, c2, hae, q2, x2⟩ := hat 2 (by simp)
      injection hae with hae; subst hae
      simp only [List.getElem_cons_zero, List.getElem_cons_succ, Nat.zero_mul, Nat.one_mul, Addr.add_zero', Addr.add_succ', show (2 * 8 : Nat) = 15 + 1 from rfl] at q0 x0 q1 x1 q2 x2
      have s0 := isnd a (List.mem_cons_self ..)
      have s1 := isnd b (by simp)
      have s2 := isnd c' (by simp)
      exact tell_13 FA fs.length FC VA vs.length VC ad 3 c e.name e.val w A0 _ c0 _ _ _ (evX d a fs vs) q0 (ih a A0 c0 (List.mem_cons_self ..) x0) (fun h0 => (snd_ok s0 h0).2.1) A1 _ c1 _ _ _ (evX d b fs vs) q1 (ih b A1 c1 (by simp) x1) (fun h0 => (snd_ok s1 h0).2.1) A2 _ c2 _ _ _ (evX d c' fs vs) q2 (ih c' A2 c2 (by simp) x2) (fun h0 => (snd_ok s2 h0).2.1) (by omega)
    · have og := o
      obtain ⟨a, b, ha⟩ := kids_two (l := e.kids) (by rw [kidsN_2 (by have := (opsB_iff e.op).1 og; omega)] at hform; omega)
      rw [evX_two ha (by have := (opsB_iff e.op).1 og; omega)]
      simp only [ha] at hat isnd ih g ⊢
      obtain ⟨ad, A0, c0, rfl, q0, x0⟩ := hat 0 (by simp)
      obtain ⟨ad', A1, c1, hae, q1, x1⟩ := hat 1 (by simp)
      injection hae with hae; subst hae
      simp only [List.getElem_cons_zero, List.getElem_cons_succ, Nat.zero_mul, Nat.one_mul, Addr.add_zero', Addr.add_succ'] at q0 x0 q1 x1
      have s0 := isnd a (List.mem_cons_self ..)
      have s1 := isnd b (by simp)
      simp only [List.map_cons, List.map_nil, List.getD_cons_zero, List.getD_cons_succ] at g
      exact tell_two FA fs.length FC VA vs.length VC ad 2 c e.name e.val w e.op A0 _ c0 _ _ _ (evX d a fs vs) q0 (ih a A0 c0 (List.mem_cons_self ..) x0) (fun h0 => (snd_ok s0 h0).2.1) A1 _ c1 _ _ _ (evX d b fs vs) q1 (ih b A1 c1 (by simp) x1) (fun h0 => (snd_ok s1 h0).2.1) (by omega) (by have := (opsB_iff e.op).1 og; omega) (by have := (opsB_iff e.op).1 og; omega) (by have := (opsB_iff e.op).1 og; omega) (by have := (opsB_iff e.op).1 og; omega) (by have := (opsB_iff e.op).1 og; omega) (by have := (opsB_iff e.op).1 og; omega) (by have := (opsB_iff e.op).1 og; omega) (by have := (opsB_iff e.op).1 og; omega)
        (fun h0 h1 W => pair_any e.op _ _ W (snd_ok s0 h0).2.1 (snd_ok s1 h1).2.1 (fun h8 => absurd ((opsB_iff e.op).1 og) (by omega)) (fun h9 => absurd ((opsB_iff e.op).1 og) (by omega)))
end Go.Proofs.YthgdnpcfdgimlabGreat

/- Layer 5: reckoning, and where it gives up, by the program. -/
namespace Go.Proofs.YthgdnpcfdgimlabGreat
open Go.RowKit
set_option linter.unusedVariables false
set_option linter.unusedSimpArgs false
set_option maxRecDepth 20000

/-- 4's float that is answered for whatever NaN -/
def setV (v : Vl) : Vl := if v.k = 4 then (reckV 14 v v).1 else v
theorem reck_self {v : Vl} (h : goodV v = true) (h4 : v.k = 4) : reckV 14 v v = (vNum (numsV 14 v.n v.n), 0) := by
  unfold reckV
  rw [if_pos (show opsB 14 = true from rfl), if_pos (alike_of h h rfl), if_neg (by omega), if_pos h4]
set_option maxHeartbeats 1000000 in
theorem settled_any (v : Vl) (w : World) (hg : goodV v = true) (hok : okV v) : Calls Tryz.prog 116 #[agV v] w (VMk (agV (setV v)) w) := by
  have hsf := fun (w : World) (a : Addr) (m : Mode) (b : Nat) => run_store Tryz.prog w a (.float .f64 b) m rfl
  by_cases h4 : v.k = 4
  · have hr : ∀ W, Calls Tryz.prog 160 #[.int .i64 14, agV v, agV v] W (VMk (pairVE (setV v) 0) W) := fun W => by
      have := Reckon_any 14 v v W hok.2.1 hok.2.1 hok.2.2 hok.2.2
      unfold setV
      rw [if_pos h4]
      rw [reck_self hg h4] at this ⊢
      exact this
    generalize setV v = r at hr ⊢
    have HR := Lib.hid hr
    have hk : (v.k != 4) = false := by simpa using h4
    clear hr h4
    go_enter Tryz.func116, Tryz.ntmps116
    go_wp2_with (first
      | (go_at_call 160; refine (HR.out _).mono ?_; rintro e w1 ⟨rfl, hb1⟩; obtain ⟨hc1, hf1⟩ := bcell hb1; have hz1 : w.heap.size + 1 < w1.heap.size := by { have := hb1.size; simp at this; omega })
      | (go_at_call 159; refine (sure_ok _ _).mono ?_; rintro e w3 ⟨rfl, hb3⟩; obtain ⟨hc3, hf3⟩ := bcell hb3; have hy2 : w.heap.size + 1 < w3.heap.size := by { have := hb3.size; omega }))
    exact bodyPost_ret (v := agV r) (by simp [results, Tryz.results116, go_sem, hc1, hc3, hz1, hy2]) rfl ⟨rfl, vbox2_set w _ _ hb1 hb3 _ _ _ _ _⟩
  · have hr : setV v = v := by unfold setV; rw [if_neg h4]
    rw [hr]
    have hk : (v.k != 4) = true := by simpa using h4
    clear hr h4
    go_enter Tryz.func116, Tryz.ntmps116
    go_wp2
    exact bodyPost_ret (v := agV v) (by simp [results, Tryz.results116, go_sem]) rfl ⟨rfl, vbox2 w _ _⟩

/-- the cells of the two answers -/
def Two7 (w : World) (b : Nat) : Prop := (∃ cs, w.heap[b]? = some (.cells cs 53 (0, 0)) ∧ cs.size = 5) ∧ ∃ x, w.heap[b + 1]? = some (.cells #[x] 28 (0, 0))
theorem Two7.open {w : World} {b : Nat} (h : Two7 w b) : ∃ u0 u1 u2 u3 u4 u5, w.cell? ⟨b, 0, none⟩ = some u0 ∧ w.cell? ⟨b, 1, none⟩ = some u1 ∧ w.cell? ⟨b, 2, none⟩ = some u2 ∧ w.cell? ⟨b, 3, none⟩ = some u3 ∧ w.cell? ⟨b, 4, none⟩ = some u4 ∧ w.cell? ⟨b + 1, 0, none⟩ = some u5 ∧ (∀ j, w.frozen? ⟨b, j, none⟩ = false) ∧ (∀ j, w.frozen? ⟨b + 1, j, none⟩ = false) := by
  obtain ⟨⟨cs, h1, h2⟩, x, h3⟩ := h
  have hat : ∀ (j : Nat) (hj : j < 5), w.cell? ⟨b, j, none⟩ = some (cs[j]'(by omega)) := fun j hj => by
    have := cell_of_row w b j _ _ (0, 0) h1
    rw [this, Array.getElem?_eq_getElem (by omega)]
  exact ⟨_, _, _, _, _, _, hat 0 (by omega), hat 1 (by omega), hat 2 (by omega), hat 3 (by omega), hat 4 (by omega), (cell_of_row w (b + 1) 0 _ _ (0, 0) h3).trans rfl, fun j => by unfold World.frozen?; simp only [h1]; simp, fun j => by unfold World.frozen?; simp only [h3]; simp⟩
theorem set5_off (W : World) (g b o : Nat) (hne : b ≠ g) (u0 u1 u2 u3 u4 : Value) : (((((W.setCell ⟨g, 0, none⟩ u0).setCell ⟨g, 1, none⟩ u1).setCell ⟨g, 2, none⟩ u2).setCell ⟨g, 3, none⟩ u3).setCell ⟨g, 4, none⟩ u4).cell? ⟨b, o, none⟩ = W.cell? ⟨b, o, none⟩ := by
  have hk : ∀ (W : World) (o j : Nat) (u : Value), (W.setCell ⟨g, j, none⟩ u).cell? ⟨b, o, none⟩ = W.cell? ⟨b, o, none⟩ := fun W o j u => World.cell?_setCell_other W (a := ⟨g, j, none⟩) (b := ⟨b, o, none⟩) (v := u) (by intro e; injection e with e _ _; exact hne e.symm)
  simp only [hk]
theorem one_off {W : World} {b : Nat} {r : Vl} (h : Bx W b r) (g : Nat) (hne : b ≠ g) (u : Value) : Bx (W.setCell ⟨g, 0, none⟩ u) b r := by
  have hk : ∀ (o : Nat), (W.setCell ⟨g, 0, none⟩ u).cell? ⟨b, o, none⟩ = W.cell? ⟨b, o, none⟩ := fun o => World.cell?_setCell_other W (a := ⟨g, 0, none⟩) (b := ⟨b, o, none⟩) (v := u) (by intro e; injection e with e _ _; exact hne e.symm)
  unfold Bx
  simp only [hk]
  exact h
theorem Bx.drewn {W : World} {b : Nat} {r : Vl} (h : Bx W b r) : Bx W.drew b r := h
theorem cell_drewn {W : World} {a : Addr} {x : Value} (h : W.cell? a = some x) : W.drew.cell? a = some x := h
set_option maxHeartbeats 400000 in
theorem catch_panicking (b : Nat) (err : Int) (older : List PanicEntry) (w : World) (h : Two7 w b) :
    CallsD Tryz.prog 115 #[.pointer (some ⟨b, 0, none⟩), .pointer (some ⟨b + 1, 0, none⟩)] (.panicking ({ v := .iface 28 (.int .i64 err), recovered := false } :: older)) w fun e u' w' =>
      e = .returned (.tuple #[]) ∧ u' = .panicking ({ v := .iface 28 (.int .i64 err), recovered := true } :: older) ∧ Below b w w' ∧ Bx w' b vZero ∧ w'.cell? ⟨b + 1, 0, none⟩ = some (.int .i64 err) := by
  obtain ⟨u0, u1, u2, u3, u4, u5, c0, c1, c2, c3, c4, c5, f0, f1⟩ := h.open
  have hsf := fun (w : World) (a : Addr) (m : Mode) (b : Nat) => run_store Tryz.prog w a (.float .f64 b) m rfl
  refine callsD_of_wpS Tryz.func115 rfl fun c₀ cs hu => ?_
  apply wpS_seq
  apply wpS_region
  simp [wpOpsS, go_sem, recoverD, hu, Tryz.ntmps115, Exit.thenS]
  refine wpS_of_wp ?_
  go_wp2
  have hta : ∀ w : World, (Instr.typeAssert (.iface 28 (.int .i64 err)) 20 28 false).run Tryz.prog w = .ok (.int .i64 err) w := fun w => by kernel_rfl
  clear hu
  change Code.wp _ _ _ { tmps := #[.pointer (some ⟨b, 0, none⟩), .pointer (some ⟨b + 1, 0, none⟩), .iface 28 (.int .i64 err), .iface 28 (.int .i64 err), .iface 28 (.int .i64 err), .bool true, undef, undef, undef], defers := [] } w
  have hS1 : Below b w w.drew := (Below.refl _ _).drew
  refine wp_region_held_drew (S := (fun W => Below b w W)) (by kernel_rfl) (hS1) (fun hHeld => ?_)
  refine wpAnyH_take (i := 0) (oi := ?oi1) (v := ?v1) ?hi1 (by kernel_rfl) (by kernel_rfl) (by kernel_rfl) ?hQ1 (Or.inl ⟨?hw1, ?hy1⟩) (by assumption) ?rest1
  case hi1 => (simp only [gA, gB, gC]; rfl)
  case hQ1 => exact fun _ _ _ h => h
  case hw1 => rfl
  case hy1 => (intro w hSw; (try dsimp only at hSw); go_simp; try with_reducible rfl)
  (try simp only [Act.put, sA, sB, sC])
  refine wpAnyH_take (i := 1) (oi := ?oi2) (v := ?v2) ?hi2 (by kernel_rfl) (by kernel_rfl) (by kernel_rfl) ?hQ2 (Or.inl ⟨?hw2, ?hy2⟩) (by assumption) ?rest2
  case hi2 => (simp only [gA, gB, gC]; rfl)
  case hQ2 => exact fun _ _ _ h => h
  case hw2 => rfl
  case hy2 => (intro w hSw; (try dsimp only at hSw); go_simp; try with_reducible rfl)
  (try simp only [Act.put, sA, sB, sC])
  refine wpAnyH_take (i := 2) (oi := ?oi3) (v := ?v3) ?hi3 (by kernel_rfl) (by kernel_rfl) (by kernel_rfl) ?hQ3 (Or.inl ⟨?hw3, ?hy3⟩) (by assumption) ?rest3
  case hi3 => (simp only [gA, gB, gC]; rfl)
  case hQ3 => exact fun _ _ _ h => h
  case hw3 => rfl
  case hy3 => (intro w hSw; (try dsimp only at hSw); go_simp; try with_reducible rfl)
  (try simp only [Act.put, sA, sB, sC])
  refine wpAnyH_ready (rs := [3]) (by kernel_rfl) (by simp) ?_
  refine AllReadyH.cons (o := ?o4) ?ho4 (fun K hK => ?st4) AllReadyH.nil
  case ho4 => (simp only [gA, gB, gC]; rfl)
  go_simp
  refine hK.out _ _ ?_ (fun hHeld => ?_)
  · (try dsimp only); exact Below.drew (below_set5 (Below.refl _ _) (Nat.le_refl _) _ _ _ _ _)
  clear hK K
  (try simp only [Act.put, sA, sB, sC])
  refine wpAnyH_ready (rs := [4]) (by kernel_rfl) (by simp) ?_
  refine AllReadyH.cons (o := ?o5) ?ho5 (fun K hK => ?st5) AllReadyH.nil
  case ho5 => (simp only [gA, gB, gC]; rfl)
  go_simp
  refine hK.out _ _ ?_ (fun hHeld => ?_)
  · (try dsimp only); exact Below.drew (Below.setCell (below_set5 (Below.refl _ _) (Nat.le_refl _) _ _ _ _ _) (p := ⟨b + 1, 0, none⟩) (Nat.le_succ b) _)
  clear hK K
  (try simp only [Act.put, sA, sB, sC])
  refine wpAnyH_done (by kernel_rfl) ?_ _
  have hfin1 : Bx (((((w.setCell ⟨b, 0, none⟩ (.int .i64 0)).setCell ⟨b, 1, none⟩ (.int .i64 0)).setCell ⟨b, 2, none⟩ (.bool false)).setCell ⟨b, 3, none⟩ (.string { data := #[] })).setCell ⟨b, 4, none⟩ (.float .f64 0)) b vZero := bx_set (r := vZero) c0 c1 c2 c3 c4
  have hfin2 : (((((w.setCell ⟨b, 0, none⟩ (.int .i64 0)).setCell ⟨b, 1, none⟩ (.int .i64 0)).setCell ⟨b, 2, none⟩ (.bool false)).setCell ⟨b, 3, none⟩ (.string { data := #[] })).setCell ⟨b, 4, none⟩ (.float .f64 0)).cell? ⟨b + 1, 0, none⟩ = some u5 := (set5_off w b (b + 1) 0 (by omega) _ _ _ _ _).trans c5
  have hfin3 := one_off hfin1 (b + 1) (by omega) (.int .i64 err)
  have hfin4 := World.cell?_setCell_same _ ⟨b + 1, 0, none⟩ (.int .i64 err) hfin2
  show bodyPostS _ _ _ _ _ _ _ _ _
  cases c₀
  simp only [bodyPostS]
  exact ⟨trivial, _, rfl, _, by simp [results, Tryz.results115, go_sem], rfl, rfl, hHeld, hfin3.drewn, cell_drewn hfin4⟩
theorem catch_idle (b : Nat) (w : World) :
    CallsD Tryz.prog 115 #[.pointer (some ⟨b, 0, none⟩), .pointer (some ⟨b + 1, 0, none⟩)] .returning w fun e u' w' => e = .returned (.tuple #[]) ∧ u' = .returning ∧ w' = w := by
  refine callsD_of_wpS Tryz.func115 rfl fun c₀ cs hu => ?_
  apply wpS_seq
  apply wpS_region
  simp [wpOpsS, go_sem, recoverD, hu, Tryz.ntmps115, Exit.thenS]
  refine wpS_of_wp ?_
  go_wp2
  cases c₀
  simp_all [bodyPostS, results, Tryz.results115]
end Go.Proofs.YthgdnpcfdgimlabGreat

/- Layer 5: Eval, by the program. -/
namespace Go.Proofs.YthgdnpcfdgimlabGreat
open Go.RowKit
set_option linter.unusedVariables false
set_option linter.unusedSimpArgs false
set_option maxRecDepth 20000

/-- what an answer comes to where reckoning ends -/
def endV (r : Vl × Int) : Vl × Int := if r.2 = 0 then (setV r.1, 0) else (vZero, r.2)
theorem box4 (w : World) (o p q s : Obj) : Below w.heap.size w ((((w.alloc o).alloc p).alloc q).alloc s) := (vbox3 w o p q).alloc (by simp; omega) s
theorem two7_new (w : World) (o p : Obj) : Two7 ((((w.alloc o).alloc p).alloc (.cells #[.int .i64 0, .int .i64 0, .bool false, .string { data := #[] }, .float .f64 0] 53)).alloc (.cells #[.int .i64 0] 28)) (w.heap.size + 1 + 1) := by
  have h1 := heap_alloc_new ((w.alloc o).alloc p) (.cells #[.int .i64 0, .int .i64 0, .bool false, .string { data := #[] }, .float .f64 0] 53)
  have h2 := heap_alloc_new (((w.alloc o).alloc p).alloc (.cells #[.int .i64 0, .int .i64 0, .bool false, .string { data := #[] }, .float .f64 0] 53)) (.cells #[.int .i64 0] 28)
  have e1 : ((w.alloc o).alloc p).heap.size = w.heap.size + 1 + 1 := by simp
  have e2 : (((w.alloc o).alloc p).alloc (.cells #[.int .i64 0, .int .i64 0, .bool false, .string { data := #[] }, .float .f64 0] 53)).heap.size = w.heap.size + 1 + 1 + 1 := by simp
  rw [e1] at h1
  rw [e2] at h2
  exact ⟨⟨_, (Below.heap_alloc _ _ _ (by rw [e2]; omega)).trans h1, rfl⟩, _, h2⟩
theorem Two7.below {w w' : World} {b : Nat} (h : Two7 w b) (hb : Below w.heap.size w w') : Two7 w' b := by
  obtain ⟨⟨cs, h1, h2⟩, x, h3⟩ := h
  exact ⟨⟨cs, (hb.block b (Array.getElem?_eq_some_iff.1 h1).1).trans h1, h2⟩, x, (hb.block _ (Array.getElem?_eq_some_iff.1 h3).1).trans h3⟩
set_option maxHeartbeats 1000000 in
theorem reckon_good (FA : Option Addr) (fn FC : Nat) (VA : Option Addr) (vn VC : Nat) (op : Int) (A : Option Addr) (n c : Nat) (nm : ByteArray) (v : Vl) (w : World) (r : Vl) (hg : goodV r = true) (hok : okV r)
    (ht : ∀ W, Below w.heap.size w W → Calls Tryz.prog 117 #[agR FA fn FC VA vn VC, agX op A n c nm v] W (VMk (agV r) W)) :
    Calls Tryz.prog 66 #[agR FA fn FC VA vn VC, agX op A n c nm v] w (VMk (pairVE (setV r) 0) w) := by
  have hmf : ∀ (fn : Fn) (first cap : Array Value) (w : World), (Instr.makeFunc fn first cap).run Tryz.prog w = .ok (.func fn first cap) w := fun _ _ _ _ => rfl
  have hsf := fun (w : World) (a : Addr) (m : Mode) (b : Nat) => run_store Tryz.prog w a (.float .f64 b) m rfl
  have hse := fun W => settled_any r W hg hok
  generalize setV r = s at hse ⊢
  have HT := Lib.hid ht
  have HS := Lib.hid hse
  clear ht hse hok hg
  have h27 := two7_new w (.cells #[.slice FA fn FC, .slice VA vn VC] 103) (bxX op A n c nm v)
  have H27 := Lib.hid h27
  clear h27
  go_enter_defers Tryz.func66, Tryz.ntmps66
  go_wp2_with (first
    | (go_at_call 117; refine (HT.out _ (box4 w _ _ _ _)).mono ?_; rintro e w1 ⟨rfl, hb1⟩; have h271 := H27.out.below hb1; have H271 := Lib.hid h271; clear h271)
    | (go_at_call 116; refine (HS.out _).mono ?_; rintro e w2 ⟨rfl, hb2⟩; have h272 := H271.out.below hb2; obtain ⟨u0, u1, u2, u3, u4, u5, c0, c1, c2, c3, c4, c5, f0, f1⟩ := h272.open))
  have hfin1 : Bx (((((w2.setCell ⟨w.heap.size + 1 + 1, 0, none⟩ (.int .i64 s.k)).setCell ⟨w.heap.size + 1 + 1, 1, none⟩ (.int .i64 s.i)).setCell ⟨w.heap.size + 1 + 1, 2, none⟩ (.bool s.b)).setCell ⟨w.heap.size + 1 + 1, 3, none⟩ (.string s.s)).setCell ⟨w.heap.size + 1 + 1, 4, none⟩ (.float .f64 s.n)) (w.heap.size + 1 + 1) s := bx_set (r := s) c0 c1 c2 c3 c4
  have hfin2 : (((((w2.setCell ⟨w.heap.size + 1 + 1, 0, none⟩ (.int .i64 s.k)).setCell ⟨w.heap.size + 1 + 1, 1, none⟩ (.int .i64 s.i)).setCell ⟨w.heap.size + 1 + 1, 2, none⟩ (.bool s.b)).setCell ⟨w.heap.size + 1 + 1, 3, none⟩ (.string s.s)).setCell ⟨w.heap.size + 1 + 1, 4, none⟩ (.float .f64 s.n)).cell? ⟨w.heap.size + 1 + 1 + 1, 0, none⟩ = some u5 := (set5_off w2 _ _ 0 (by omega) _ _ _ _ _).trans c5
  have hfin3 := one_off hfin1 (w.heap.size + 1 + 1 + 1) (by omega) (.int .i64 0)
  have hfin4 := World.cell?_setCell_same _ ⟨w.heap.size + 1 + 1 + 1, 0, none⟩ (.int .i64 0) hfin2
  have hbel : Below w.heap.size w ((((((w2.setCell ⟨w.heap.size + 1 + 1, 0, none⟩ (.int .i64 s.k)).setCell ⟨w.heap.size + 1 + 1, 1, none⟩ (.int .i64 s.i)).setCell ⟨w.heap.size + 1 + 1, 2, none⟩ (.bool s.b)).setCell ⟨w.heap.size + 1 + 1, 3, none⟩ (.string s.s)).setCell ⟨w.heap.size + 1 + 1, 4, none⟩ (.float .f64 s.n)).setCell ⟨w.heap.size + 1 + 1 + 1, 0, none⟩ (.int .i64 0)) := Below.setCell (below_set5 ((box4 w _ _ _ _).trans ((hb1.mono (by simp; omega)).trans (hb2.mono (by have := hb1.size; simp at this; omega)))) (by omega) _ _ _ _ _) (p := ⟨w.heap.size + 1 + 1 + 1, 0, none⟩) (by show w.heap.size ≤ w.heap.size + 1 + 1 + 1; omega) _
  generalize ((((((w2.setCell ⟨w.heap.size + 1 + 1, 0, none⟩ (.int .i64 s.k)).setCell ⟨w.heap.size + 1 + 1, 1, none⟩ (.int .i64 s.i)).setCell ⟨w.heap.size + 1 + 1, 2, none⟩ (.bool s.b)).setCell ⟨w.heap.size + 1 + 1, 3, none⟩ (.string s.s)).setCell ⟨w.heap.size + 1 + 1, 4, none⟩ (.float .f64 s.n)).setCell ⟨w.heap.size + 1 + 1 + 1, 0, none⟩ (.int .i64 0)) = wf at *
  clear hfin1 hfin2
  obtain ⟨z0, z1, z2, z3, z4⟩ := hfin3
  clear hb1 hb2 c0 c1 c2 c3 c4 c5 f0 f1 h272 H271
  refine leaves_cons (f := 115) (args := #[.pointer (some ⟨w.heap.size + 1 + 1, 0, none⟩), .pointer (some ⟨w.heap.size + 1 + 1 + 1, 0, none⟩)]) (by simp) (by simp [go_sem]) ?_
  refine (catch_idle (w.heap.size + 1 + 1) _).mono ?_
  rintro e u' w'' ⟨rfl, rfl, rfl⟩
  simp [Leaves, settle, results, Tryz.results66, go_sem, z0, z1, z2, z3, z4, hfin4]
  exact ⟨rfl, hbel⟩
set_option maxHeartbeats 1000000 in
theorem reckon_bad (FA : Option Addr) (fn FC : Nat) (VA : Option Addr) (vn VC : Nat) (op : Int) (A : Option Addr) (n c : Nat) (nm : ByteArray) (v : Vl) (w : World) (err : Int)
    (ht : ∀ W, Below w.heap.size w W → Calls Tryz.prog 117 #[agR FA fn FC VA vn VC, agX op A n c nm v] W (fun e w' => e = .panicked (PV err) ∧ Below W.heap.size W w')) :
    Calls Tryz.prog 66 #[agR FA fn FC VA vn VC, agX op A n c nm v] w (VMk (pairVE vZero err) w) := by
  have hmf : ∀ (fn : Fn) (first cap : Array Value) (w : World), (Instr.makeFunc fn first cap).run Tryz.prog w = .ok (.func fn first cap) w := fun _ _ _ _ => rfl
  have HT := Lib.hid ht
  clear ht
  have h27 := two7_new w (.cells #[.slice FA fn FC, .slice VA vn VC] 103) (bxX op A n c nm v)
  have H27 := Lib.hid h27
  clear h27
  go_enter_defers Tryz.func66, Tryz.ntmps66
  go_wp2_with (go_at_call 117; refine (HT.out _ (box4 w _ _ _ _)).mono ?_; rintro e w1 ⟨rfl, hb1⟩; have h271 := H27.out.below hb1; have H271 := Lib.hid h271; clear h271)
  have hbw : Below w.heap.size w w1 := (box4 w _ _ _ _).trans (hb1.mono (by simp; omega))
  clear hb1
  refine leaves_cons (f := 115) (args := #[.pointer (some ⟨w.heap.size + 1 + 1, 0, none⟩), .pointer (some ⟨w.heap.size + 1 + 1 + 1, 0, none⟩)]) (by simp) (by simp [go_sem]) ?_
  refine (catch_panicking (w.heap.size + 1 + 1) err [] _ H271.out).mono ?_
  rintro e u' w'' ⟨rfl, rfl, hb2, ⟨z0, z1, z2, z3, z4⟩, z5⟩
  simp [Leaves, settle, results, Tryz.results66, go_sem, z0, z1, z2, z3, z4, z5]
  exact ⟨rfl, hbw.trans (hb2.mono (by omega))⟩
theorem reckon_any (FA : Option Addr) (fn FC : Nat) (VA : Option Addr) (vn VC : Nat) (op : Int) (A : Option Addr) (n c : Nat) (nm : ByteArray) (v : Vl) (w : World) (r : Vl × Int) (hr : r.2 = 0 → goodV r.1 = true ∧ okV r.1)
    (ht : ∀ W, Below w.heap.size w W → Calls Tryz.prog 117 #[agR FA fn FC VA vn VC, agX op A n c nm v] W (TellP r W)) :
    Calls Tryz.prog 66 #[agR FA fn FC VA vn VC, agX op A n c nm v] w (VMk (pairVE (endV r).1 (endV r).2) w) := by
  by_cases h0 : r.2 = 0
  · have he : endV r = (setV r.1, 0) := by unfold endV; rw [if_pos h0]
    rw [he]
    exact reckon_good FA fn FC VA vn VC op A n c nm v w r.1 (hr h0).1 (hr h0).2 (fun W hb => (ht W hb).mono fun e w' h => ⟨h.1.trans (if_pos h0), h.2⟩)
  · have he : endV r = (vZero, r.2) := by unfold endV; rw [if_neg h0]
    rw [he]
    exact reckon_bad FA fn FC VA vn VC op A n c nm v w r.2 (fun W hb => (ht W hb).mono fun e w' h => ⟨h.1.trans (if_neg h0), h.2⟩)
end Go.Proofs.YthgdnpcfdgimlabGreat

/- Layer 5: do values fit fields, by the program and by the document. (Made by gen/genfit.py.) -/
namespace Go.Proofs.YthgdnpcfdgimlabGreat
open Go.RowKit
set_option linter.unusedVariables false
set_option linter.unusedSimpArgs false
set_option maxRecDepth 20000

def fitB (f : Fd) (v : Vl) : Bool := goodV v && (v.k == f.kind)
theorem fit_all (fs : List Fd) (vs : List Vl) (h : fs.length = vs.length) (ha : ∀ (j : Nat) (hj : j < fs.length) (hj' : j < vs.length), fitB fs[j] vs[j] = true) : fitX fs vs = true := by
  unfold fitX
  rw [Bool.and_eq_true, List.all_eq_true]
  refine ⟨by simpa using h, fun p hp => ?_⟩
  obtain ⟨j, hj, e⟩ := List.getElem_of_mem hp
  rw [List.length_zip] at hj
  have := ha j (by omega) (by omega)
  rw [← e, List.getElem_zip]
  exact this
theorem fit_len (fs : List Fd) (vs : List Vl) (h : fs.length ≠ vs.length) : fitX fs vs = false := by
  unfold fitX
  rw [show (fs.length == vs.length) = false by simpa using h]; rfl
theorem fit_no (fs : List Fd) (vs : List Vl) (j : Nat) (hj : j < fs.length) (hj' : j < vs.length) (ha : fitB fs[j] vs[j] = false) : fitX fs vs = false := by
  unfold fitX
  rw [Bool.and_eq_false_iff]
  refine .inr ?_
  rw [← Bool.not_eq_true, List.all_eq_true]
  intro h
  have := h (fs[j], vs[j]) (by rw [List.mem_iff_getElem]; exact ⟨j, by rw [List.length_zip]; omega, List.getElem_zip⟩)
  unfold fitB at ha
  rw [ha] at this
  cases this
set_option maxHeartbeats 2000000 in
theorem fit_prog (FA : Option Addr) (FC : Nat) (fs : List Fd) (VA : Option Addr) (VC : Nat) (vs : List Vl) (w : World) (hf : FdK w FA FC fs) (hv : VlK w VA VC vs) :
    Calls Tryz.prog 65 #[.slice VA vs.length VC, .slice FA fs.length FC] w (VMk (.bool (fitX fs vs)) w) := by
  obtain ⟨f1, f2, f3, f4⟩ := hf
  obtain ⟨v1, v2, v3, v4⟩ := hv
  unfold maxLen at f2 v2
  have hfl : fs.length ≤ 9223372036854775807 := by omega
  have hvl : vs.length ≤ 9223372036854775807 := by omega
  have F4 := Lib.hid f4
  have V4 := Lib.hid v4
  clear f1 f2 f3 f4 v1 v2 v3 v4
  have hsf := fun (w : World) (a : Addr) (m : Mode) (b : Nat) => run_store Tryz.prog w a (.float .f64 b) m rfl
  by_cases hl : fs.length = vs.length
  · have hne : ((vs.length : Int) != (fs.length : Int)) = false := by simp [hl]
    have HALLF := Lib.hid (fit_all fs vs hl)
    have HNOF := Lib.hid (fit_no fs vs)
    have HL := Lib.hid hl
    clear hl
    go_enter Tryz.func65, Tryz.ntmps65
    go_wp2
    go_loopw [14] (fun i wr => ∃ k : Nat, k ≤ vs.length ∧ i = .int .i64 k ∧ (∀ (j : Nat) (hj : j < fs.length) (hj' : j < vs.length), j < k → fitB fs[j] vs[j] = true) ∧ Below w.heap.size w wr) (fun i _ => vs.length - (intOf i).toNat)
    case atStart => exact ⟨0, Nat.zero_le _, rfl, fun j hj hj' h => absurd h (Nat.not_lt_zero _), Below.refl _ _⟩
    case round =>
      obtain ⟨k, hk, rfl, hall, hb⟩ := hrel
      by_cases hlt : k < vs.length
      · have hlf : k < fs.length := by rw [HL.out]; exact hlt
        have hltF : (k : Int) < (fs.length : Int) := by omega
        have hltV : (k : Int) < (vs.length : Int) := by omega
        have hi0 : (0 : Int) ≤ (k : Int) := by omega
        obtain ⟨fad, A', n', c', y, rfl, hbl, hq⟩ := F4.out k hlf
        obtain ⟨vad, rfl, hbl2, hq2⟩ := V4.out k hlt
        have hqf := fun W (h : Below w.heap.size w W) => (hq.below h (by rw [block_add]; exact hbl)).2.1
        have hqv := fun W (h : Below w.heap.size w W) => hq2.below h (by rw [block_add]; exact hbl2)
        have hall2 : fitB fs[k] vs[k] = true → ∀ (j : Nat) (hj : j < fs.length) (hj' : j < vs.length), j < k + 1 → fitB fs[j] vs[j] = true := fun h j hj hj' hjk => by
          by_cases e : j < k
          · exact hall j hj hj' e
          · obtain rfl : j = k := by omega
            exact h
        have hno : fitB fs[k] vs[k] = false → fitX fs vs = false := HNOF.out k hlf hlt
        unfold fitB at hall2 hno
        have hg := Good_val vs[k]
        clear hall hq hq2
        generalize fs[k].kind = fk at *
        generalize vs[k] = vv at *
        have HQF := Lib.hid hqf
        have HQV := Lib.hid hqv
        generalize goodV vv = gv at hg hall2 hno
        have HG := Lib.hid hg
        clear hg hqf hqv
        obtain ⟨q0, q1, q2, q3, q4⟩ := HQV.out _ hb
        have hbox := Bx.new wr vv
        have HK := Lib.hid (fun (W W' : World) (h : Below w.heap.size w W ∧ W.cell? ⟨(fad.add (k * 8)).block, (fad.add (k * 8)).off + 1, none⟩ = some (.int .i64 fk) ∧ W.cell? ⟨wr.heap.size, 0, none⟩ = some (.int .i64 vv.k) ∧ W.cell? ⟨wr.heap.size, 1, none⟩ = some (.int .i64 vv.i) ∧ W.cell? ⟨wr.heap.size, 2, none⟩ = some (.bool vv.b) ∧ W.cell? ⟨wr.heap.size, 3, none⟩ = some (.string vv.s) ∧ W.cell? ⟨wr.heap.size, 4, none⟩ = some (.float .f64 vv.n)) (hb : Below W.heap.size W W') => (show Below w.heap.size w W' ∧ W'.cell? ⟨(fad.add (k * 8)).block, (fad.add (k * 8)).off + 1, none⟩ = some (.int .i64 fk) ∧ W'.cell? ⟨wr.heap.size, 0, none⟩ = some (.int .i64 vv.k) ∧ W'.cell? ⟨wr.heap.size, 1, none⟩ = some (.int .i64 vv.i) ∧ W'.cell? ⟨wr.heap.size, 2, none⟩ = some (.bool vv.b) ∧ W'.cell? ⟨wr.heap.size, 3, none⟩ = some (.string vv.s) ∧ W'.cell? ⟨wr.heap.size, 4, none⟩ = some (.float .f64 vv.n) from ⟨h.1.trans (hb.mono h.1.size), HQF.out _ (h.1.trans (hb.mono h.1.size)), (show Bx W wr.heap.size vv from h.2.2).below hb⟩))
        have hS1 : (fun W => Below w.heap.size w W ∧ W.cell? ⟨(fad.add (k * 8)).block, (fad.add (k * 8)).off + 1, none⟩ = some (.int .i64 fk) ∧ W.cell? ⟨wr.heap.size, 0, none⟩ = some (.int .i64 vv.k) ∧ W.cell? ⟨wr.heap.size, 1, none⟩ = some (.int .i64 vv.i) ∧ W.cell? ⟨wr.heap.size, 2, none⟩ = some (.bool vv.b) ∧ W.cell? ⟨wr.heap.size, 3, none⟩ = some (.string vv.s) ∧ W.cell? ⟨wr.heap.size, 4, none⟩ = some (.float .f64 vv.n)) (wr.alloc (.cells #[.int .i64 vv.k, .int .i64 vv.i, .bool vv.b, .string vv.s, .float .f64 vv.n] 53)).drew := ⟨(hb.alloc hb.size _).drew, HQF.out _ (hb.alloc hb.size _).drew, hbox⟩
        clear hbox
        rcases gv with _ | _
        · have HNO := Lib.hid (hno (by rfl))
          clear hall2 hno
          go_wp2_with fail
          refine wp_region_held_drew (S := (fun W => Below w.heap.size w W ∧ W.cell? ⟨(fad.add (k * 8)).block, (fad.add (k * 8)).off + 1, none⟩ = some (.int .i64 fk) ∧ W.cell? ⟨wr.heap.size, 0, none⟩ = some (.int .i64 vv.k) ∧ W.cell? ⟨wr.heap.size, 1, none⟩ = some (.int .i64 vv.i) ∧ W.cell? ⟨wr.heap.size, 2, none⟩ = some (.bool vv.b) ∧ W.cell? ⟨wr.heap.size, 3, none⟩ = some (.string vv.s) ∧ W.cell? ⟨wr.heap.size, 4, none⟩ = some (.float .f64 vv.n))) (by kernel_rfl) (hS1) (fun hHeld => ?_)
          refine wpAnyH_take (i := 0) (oi := ?oi1) (v := ?v1) ?hi1 (by kernel_rfl) (by kernel_rfl) (by kernel_rfl) ?hQ1 (Or.inl ⟨?hw1, ?hy1⟩) (by assumption) ?rest1
          case hi1 => (simp only [gA, gB, gC]; rfl)
          case hQ1 => exact fun _ _ _ h => h
          case hw1 => rfl
          case hy1 => (intro w hSw; (try dsimp only at hSw); go_simp; try with_reducible rfl)
          (try simp only [Act.put, sA, sB, sC])
          refine wpAnyH_ready (rs := [1]) (by kernel_rfl) (by simp) ?_
          refine AllReadyH.cons (o := ?o2) ?ho2 (fun K hK => ?st2) AllReadyH.nil
          case ho2 => (simp only [gA, gB, gC]; rfl)
          go_simp
          refine (HG.out _).mono ?_; rintro e w2 ⟨rfl, hb2⟩
          refine hK.out _ _ ?_ (fun hHeld => ?_)
          · (try dsimp only); exact HK.out _ _ hHeld hb2
          clear hK K
          (try simp only [Act.put, sA, sB, sC])
          refine wpAnyH_take (i := 2) (oi := ?oi3) (v := ?v3) ?hi3 (by kernel_rfl) (by kernel_rfl) (by kernel_rfl) ?hQ3 (Or.inl ⟨?hw3, ?hy3⟩) (by assumption) ?rest3
          case hi3 => (simp only [gA, gB, gC]; rfl)
          case hQ3 => exact fun _ _ _ h => h
          case hw3 => rfl
          case hy3 => (intro w hSw; (try dsimp only at hSw); go_simp; try with_reducible rfl)
          (try simp only [Act.put, sA, sB, sC])
          refine wpAnyH_take (i := 3) (oi := ?oi4) (v := ?v4) ?hi4 (by kernel_rfl) (by kernel_rfl) (by kernel_rfl) ?hQ4 (Or.inl ⟨?hw4, ?hy4⟩) (by assumption) ?rest4
          case hi4 => (simp only [gA, gB, gC]; rfl)
          case hQ4 => exact fun _ _ _ h => h
          case hw4 => rfl
          case hy4 => (intro w hSw; (try dsimp only at hSw); go_simp; try with_reducible rfl)
          (try simp only [Act.put, sA, sB, sC])
          refine wpAnyH_take (i := 4) (oi := ?oi5) (v := undef) ?hi5 (by kernel_rfl) (by kernel_rfl) (by kernel_rfl) ?hQ5 (Or.inr ⟨?hw5, rfl⟩) (by assumption) ?rest5
          case hi5 => (simp only [gA, gB, gC]; rfl)
          case hQ5 => exact fun _ _ _ h => h
          case hw5 => rfl
          (try simp only [Act.put, sA, sB, sC])
          refine wpAnyH_take (i := 5) (oi := ?oi6) (v := undef) ?hi6 (by kernel_rfl) (by kernel_rfl) (by kernel_rfl) ?hQ6 (Or.inr ⟨?hw6, rfl⟩) (by assumption) ?rest6
          case hi6 => (simp only [gA, gB, gC]; rfl)
          case hQ6 => exact fun _ _ _ h => h
          case hw6 => rfl
          (try simp only [Act.put, sA, sB, sC])
          refine wpAnyH_take (i := 6) (oi := ?oi7) (v := undef) ?hi7 (by kernel_rfl) (by kernel_rfl) (by kernel_rfl) ?hQ7 (Or.inr ⟨?hw7, rfl⟩) (by assumption) ?rest7
          case hi7 => (simp only [gA, gB, gC]; rfl)
          case hQ7 => exact fun _ _ _ h => h
          case hw7 => rfl
          (try simp only [Act.put, sA, sB, sC])
          refine wpAnyH_take (i := 7) (oi := ?oi8) (v := undef) ?hi8 (by kernel_rfl) (by kernel_rfl) (by kernel_rfl) ?hQ8 (Or.inr ⟨?hw8, rfl⟩) (by assumption) ?rest8
          case hi8 => (simp only [gA, gB, gC]; rfl)
          case hQ8 => exact fun _ _ _ h => h
          case hw8 => rfl
          (try simp only [Act.put, sA, sB, sC])
          refine wpAnyH_take (i := 8) (oi := ?oi9) (v := undef) ?hi9 (by kernel_rfl) (by kernel_rfl) (by kernel_rfl) ?hQ9 (Or.inr ⟨?hw9, rfl⟩) (by assumption) ?rest9
          case hi9 => (simp only [gA, gB, gC]; rfl)
          case hQ9 => exact fun _ _ _ h => h
          case hw9 => rfl
          (try simp only [Act.put, sA, sB, sC])
          refine wpAnyH_take (i := 9) (oi := ?oi10) (v := undef) ?hi10 (by kernel_rfl) (by kernel_rfl) (by kernel_rfl) ?hQ10 (Or.inr ⟨?hw10, rfl⟩) (by assumption) ?rest10
          case hi10 => (simp only [gA, gB, gC]; rfl)
          case hQ10 => exact fun _ _ _ h => h
          case hw10 => rfl
          (try simp only [Act.put, sA, sB, sC])
          refine wpAnyH_take (i := 10) (oi := ?oi11) (v := undef) ?hi11 (by kernel_rfl) (by kernel_rfl) (by kernel_rfl) ?hQ11 (Or.inr ⟨?hw11, rfl⟩) (by assumption) ?rest11
          case hi11 => (simp only [gA, gB, gC]; rfl)
          case hQ11 => exact fun _ _ _ h => h
          case hw11 => rfl
          (try simp only [Act.put, sA, sB, sC])
          refine wpAnyH_take (i := 11) (oi := ?oi12) (v := undef) ?hi12 (by kernel_rfl) (by kernel_rfl) (by kernel_rfl) ?hQ12 (Or.inr ⟨?hw12, rfl⟩) (by assumption) ?rest12
          case hi12 => (simp only [gA, gB, gC]; rfl)
          case hQ12 => exact fun _ _ _ h => h
          case hw12 => rfl
          (try simp only [Act.put, sA, sB, sC])
          refine wpAnyH_take (i := 12) (oi := ?oi13) (v := ?v13) ?hi13 (by kernel_rfl) (by kernel_rfl) (by kernel_rfl) ?hQ13 (Or.inl ⟨?hw13, ?hy13⟩) (by assumption) ?rest13
          case hi13 => (simp only [gA, gB, gC]; rfl)
          case hQ13 => exact fun _ _ _ h => h
          case hw13 => rfl
          case hy13 => (intro w hSw; (try dsimp only at hSw); go_simp; try with_reducible rfl)
          (try simp only [Act.put, sA, sB, sC])
          refine wpAnyH_done (by kernel_rfl) ?_ _
          go_wp2_with fail
          go_ret
          exact ⟨ret_bool HNO.out.symm, hHeld.1⟩
        · rcases hk : (vv.k == fk) with _ | _
          · have hkk : (vv.k != fk) = true := by rw [bne, hk]; rfl
            have HNO := Lib.hid (hno (by rw [hk]; rfl))
            clear hall2 hno
            go_wp2_with fail
            refine wp_region_held_drew (S := (fun W => Below w.heap.size w W ∧ W.cell? ⟨(fad.add (k * 8)).block, (fad.add (k * 8)).off + 1, none⟩ = some (.int .i64 fk) ∧ W.cell? ⟨wr.heap.size, 0, none⟩ = some (.int .i64 vv.k) ∧ W.cell? ⟨wr.heap.size, 1, none⟩ = some (.int .i64 vv.i) ∧ W.cell? ⟨wr.heap.size, 2, none⟩ = some (.bool vv.b) ∧ W.cell? ⟨wr.heap.size, 3, none⟩ = some (.string vv.s) ∧ W.cell? ⟨wr.heap.size, 4, none⟩ = some (.float .f64 vv.n))) (by kernel_rfl) (hS1) (fun hHeld => ?_)
            refine wpAnyH_take (i := 0) (oi := ?oi14) (v := ?v14) ?hi14 (by kernel_rfl) (by kernel_rfl) (by kernel_rfl) ?hQ14 (Or.inl ⟨?hw14, ?hy14⟩) (by assumption) ?rest14
            case hi14 => (simp only [gA, gB, gC]; rfl)
            case hQ14 => exact fun _ _ _ h => h
            case hw14 => rfl
            case hy14 => (intro w hSw; (try dsimp only at hSw); go_simp; try with_reducible rfl)
            (try simp only [Act.put, sA, sB, sC])
            refine wpAnyH_ready (rs := [1]) (by kernel_rfl) (by simp) ?_
            refine AllReadyH.cons (o := ?o15) ?ho15 (fun K hK => ?st15) AllReadyH.nil
            case ho15 => (simp only [gA, gB, gC]; rfl)
            go_simp
            refine (HG.out _).mono ?_; rintro e w2 ⟨rfl, hb2⟩
            refine hK.out _ _ ?_ (fun hHeld => ?_)
            · (try dsimp only); exact HK.out _ _ hHeld hb2
            clear hK K
            (try simp only [Act.put, sA, sB, sC])
            refine wpAnyH_take (i := 2) (oi := ?oi16) (v := ?v16) ?hi16 (by kernel_rfl) (by kernel_rfl) (by kernel_rfl) ?hQ16 (Or.inl ⟨?hw16, ?hy16⟩) (by assumption) ?rest16
            case hi16 => (simp only [gA, gB, gC]; rfl)
            case hQ16 => exact fun _ _ _ h => h
            case hw16 => rfl
            case hy16 => (intro w hSw; (try dsimp only at hSw); go_simp; try with_reducible rfl)
            (try simp only [Act.put, sA, sB, sC])
            refine wpAnyH_take (i := 3) (oi := ?oi17) (v := ?v17) ?hi17 (by kernel_rfl) (by kernel_rfl) (by kernel_rfl) ?hQ17 (Or.inl ⟨?hw17, ?hy17⟩) (by assumption) ?rest17
            case hi17 => (simp only [gA, gB, gC]; rfl)
            case hQ17 => exact fun _ _ _ h => h
            case hw17 => rfl
            case hy17 => (intro w hSw; (try dsimp only at hSw); go_simp; try with_reducible rfl)
            (try simp only [Act.put, sA, sB, sC])
            refine wpAnyH_take (i := 4) (oi := ?oi18) (v := ?v18) ?hi18 (by kernel_rfl) (by kernel_rfl) (by kernel_rfl) ?hQ18 (Or.inl ⟨?hw18, ?hy18⟩) (by assumption) ?rest18
            case hi18 => (simp only [gA, gB, gC]; rfl)
            case hQ18 => exact fun _ _ _ h => h
            case hw18 => rfl
            case hy18 => (intro w hSw; (try dsimp only at hSw); go_simp; try with_reducible rfl)
            (try simp only [Act.put, sA, sB, sC])
            refine wpAnyH_take (i := 5) (oi := ?oi19) (v := ?v19) ?hi19 (by kernel_rfl) (by kernel_rfl) (by kernel_rfl) ?hQ19 (Or.inl ⟨?hw19, ?hy19⟩) (by assumption) ?rest19
            case hi19 => (simp only [gA, gB, gC]; rfl)
            case hQ19 => exact fun _ _ _ h => h
            case hw19 => rfl
            case hy19 => (intro w hSw; (try dsimp only at hSw); go_simp; try with_reducible rfl)
            (try simp only [Act.put, sA, sB, sC])
            refine wpAnyH_take (i := 6) (oi := ?oi20) (v := ?v20) ?hi20 (by kernel_rfl) (by kernel_rfl) (by kernel_rfl) ?hQ20 (Or.inl ⟨?hw20, ?hy20⟩) (by assumption) ?rest20
            case hi20 => (simp only [gA, gB, gC]; rfl)
            case hQ20 => exact fun _ _ _ h => h
            case hw20 => rfl
            case hy20 => (intro w hSw; (try dsimp only at hSw); go_simp; try with_reducible rfl)
            (try simp only [Act.put, sA, sB, sC])
            refine wpAnyH_take (i := 7) (oi := ?oi21) (v := ?v21) ?hi21 (by kernel_rfl) (by kernel_rfl) (by kernel_rfl) ?hQ21 (Or.inl ⟨?hw21, ?hy21⟩) (by assumption) ?rest21
            case hi21 => (simp only [gA, gB, gC]; rfl)
            case hQ21 => exact fun _ _ _ h => h
            case hw21 => rfl
            case hy21 => (intro w hSw; (try dsimp only at hSw); go_simp; try with_reducible rfl)
            (try simp only [Act.put, sA, sB, sC])
            refine wpAnyH_take (i := 8) (oi := ?oi22) (v := ?v22) ?hi22 (by kernel_rfl) (by kernel_rfl) (by kernel_rfl) ?hQ22 (Or.inl ⟨?hw22, ?hy22⟩) (by assumption) ?rest22
            case hi22 => (simp only [gA, gB, gC]; rfl)
            case hQ22 => exact fun _ _ _ h => h
            case hw22 => rfl
            case hy22 => (intro w hSw; (try dsimp only at hSw); go_simp; try with_reducible rfl)
            (try simp only [Act.put, sA, sB, sC])
            refine wpAnyH_take (i := 9) (oi := ?oi23) (v := ?v23) ?hi23 (by kernel_rfl) (by kernel_rfl) (by kernel_rfl) ?hQ23 (Or.inl ⟨?hw23, ?hy23⟩) (by assumption) ?rest23
            case hi23 => (simp only [gA, gB, gC]; rfl)
            case hQ23 => exact fun _ _ _ h => h
            case hw23 => rfl
            case hy23 => (intro w hSw; (try dsimp only at hSw); go_simp; try with_reducible rfl)
            (try simp only [Act.put, sA, sB, sC])
            refine wpAnyH_take (i := 10) (oi := ?oi24) (v := ?v24) ?hi24 (by kernel_rfl) (by kernel_rfl) (by kernel_rfl) ?hQ24 (Or.inl ⟨?hw24, ?hy24⟩) (by assumption) ?rest24
            case hi24 => (simp only [gA, gB, gC]; rfl)
            case hQ24 => exact fun _ _ _ h => h
            case hw24 => rfl
            case hy24 => (intro w hSw; (try dsimp only at hSw); go_simp; try with_reducible rfl)
            (try simp only [Act.put, sA, sB, sC])
            refine wpAnyH_take (i := 11) (oi := ?oi25) (v := ?v25) ?hi25 (by kernel_rfl) (by kernel_rfl) (by kernel_rfl) ?hQ25 (Or.inl ⟨?hw25, ?hy25⟩) (by assumption) ?rest25
            case hi25 => (simp only [gA, gB, gC]; rfl)
            case hQ25 => exact fun _ _ _ h => h
            case hw25 => rfl
            case hy25 => (intro w hSw; (try dsimp only at hSw); go_simp; try with_reducible rfl)
            (try simp only [Act.put, sA, sB, sC])
            refine wpAnyH_take (i := 12) (oi := ?oi26) (v := ?v26) ?hi26 (by kernel_rfl) (by kernel_rfl) (by kernel_rfl) ?hQ26 (Or.inl ⟨?hw26, ?hy26⟩) (by assumption) ?rest26
            case hi26 => (simp only [gA, gB, gC]; rfl)
            case hQ26 => exact fun _ _ _ h => h
            case hw26 => rfl
            case hy26 => (intro w hSw; (try dsimp only at hSw); go_simp; try with_reducible rfl)
            (try simp only [Act.put, sA, sB, sC])
            refine wpAnyH_done (by kernel_rfl) ?_ _
            go_wp2_with fail
            go_ret
            exact ⟨ret_bool HNO.out.symm, hHeld.1⟩
          · have hkk : (vv.k != fk) = false := by rw [bne, hk]; rfl
            have HALL := Lib.hid (hall2 (by rw [hk]; rfl))
            clear hall2 hno
            go_wp2_with fail
            refine wp_region_held_drew (S := (fun W => Below w.heap.size w W ∧ W.cell? ⟨(fad.add (k * 8)).block, (fad.add (k * 8)).off + 1, none⟩ = some (.int .i64 fk) ∧ W.cell? ⟨wr.heap.size, 0, none⟩ = some (.int .i64 vv.k) ∧ W.cell? ⟨wr.heap.size, 1, none⟩ = some (.int .i64 vv.i) ∧ W.cell? ⟨wr.heap.size, 2, none⟩ = some (.bool vv.b) ∧ W.cell? ⟨wr.heap.size, 3, none⟩ = some (.string vv.s) ∧ W.cell? ⟨wr.heap.size, 4, none⟩ = some (.float .f64 vv.n))) (by kernel_rfl) (hS1) (fun hHeld => ?_)
            refine wpAnyH_take (i := 0) (oi := ?oi27) (v := ?v27) ?hi27 (by kernel_rfl) (by kernel_rfl) (by kernel_rfl) ?hQ27 (Or.inl ⟨?hw27, ?hy27⟩) (by assumption) ?rest27
            case hi27 => (simp only [gA, gB, gC]; rfl)
            case hQ27 => exact fun _ _ _ h => h
            case hw27 => rfl
            case hy27 => (intro w hSw; (try dsimp only at hSw); go_simp; try with_reducible rfl)
            (try simp only [Act.put, sA, sB, sC])
            refine wpAnyH_ready (rs := [1]) (by kernel_rfl) (by simp) ?_
            refine AllReadyH.cons (o := ?o28) ?ho28 (fun K hK => ?st28) AllReadyH.nil
            case ho28 => (simp only [gA, gB, gC]; rfl)
            go_simp
            refine (HG.out _).mono ?_; rintro e w2 ⟨rfl, hb2⟩
            refine hK.out _ _ ?_ (fun hHeld => ?_)
            · (try dsimp only); exact HK.out _ _ hHeld hb2
            clear hK K
            (try simp only [Act.put, sA, sB, sC])
            refine wpAnyH_take (i := 2) (oi := ?oi29) (v := ?v29) ?hi29 (by kernel_rfl) (by kernel_rfl) (by kernel_rfl) ?hQ29 (Or.inl ⟨?hw29, ?hy29⟩) (by assumption) ?rest29
            case hi29 => (simp only [gA, gB, gC]; rfl)
            case hQ29 => exact fun _ _ _ h => h
            case hw29 => rfl
            case hy29 => (intro w hSw; (try dsimp only at hSw); go_simp; try with_reducible rfl)
            (try simp only [Act.put, sA, sB, sC])
            refine wpAnyH_take (i := 3) (oi := ?oi30) (v := ?v30) ?hi30 (by kernel_rfl) (by kernel_rfl) (by kernel_rfl) ?hQ30 (Or.inl ⟨?hw30, ?hy30⟩) (by assumption) ?rest30
            case hi30 => (simp only [gA, gB, gC]; rfl)
            case hQ30 => exact fun _ _ _ h => h
            case hw30 => rfl
            case hy30 => (intro w hSw; (try dsimp only at hSw); go_simp; try with_reducible rfl)
            (try simp only [Act.put, sA, sB, sC])
            refine wpAnyH_take (i := 4) (oi := ?oi31) (v := ?v31) ?hi31 (by kernel_rfl) (by kernel_rfl) (by kernel_rfl) ?hQ31 (Or.inl ⟨?hw31, ?hy31⟩) (by assumption) ?rest31
            case hi31 => (simp only [gA, gB, gC]; rfl)
            case hQ31 => exact fun _ _ _ h => h
            case hw31 => rfl
            case hy31 => (intro w hSw; (try dsimp only at hSw); go_simp; try with_reducible rfl)
            (try simp only [Act.put, sA, sB, sC])
            refine wpAnyH_take (i := 5) (oi := ?oi32) (v := ?v32) ?hi32 (by kernel_rfl) (by kernel_rfl) (by kernel_rfl) ?hQ32 (Or.inl ⟨?hw32, ?hy32⟩) (by assumption) ?rest32
            case hi32 => (simp only [gA, gB, gC]; rfl)
            case hQ32 => exact fun _ _ _ h => h
            case hw32 => rfl
            case hy32 => (intro w hSw; (try dsimp only at hSw); go_simp; try with_reducible rfl)
            (try simp only [Act.put, sA, sB, sC])
            refine wpAnyH_take (i := 6) (oi := ?oi33) (v := ?v33) ?hi33 (by kernel_rfl) (by kernel_rfl) (by kernel_rfl) ?hQ33 (Or.inl ⟨?hw33, ?hy33⟩) (by assumption) ?rest33
            case hi33 => (simp only [gA, gB, gC]; rfl)
            case hQ33 => exact fun _ _ _ h => h
            case hw33 => rfl
            case hy33 => (intro w hSw; (try dsimp only at hSw); go_simp; try with_reducible rfl)
            (try simp only [Act.put, sA, sB, sC])
            refine wpAnyH_take (i := 7) (oi := ?oi34) (v := ?v34) ?hi34 (by kernel_rfl) (by kernel_rfl) (by kernel_rfl) ?hQ34 (Or.inl ⟨?hw34, ?hy34⟩) (by assumption) ?rest34
            case hi34 => (simp only [gA, gB, gC]; rfl)
            case hQ34 => exact fun _ _ _ h => h
            case hw34 => rfl
            case hy34 => (intro w hSw; (try dsimp only at hSw); go_simp; try with_reducible rfl)
            (try simp only [Act.put, sA, sB, sC])
            refine wpAnyH_take (i := 8) (oi := ?oi35) (v := ?v35) ?hi35 (by kernel_rfl) (by kernel_rfl) (by kernel_rfl) ?hQ35 (Or.inl ⟨?hw35, ?hy35⟩) (by assumption) ?rest35
            case hi35 => (simp only [gA, gB, gC]; rfl)
            case hQ35 => exact fun _ _ _ h => h
            case hw35 => rfl
            case hy35 => (intro w hSw; (try dsimp only at hSw); go_simp; try with_reducible rfl)
            (try simp only [Act.put, sA, sB, sC])
            refine wpAnyH_take (i := 9) (oi := ?oi36) (v := ?v36) ?hi36 (by kernel_rfl) (by kernel_rfl) (by kernel_rfl) ?hQ36 (Or.inl ⟨?hw36, ?hy36⟩) (by assumption) ?rest36
            case hi36 => (simp only [gA, gB, gC]; rfl)
            case hQ36 => exact fun _ _ _ h => h
            case hw36 => rfl
            case hy36 => (intro w hSw; (try dsimp only at hSw); go_simp; try with_reducible rfl)
            (try simp only [Act.put, sA, sB, sC])
            refine wpAnyH_take (i := 10) (oi := ?oi37) (v := ?v37) ?hi37 (by kernel_rfl) (by kernel_rfl) (by kernel_rfl) ?hQ37 (Or.inl ⟨?hw37, ?hy37⟩) (by assumption) ?rest37
            case hi37 => (simp only [gA, gB, gC]; rfl)
            case hQ37 => exact fun _ _ _ h => h
            case hw37 => rfl
            case hy37 => (intro w hSw; (try dsimp only at hSw); go_simp; try with_reducible rfl)
            (try simp only [Act.put, sA, sB, sC])
            refine wpAnyH_take (i := 11) (oi := ?oi38) (v := ?v38) ?hi38 (by kernel_rfl) (by kernel_rfl) (by kernel_rfl) ?hQ38 (Or.inl ⟨?hw38, ?hy38⟩) (by assumption) ?rest38
            case hi38 => (simp only [gA, gB, gC]; rfl)
            case hQ38 => exact fun _ _ _ h => h
            case hw38 => rfl
            case hy38 => (intro w hSw; (try dsimp only at hSw); go_simp; try with_reducible rfl)
            (try simp only [Act.put, sA, sB, sC])
            refine wpAnyH_take (i := 12) (oi := ?oi39) (v := ?v39) ?hi39 (by kernel_rfl) (by kernel_rfl) (by kernel_rfl) ?hQ39 (Or.inl ⟨?hw39, ?hy39⟩) (by assumption) ?rest39
            case hi39 => (simp only [gA, gB, gC]; rfl)
            case hQ39 => exact fun _ _ _ h => h
            case hw39 => rfl
            case hy39 => (intro w hSw; (try dsimp only at hSw); go_simp; try with_reducible rfl)
            (try simp only [Act.put, sA, sB, sC])
            refine wpAnyH_done (by kernel_rfl) ?_ _
            go_wp2_with fail
            go_roundw
            case rel => exact ⟨k + 1, by omega, by go_num, HALL.out, hHeld.1⟩
            case measure => simp [intOf]; omega
      · have HF := Lib.hid (HALLF.out fun j hj hj' => hall j hj hj' (by omega))
        have hkl : k = vs.length := by omega
        have hkf : ¬ (k : Int) < (fs.length : Int) := by rw [HL.out]; omega
        have hkv : ¬ (k : Int) < (vs.length : Int) := by omega
        clear hall hkl
        go_wp2
        go_ret
        exact ⟨ret_bool HF.out.symm, hb⟩
  · have hne : ((vs.length : Int) != (fs.length : Int)) = true := by simp; omega
    have HNO := Lib.hid (fit_len fs vs hl)
    clear hl
    go_enter Tryz.func65, Tryz.ntmps65
    go_wp2
    go_ret
    exact ⟨ret_bool HNO.out.symm, Below.refl _ _⟩
end Go.Proofs.YthgdnpcfdgimlabGreat

/- Layer 5: Eval, by the program. -/
namespace Go.Proofs.YthgdnpcfdgimlabGreat
open Go.RowKit
set_option linter.unusedVariables false
set_option linter.unusedSimpArgs false
set_option maxRecDepth 20000

/-- 5.2, a NaN's bits settled -/
def evalP (e : Ex) (fs : List Fd) (vs : List Vl) : Vl × Int := if (checkX e fs).2 ≠ 0 then (vZero, (checkX e fs).2) else if fitX fs vs = true then endV (evX 6 e fs vs) else (vZero, 1)
set_option maxHeartbeats 1000000 in
theorem Eval_any (FA : Option Addr) (FC : Nat) (fs : List Fd) (VA : Option Addr) (VC : Nat) (vs : List Vl) (D : Nat) (e : Ex) (A : Option Addr) (c : Nat) (w : World) (hx : ExK w D A c e) (hf : FdK w FA FC fs) (hv : VlK w VA VC vs) (hok : okX 6 e) (hvs : ∀ v ∈ vs, okV v) :
    Calls Tryz.prog 29 #[agX e.op A e.kids.length c e.name e.val, .slice FA fs.length FC, .slice VA vs.length VC] w (VMk (pairVE (evalP e fs vs).1 (evalP e fs vs).2) w) := by
  have hsf := fun (w : World) (a : Addr) (m : Mode) (b : Nat) => run_store Tryz.prog w a (.float .f64 b) m rfl
  have hc : ∀ W, Below w.heap.size w W → Calls Tryz.prog 64 #[agX e.op A e.kids.length c e.name e.val, .slice FA fs.length FC] W (VMk (pairII (checkX e fs)) W) := fun W hb => eCheck_any FA FC fs D e A c W (hx.below hb (Nat.le_refl _)) (hf.below hb (Nat.le_refl _))
  have hfit : ∀ W, Below w.heap.size w W → Calls Tryz.prog 65 #[.slice VA vs.length VC, .slice FA fs.length FC] W (VMk (.bool (fitX fs vs)) W) := fun W hb => fit_prog FA FC fs VA VC vs W (hf.below hb (Nat.le_refl _)) (hv.below hb (Nat.le_refl _))
  have hrk : (checkX e fs).2 = 0 → fitX fs vs = true → ∀ W, Below w.heap.size w W → Calls Tryz.prog 66 #[agR FA fs.length FC VA vs.length VC, agX e.op A e.kids.length c e.name e.val] W (VMk (pairVE (endV (evX 6 e fs vs)).1 (endV (evX 6 e fs vs)).2) W) := fun h0 hft W hb => by
    have hsm : smallX e = true := by
      cases hs : smallX e with
      | true => rfl
      | false =>
        have : checkX e fs = (0, 51) := by unfold checkX; rw [hs]; rfl
        rw [this] at h0; exact absurd h0 (by decide)
    have hck : chkX 6 e fs = ((chkX 6 e fs).1, 0) := by
      have : checkX e fs = chkX 6 e fs := by unfold checkX; rw [hsm]; rfl
      rw [this] at h0
      exact pair_of h0
    have hdp := ((smallX_iff e).1 hsm).1
    have hsd := ev_sound fs vs hft hvs 6 e _ hok hdp hck
    exact reckon_any FA fs.length FC VA vs.length VC e.op A e.kids.length c e.name e.val W (evX 6 e fs vs) (fun h => ⟨(snd_ok hsd h).1, (snd_ok hsd h).2.1⟩) (fun W' hb' => tell_any FA FC fs VA VC vs hft hvs D 6 e A c _ W' (hx.below (hb.trans (hb'.mono hb.size)) (Nat.le_refl _)) (hf.below (hb.trans (hb'.mono hb.size)) (Nat.le_refl _)) (hv.below (hb.trans (hb'.mono hb.size)) (Nat.le_refl _)) hok hdp hck)
  have hev : evalP e fs vs = if (checkX e fs).2 ≠ 0 then (vZero, (checkX e fs).2) else if fitX fs vs = true then endV (evX 6 e fs vs) else (vZero, 1) := rfl
  rw [hev]
  clear hev hx hf hv hok hvs
  generalize endV (evX 6 e fs vs) = r at hrk ⊢
  generalize checkX e fs = ck at hc hrk ⊢
  generalize fitX fs vs = ft at hfit hrk ⊢
  generalize e.kids.length = n at *
  generalize e.op = eop at *
  generalize e.name = enm at *
  generalize e.val = ev at *
  obtain ⟨ck1, ck2⟩ := ck
  have HC := Lib.hid hc
  have HF := Lib.hid hfit
  clear hc hfit
  by_cases h0 : ck2 = 0
  · subst h0
    rw [if_neg (fun h => h rfl)]
    rcases ft with _ | _
    · rw [if_neg (by decide)]
      clear hrk
      go_enter Tryz.func29, Tryz.ntmps29
      go_wp2_with (first
        | (go_at_call 64; refine (HC.out _ (vbox2 w _ _)).mono ?_; rintro e w1 ⟨rfl, hb1⟩; have B1 : Below w.heap.size w w1 := (vbox2 w _ _).trans (hb1.mono (by simp; omega)); have hz : w.heap.size + 1 < w1.heap.size := by { have := hb1.size; simp at this; omega }; obtain ⟨hc1, hf1⟩ := bcell hb1)
        | (go_at_call 65; refine (HF.out _ B1).mono ?_; rintro e w2 ⟨rfl, hb2⟩; obtain ⟨hc2, hf2⟩ := bcell hb2; have hz2 : w.heap.size + 1 < w2.heap.size := by { have := hb2.size; omega }))
      exact bodyPost_ret (v := pairVE vZero 1) (by simp [results, Tryz.results29, go_sem, hc1, hc2, hz, hz2]) rfl ⟨rfl, vbox2_set w _ _ hb1 hb2 _ _ _ _ _⟩
    · rw [if_pos rfl]
      have hrk := hrk rfl rfl
      have HR := Lib.hid hrk
      clear hrk
      obtain ⟨r1, r2⟩ := r
      have hbx := (Kid_new w eop A n c enm ev).below (alloc1 _ (.cells #[.int .i64 0, .int .i64 0, .bool false, .string { data := #[] }, .float .f64 0] 53))
      have HBX := Lib.hid hbx
      clear hbx
      go_enter Tryz.func29, Tryz.ntmps29
      go_wp2_with (first
        | (go_at_call 64; refine (HC.out _ (vbox2 w _ _)).mono ?_; rintro e w1 ⟨rfl, hb1⟩; have B1 : Below w.heap.size w w1 := (vbox2 w _ _).trans (hb1.mono (by simp; omega)); have hz : w.heap.size + 1 < w1.heap.size := by { have := hb1.size; simp at this; omega }; have HB1 := Lib.hid (HBX.out.below hb1); obtain ⟨hc1, hf1⟩ := bcell hb1)
        | (go_at_call 65; refine (HF.out _ B1).mono ?_; rintro e w2 ⟨rfl, hb2⟩; have B2 : Below w.heap.size w w2 := B1.trans (hb2.mono B1.size); obtain ⟨d0, d1, d2, d3, d4, d5, d6, d7⟩ := HB1.out.below hb2; obtain ⟨hc2, hf2⟩ := bcell hb2; have hz2 : w.heap.size + 1 < w2.heap.size := by { have := hb2.size; omega })
        | (go_at_call 66; refine (HR.out _ B2).mono ?_; rintro e w3 ⟨rfl, hb3⟩; obtain ⟨hc3, hf3⟩ := bcell hb3; have hz3 : w.heap.size + 1 < w3.heap.size := by { have := hb3.size; omega }))
      exact bodyPost_ret (v := pairVE r1 r2) (by simp [results, Tryz.results29, go_sem, hc1, hc2, hc3, hz, hz2, hz3]) rfl ⟨rfl, below_set5 (B2.trans (hb3.mono B2.size)) (by omega) _ _ _ _ _⟩
  · rw [if_pos h0]
    have hne : (ck2 != 0) = true := by simpa using h0
    clear hrk h0
    go_enter Tryz.func29, Tryz.ntmps29
    go_wp2_with (first
      | (go_at_call 64; refine (HC.out _ (vbox2 w _ _)).mono ?_; rintro e w1 ⟨rfl, hb1⟩; obtain ⟨hc1, hf1⟩ := bcell hb1; have hz : w.heap.size + 1 < w1.heap.size := by { have := hb1.size; simp at this; omega }))
    exact bodyPost_ret (v := pairVE vZero ck2) (by simp [results, Tryz.results29, go_sem, hc1, hz]) rfl ⟨rfl, vbox2_set w _ _ hb1 (Below.refl _ _) _ _ _ _ _⟩
end Go.Proofs.YthgdnpcfdgimlabGreat

/- Layer 5: what the laws begin with. -/
namespace Go.Proofs.YthgdnpcfdgimlabGreat
open Go.RowKit
set_option linter.unusedVariables false
set_option linter.unusedSimpArgs false
set_option maxRecDepth 20000

end Go.Proofs.YthgdnpcfdgimlabGreat

/- Layer 5: chapter 5's examples by definition; expressions that are built. -/
namespace Go.Proofs.YthgdnpcfdgimlabGreat
open Go.RowKit
set_option linter.unusedVariables false
set_option linter.unusedSimpArgs false
set_option maxRecDepth 20000

/-! in memory -/
/-- e lies there to some depth -/
def ExE (w : World) (A : Option Addr) (c : Nat) (e : Ex) : Prop := ∃ D, ExK w D A c e
theorem ExK.more {w : World} : ∀ {D : Nat} {A : Option Addr} {c : Nat} {e : Ex}, ExK w D A c e → ExK w (D + 1) A c e
  | 0, _, _, _, h => False.elim h
  | D + 1, A, c, e, h => by
    obtain ⟨h1, h2, h3, h4⟩ := h
    refine ⟨h1, h2, h3, fun j hj => ?_⟩
    obtain ⟨ad, A', c', e1, e2, e3, e4⟩ := h4 j hj
    exact ⟨ad, A', c', e1, e2, e3, ExK.more e4⟩
theorem ExK.upto {w : World} {D : Nat} {A : Option Addr} {c : Nat} {e : Ex} (h : ExK w D A c e) : ∀ n, ExK w (D + n) A c e
  | 0 => h
  | n + 1 => (ExK.upto h n).more
theorem ExE.below {w w' : World} {A : Option Addr} {c : Nat} {e : Ex} (h : ExE w A c e) (hb : Below w.heap.size w w') : ExE w' A c e := let ⟨D, h⟩ := h; ⟨D, h.below hb (Nat.le_refl _)⟩
theorem ExE.leaf (w : World) (e : Ex) (h : e.kids = []) : ExE w none 0 e := ⟨1, ExK.leaf w 0 e h⟩
/-- eight cells of a row from cell i on -/
theorem kid_row (w : World) (g i : Nat) (cs : Array Value) (t : TypeId) (h : w.heap[g]? = some (.cells cs t (0, 0))) (op : Int) (A : Option Addr) (n c : Nat) (nm : ByteArray) (y : Vl)
    (h0 : cs[i]? = some (.int .i64 op)) (h1 : cs[i + 1]? = some (.slice A n c)) (h2 : cs[i + 2]? = some (.string nm)) (h3 : cs[i + 3]? = some (.int .i64 y.k)) (h4 : cs[i + 4]? = some (.int .i64 y.i)) (h5 : cs[i + 5]? = some (.bool y.b)) (h6 : cs[i + 6]? = some (.string y.s)) (h7 : cs[i + 7]? = some (.float .f64 y.n)) :
    Kid w ⟨g, i, none⟩ op A n c nm y :=
  ⟨(cell_of_row w g _ _ _ (0, 0) h).trans h0, (cell_of_row w g _ _ _ (0, 0) h).trans h1, (cell_of_row w g _ _ _ (0, 0) h).trans h2, (cell_of_row w g _ _ _ (0, 0) h).trans h3, (cell_of_row w g _ _ _ (0, 0) h).trans h4, (cell_of_row w g _ _ _ (0, 0) h).trans h5, (cell_of_row w g _ _ _ (0, 0) h).trans h6, (cell_of_row w g _ _ _ (0, 0) h).trans h7⟩
/-- two kids laid in a new row -/
abbrev row2 (p0 : Int) (A0 : Option Addr) (n0 c0 : Nat) (m0 : ByteArray) (y0 : Vl) (p1 : Int) (A1 : Option Addr) (n1 c1 : Nat) (m1 : ByteArray) (y1 : Vl) : Obj :=
  .cells #[.int .i64 p0, .slice A0 n0 c0, .string m0, .int .i64 y0.k, .int .i64 y0.i, .bool y0.b, .string y0.s, .float .f64 y0.n, .int .i64 p1, .slice A1 n1 c1, .string m1, .int .i64 y1.k, .int .i64 y1.i, .bool y1.b, .string y1.s, .float .f64 y1.n] 58
theorem ExE.two {w : World} {A0 A1 : Option Addr} {c0 c1 : Nat} {e0 e1 : Ex} (o : Int) (h0 : ExE w A0 c0 e0) (h1 : ExE w A1 c1 e1) :
    ExE (w.alloc (row2 e0.op A0 e0.kids.length c0 e0.name e0.val e1.op A1 e1.kids.length c1 e1.name e1.val)) (some ⟨w.heap.size, 0, none⟩) 2 (opX o [e0, e1]) := by
  obtain ⟨D0, h0⟩ := h0
  obtain ⟨D1, h1⟩ := h1
  have hn := heap_alloc_new w (row2 e0.op A0 e0.kids.length c0 e0.name e0.val e1.op A1 e1.kids.length c1 e1.name e1.val)
  have hb : Below w.heap.size w (w.alloc (row2 e0.op A0 e0.kids.length c0 e0.name e0.val e1.op A1 e1.kids.length c1 e1.name e1.val)) := alloc1 _ _
  have g0 := (h0.upto D1).below hb (Nat.le_refl _)
  have g1 := (h1.upto D0).below hb (Nat.le_refl _)
  rw [Nat.add_comm] at g1
  refine ⟨D0 + D1 + 1, Nat.le_refl _, by unfold maxLen; show 2 ≤ 2 ^ 63 - 1; omega, fun h => (by cases h), fun j hj => ?_⟩
  have hj2 : j < 2 := hj
  match j, hj2 with
  | 0, _ => exact ⟨_, A0, c0, rfl, by simp, by rw [Addr.add_lit]; exact kid_row _ _ _ _ _ hn _ _ _ _ _ _ rfl rfl rfl rfl rfl rfl rfl rfl, g0⟩
  | 1, _ => exact ⟨_, A1, c1, rfl, by simp, by rw [Addr.add_lit]; exact kid_row _ _ _ _ _ hn _ _ _ _ _ _ rfl rfl rfl rfl rfl rfl rfl rfl, g1⟩
end Go.Proofs.YthgdnpcfdgimlabGreat

/- Layer 6: contracts as they lie in memory. -/
namespace Go.Proofs.YthgdnpcfdgimlabGreat
open Go.RowKit
set_option linter.unusedVariables false
set_option linter.unusedSimpArgs false
set_option maxRecDepth 20000

theorem cellp {w w' : World} {p : Addr} {x : Value} {B : Nat} (hb : Below B w w') (hl : p.block < B) (h : w.cell? p = some x) : w'.cell? p = some x := (hb.cell hl).trans h
/-- the row (A, its length, c) of parts of K cells, each of which is as R says -/
def RowK {α : Type} (w : World) (K : Nat) (R : World → Addr → α → Prop) (A : Option Addr) (c : Nat) (l : List α) : Prop :=
  l.length ≤ c ∧ c ≤ maxLen ∧ (A = none → c = 0) ∧ ∀ j (hj : j < l.length), ∃ ad, A = some ad ∧ ad.block < w.heap.size ∧ R w (ad.add (j * K)) l[j]
theorem RowK.below {α : Type} {w w' : World} {K : Nat} {R : World → Addr → α → Prop} {A : Option Addr} {c : Nat} {l : List α} (hR : ∀ (p : Addr) (x : α), p.block < w.heap.size → R w p x → R w' p x) (h : RowK w K R A c l) (hz : w.heap.size ≤ w'.heap.size) : RowK w' K R A c l := by
  obtain ⟨h1, h2, h3, h4⟩ := h
  refine ⟨h1, h2, h3, fun j hj => ?_⟩
  obtain ⟨ad, e1, e2, e3⟩ := h4 j hj
  exact ⟨ad, e1, Nat.lt_of_lt_of_le e2 hz, hR _ _ (by rw [block_add]; exact e2) e3⟩
theorem RowK.none {α : Type} (w : World) (K : Nat) (R : World → Addr → α → Prop) : RowK w K R none 0 [] := ⟨Nat.le_refl _, Nat.zero_le _, fun _ => rfl, fun j hj => absurd hj (Nat.not_lt_zero _)⟩

/-- a field at p -/
def FldP (w : World) (p : Addr) (f : Fld) : Prop := ∃ A c, Fdp w p f.f.name f.f.kind A f.en.length c f.y ∧ Ss w (.slice A f.en.length c) f.en
/-- ints in a row -/
def Is (w : World) (v : Value) (l : List Int) : Prop := Rd w v (l.map (Value.int .i64))
/-- a stage at p -/
def StgP (w : World) (p : Addr) (s : Stg) : Prop := ∃ A c, w.cell? p = some (.string s.name) ∧ w.cell? ⟨p.block, p.off + 1, none⟩ = some (.int .i64 s.need) ∧ w.cell? ⟨p.block, p.off + 2, none⟩ = some (.slice A s.orgs.length c) ∧ Is w (.slice A s.orgs.length c) s.orgs
/-- an effect at p -/
def EffP (w : World) (p : Addr) (e : Eff) : Prop := ∃ A c, w.cell? p = some (.string e.field) ∧ Kid w ⟨p.block, p.off + 1, none⟩ e.e.op A e.e.kids.length c e.e.name e.e.val ∧ ExE w A c e.e
abbrev EffK (w : World) : Option Addr → Nat → List Eff → Prop := RowK w 9 EffP
/-- a move at p -/
def MvP (w : World) (p : Addr) (m : Mv) : Prop := ∃ A c EA ec, w.cell? p = some (.string m.name) ∧ w.cell? ⟨p.block, p.off + 1, none⟩ = some (.int .i64 m.frm) ∧ w.cell? ⟨p.block, p.off + 2, none⟩ = some (.int .i64 m.too) ∧
  Kid w ⟨p.block, p.off + 3, none⟩ m.guard.op A m.guard.kids.length c m.guard.name m.guard.val ∧ ExE w A c m.guard ∧
  w.cell? ⟨p.block, p.off + 11, none⟩ = some (.slice EA m.effs.length ec) ∧ w.cell? ⟨p.block, p.off + 12, none⟩ = some (.int .i64 m.org) ∧ EffK w EA ec m.effs
theorem FldP.below {w w' : World} {p : Addr} {f : Fld} (h : FldP w p f) (hb : Below w.heap.size w w') (hl : p.block < w.heap.size) : FldP w' p f := by
  obtain ⟨A, c, h1, h2⟩ := h
  exact ⟨A, c, h1.below hb hl, h2.below hb (Nat.le_refl _)⟩
theorem StgP.below {w w' : World} {p : Addr} {s : Stg} (h : StgP w p s) (hb : Below w.heap.size w w') (hl : p.block < w.heap.size) : StgP w' p s := by
  obtain ⟨A, c, h1, h2, h3, h4⟩ := h
  exact ⟨A, c, cellp hb hl h1, cellp hb hl h2, cellp hb hl h3, Rd.below h4 hb (Nat.le_refl _)⟩
theorem EffP.below {w w' : World} {p : Addr} {e : Eff} (h : EffP w p e) (hb : Below w.heap.size w w') (hl : p.block < w.heap.size) : EffP w' p e := by
  obtain ⟨A, c, h1, h2, h3⟩ := h
  exact ⟨A, c, cellp hb hl h1, h2.below hb hl, h3.below hb⟩
theorem EffK.below {w w' : World} {A : Option Addr} {c : Nat} {l : List Eff} (h : EffK w A c l) (hb : Below w.heap.size w w') : EffK w' A c l := RowK.below (fun p x hl h => EffP.below h hb hl) h hb.size
theorem MvP.below {w w' : World} {p : Addr} {m : Mv} (h : MvP w p m) (hb : Below w.heap.size w w') (hl : p.block < w.heap.size) : MvP w' p m := by
  obtain ⟨A, c, EA, ec, h0, h1, h2, h3, h4, h5, h6, h7⟩ := h
  exact ⟨A, c, EA, ec, cellp hb hl h0, cellp hb hl h1, cellp hb hl h2, h3.below hb hl, h4.below hb, cellp hb hl h5, cellp hb hl h6, EffK.below h7 hb⟩
abbrev FldK (w : World) : Option Addr → Nat → List Fld → Prop := RowK w 8 FldP
abbrev StgK (w : World) : Option Addr → Nat → List Stg → Prop := RowK w 3 StgP
abbrev MvK (w : World) : Option Addr → Nat → List Mv → Prop := RowK w 13 MvP
theorem FldK.below {w w' : World} {A : Option Addr} {c : Nat} {l : List Fld} (h : FldK w A c l) (hb : Below w.heap.size w w') : FldK w' A c l := RowK.below (fun p x hl h => FldP.below h hb hl) h hb.size
theorem StgK.below {w w' : World} {A : Option Addr} {c : Nat} {l : List Stg} (h : StgK w A c l) (hb : Below w.heap.size w w') : StgK w' A c l := RowK.below (fun p x hl h => StgP.below h hb hl) h hb.size
theorem MvK.below {w w' : World} {A : Option Addr} {c : Nat} {l : List Mv} (h : MvK w A c l) (hb : Below w.heap.size w w') : MvK w' A c l := RowK.below (fun p x hl h => MvP.below h hb hl) h hb.size
/-- fields, as far as expressions ask -/
theorem FldK.fdk {w : World} {A : Option Addr} {c : Nat} {l : List Fld} (h : FldK w A c l) : FdK w A c (l.map Fld.f) := by
  obtain ⟨h1, h2, h3, h4⟩ := h
  refine ⟨by simpa using h1, h2, h3, fun j hj => ?_⟩
  have hjl : j < l.length := by simpa using hj
  obtain ⟨ad, e1, e2, EA, ec, e3, -⟩ := h4 j hjl
  rw [List.getElem_map]
  exact ⟨ad, EA, _, ec, _, e1, e2, e3⟩
/-- a contract's four cells -/
abbrev agC (nm : ByteArray) (FA : Option Addr) (fn fc : Nat) (SA : Option Addr) (sn sc : Nat) (MA : Option Addr) (mn mc : Nat) : Value := .agg #[.string nm, .slice FA fn fc, .slice SA sn sc, .slice MA mn mc]
/-- where a contract's rows lie -/
structure CtK (w : World) (c : Ctr) (FA : Option Addr) (fc : Nat) (SA : Option Addr) (sc : Nat) (MA : Option Addr) (mc : Nat) : Prop where
  f : FldK w FA fc c.fs
  s : StgK w SA sc c.ss
  m : MvK w MA mc c.ms
theorem CtK.below {w w' : World} {c : Ctr} {FA : Option Addr} {fc : Nat} {SA : Option Addr} {sc : Nat} {MA : Option Addr} {mc : Nat} (h : CtK w c FA fc SA sc MA mc) (hb : Below w.heap.size w w') : CtK w' c FA fc SA sc MA mc := ⟨h.f.below hb, h.s.below hb, h.m.below hb⟩
/-- its numbers are numbers of theirs -/
structure okC (c : Ctr) : Prop where
  y : ∀ f ∈ c.fs, okV f.y ∧ in64 f.f.kind
  s : ∀ s ∈ c.ss, in64 s.need ∧ ∀ o ∈ s.orgs, in64 o
  m : ∀ m ∈ c.ms, in64 m.frm ∧ in64 m.too ∧ in64 m.org ∧ (∀ k, okX k m.guard) ∧ ∀ e ∈ m.effs, ∀ k, okX k e.e
end Go.Proofs.YthgdnpcfdgimlabGreat

/- Layer 5: the laws' arguments, opened. -/
namespace Go.Proofs.YthgdnpcfdgimlabGreat
open Go.RowKit Go.ChangeShapes Go.WideShapes Go.ChangeAt
set_option linter.unusedVariables false
set_option linter.unusedSimpArgs false
set_option maxRecDepth 20000

section
variable {H : Type} {enc : TypeId × Value → H} {W : World} {sp : Nat → Bool} {hd : Bool} {base : Nat} {v : Value} {d : DataW H} {ps : List MemPlace}

theorem open_expr8 : ∀ (fuel : Nat) (cs : List Value) (x : DataW H × List MemPlace), DataW.trod enc Tryz.prog W 0 sp hd fuel 58 cs = some x → cs.length = 8 →
    ∃ (e : Ex) (A : Option Addr) (c D : Nat), cs = [.int .i64 e.op, .slice A e.kids.length c, .string e.name, .int .i64 e.val.k, .int .i64 e.val.i, .bool e.val.b, .string e.val.s, .float .f64 e.val.n] ∧ ExK W D A c e ∧ (∀ k, okX k e) := by
  intro fuel
  induction fuel using Nat.strongRecOn with
  | _ fuel ih =>
    intro cs x ht hlen
    obtain ⟨ys, m, hm, -, -, hys, hfs⟩ := DataW.trod_struct Tryz.underlying58 ht
    match cs, hlen with
    | [c0, c1, c2, c3, c4, c5, c6, c7], _ =>
      match ys, hys with
      | [y0, y1, y2, y3], _ =>
        have k1 : Tryz.prog.cellsOf 3 = 1 := by kernel_rfl
        have k2 : Tryz.prog.cellsOf 56 = 1 := by kernel_rfl
        have k3 : Tryz.prog.cellsOf 9 = 1 := by kernel_rfl
        have k4 : Tryz.prog.cellsOf 53 = 5 := by kernel_rfl
        have g0 := hfs 0 _ rfl
        have g1 := hfs 1 _ rfl
        have g2 := hfs 2 _ rfl
        have g3 := hfs 3 _ rfl
        simp [k1, k2, k3, k4] at g0 g1 g2 g3
        obtain ⟨z0, e0, -, w0⟩ := DataW.trod_int Tryz.underlying3 g0
        obtain ⟨z2, e2, -⟩ := DataW.trod_string Tryz.underlying9 g2
        obtain ⟨y, e3, hy⟩ := open_value5 g3 rfl
        simp at e0 e2 e3
        obtain ⟨e3, e4, e5, e6, e7⟩ := e3
        subst e0 e2 e3 e4 e5 e6 e7
        rcases DataW.trod_slice Tryz.underlying56 g1 with ⟨hc, -⟩ | ⟨a, len', cap', elems, rest, n, hn, hc, -, -, hl, hmx, hel, hx, -, -⟩
        · simp at hc
          subst hc
          refine ⟨.mk z0 z2 y [], none, 0, 1, rfl, ExK.leaf W 0 _ rfl, fun k => ?_⟩
          cases k with
          | zero => trivial
          | succ k => exact ⟨hy, in64_of w0, fun k hk => by cases hk⟩
        · simp at hc
          subst hc
          have h8 : Tryz.prog.cellsOf 58 = 8 := by kernel_rfl
          have each : ∀ i, i < len' → ∃ (q : Ex × Option Addr × Nat × Nat), Kid W (a.add (i * 8)) q.1.op q.2.1 q.1.kids.length q.2.2.1 q.1.name q.1.val ∧ ExK W q.2.2.2 q.2.1 q.2.2.1 q.1 ∧ (∀ k, okX k q.1) := by
            intro i hi
            have h1 := hx i hi
            rw [h8, List.getElem?_eq_getElem (by omega)] at h1
            obtain ⟨cs, hcs, ht⟩ := Option.bind_eq_some_iff.1 h1
            obtain ⟨-, hlen, hat⟩ := World.cells?_some hcs
            obtain ⟨e, A, c, D, hce, hk, hok⟩ := ih n (by omega) cs _ ht hlen
            subst hce
            have e0 := hat 0 (by omega)
            have e1 := hat 1 (by omega)
            have e2 := hat 2 (by omega)
            have e3 := hat 3 (by omega)
            have e4 := hat 4 (by omega)
            have e5 := hat 5 (by omega)
            have e6 := hat 6 (by omega)
            have e7 := hat 7 (by omega)
            exact ⟨(e, A, c, D), ⟨by simpa [Addr.add_zero'] using e0, by simpa [Addr.add_succ'] using e1, by simpa [Addr.add_succ'] using e2, by simpa [Addr.add_succ'] using e3, by simpa [Addr.add_succ'] using e4, by simpa [Addr.add_succ'] using e5, by simpa [Addr.add_succ'] using e6, by simpa [Addr.add_succ'] using e7⟩, hk, hok⟩
          have inst : Inhabited (Ex × Option Addr × Nat × Nat) := ⟨(.mk 0 ⟨#[]⟩ ⟨0, 0, false, ⟨#[]⟩, 0⟩ [], none, 0, 0)⟩
          obtain ⟨f, hf⟩ := Deep.choose_lt each
          have hup : ∀ i, i < len' → ExK W (((List.range len').map fun j => (f j).2.2.2).sum) (f i).2.1 (f i).2.2.1 (f i).1 := fun i hi => by
            have hle : ∀ (l : List Nat) (j : Nat), j ∈ l → (f j).2.2.2 ≤ (l.map fun j => (f j).2.2.2).sum := by
              intro l
              induction l with
              | nil => intro j hj; cases hj
              | cons a l ih2 =>
                intro j hj
                rw [List.map_cons, List.sum_cons]
                rcases List.mem_cons.1 hj with rfl | hj
                · omega
                · have := ih2 j hj; omega
            obtain ⟨m, hm⟩ := Nat.exists_eq_add_of_le (hle (List.range len') i (List.mem_range.2 hi))
            rw [hm]
            exact ExK.upto (hf i hi).2.1 m
          refine ⟨.mk z0 z2 y ((List.range len').map fun j => (f j).1), some a, cap', ((List.range len').map fun j => (f j).2.2.2).sum + 1, ?_, ?_, fun k => ?_⟩
          · simp [Ex.kids, Ex.op, Ex.name, Ex.val]
          · refine ⟨by simpa [Ex.kids] using hl, hmx, fun h => (by cases h), fun j hj => ?_⟩
            have hjl : j < len' := by simpa [Ex.kids] using hj
            have hk := (hf j hjl).1
            refine ⟨a, (f j).2.1, (f j).2.2.1, rfl, ?_, ?_, ?_⟩
            · have := cell_lt hk.1
              rwa [block_add] at this
            · simpa [Ex.kids] using hk
            · simpa [Ex.kids] using hup j hjl
          · cases k with
            | zero => trivial
            | succ k =>
              refine ⟨hy, in64_of w0, fun x hx => ?_⟩
              obtain ⟨j, hj, rfl⟩ := List.mem_map.1 hx
              exact (hf j (List.mem_range.1 hj)).2.2 k
theorem open_vls {m : Nat} {x : DataW H × List MemPlace} {c : Value} (h : DataW.trod enc Tryz.prog W 0 sp hd m 48 [c] = some x) : ∃ (vs : List Vl) (A : Option Addr) (cap : Nat), c = .slice A vs.length cap ∧ VlK W A cap vs ∧ ∀ v ∈ vs, okV v := by
  rcases DataW.trod_slice Tryz.underlying48 h with ⟨hc, -⟩ | ⟨a, len', cap', elems, rest, n, -, hc, -, -, hl, hm, hel, hx, -, -⟩
  · injection hc with hc
    subst hc
    exact ⟨[], none, 0, rfl, ⟨Nat.le_refl _, Nat.zero_le _, fun _ => rfl, fun j hj => absurd hj (Nat.not_lt_zero _)⟩, fun v hv => by cases hv⟩
  · injection hc with hc
    subst hc
    have h5 : Tryz.prog.cellsOf 53 = 5 := by kernel_rfl
    have each : ∀ i, i < len' → ∃ (y : Vl), Vlp W (a.add (i * 5)) y ∧ okV y := by
      intro i hi
      have h1 := hx i hi
      rw [h5, List.getElem?_eq_getElem (by omega)] at h1
      obtain ⟨cs, hcs, ht⟩ := Option.bind_eq_some_iff.1 h1
      obtain ⟨-, hlen, hat⟩ := World.cells?_some hcs
      obtain ⟨y, hc, hok⟩ := open_value5 ht hlen
      subst hc
      have e0 := hat 0 (by omega)
      have e1 := hat 1 (by omega)
      have e2 := hat 2 (by omega)
      have e3 := hat 3 (by omega)
      have e4 := hat 4 (by omega)
      exact ⟨y, ⟨by simpa [Addr.add_zero'] using e0, by simpa [Addr.add_succ'] using e1, by simpa [Addr.add_succ'] using e2, by simpa [Addr.add_succ'] using e3, by simpa [Addr.add_succ'] using e4⟩, hok⟩
    have inst : Inhabited Vl := ⟨⟨0, 0, false, ⟨#[]⟩, 0⟩⟩
    obtain ⟨f, hf⟩ := Deep.choose_lt each
    refine ⟨(List.range len').map f, some a, cap', by simp, ⟨by simpa using hl, hm, fun h => (by cases h), fun j hj => ?_⟩, fun v hv => ?_⟩
    · have hjl : j < len' := by simpa using hj
      have hk := (hf j hjl).1
      refine ⟨a, rfl, ?_, ?_⟩
      · have := cell_lt hk.1
        rwa [block_add] at this
      · simpa using hk
    · obtain ⟨j, hj, rfl⟩ := List.mem_map.1 hv
      exact (hf j (List.mem_range.1 hj)).2
end
end Go.Proofs.YthgdnpcfdgimlabGreat

/- Layer 6: contracts that are handed in, opened. -/
namespace Go.Proofs.YthgdnpcfdgimlabGreat
open Go.RowKit Go.ChangeShapes Go.WideShapes Go.ChangeAt
set_option linter.unusedVariables false
set_option linter.unusedSimpArgs false
set_option maxRecDepth 20000

section
variable {H : Type} {enc : TypeId × Value → H} {W : World} {sp : Nat → Bool} {hd : Bool} {base : Nat} {v : Value} {d : DataW H} {ps : List MemPlace}

/-- a row that is handed in, part by part -/
theorem row_of {α : Type} (inst : Inhabited α) {m : Nat} {x : DataW H × List MemPlace} {c : Value} {T E : TypeId} {K : Nat} (R : World → Addr → α → Prop) (Q : α → Prop) (hu : Tryz.prog.underlying T = some (.slice E)) (hK : Tryz.prog.cellsOf E = K) (hR : ∀ p x, R W p x → p.block < W.heap.size)
    (hpart : ∀ n cs y p, DataW.trod enc Tryz.prog W 0 sp hd n E cs = some y → cs.length = K → (∀ i, i < K → W.cell? (p.add i) = cs[i]?) → ∃ z, R W p z ∧ Q z)
    (h : DataW.trod enc Tryz.prog W 0 sp hd m T [c] = some x) : ∃ (l : List α) (A : Option Addr) (cap : Nat), c = .slice A l.length cap ∧ RowK W K R A cap l ∧ ∀ z ∈ l, Q z := by
  rcases DataW.trod_slice hu h with ⟨hc, -⟩ | ⟨a, len', cap', elems, rest, n, -, hc, -, -, hl, hm, hel, hx, -, -⟩
  · injection hc with hc
    subst hc
    exact ⟨[], none, 0, rfl, RowK.none _ _ _, fun z hz => by cases hz⟩
  · injection hc with hc
    subst hc
    have each : ∀ i, i < len' → ∃ z, R W (a.add (i * K)) z ∧ Q z := fun i hi => by
      have h1 := hx i hi
      rw [hK, List.getElem?_eq_getElem (by omega)] at h1
      obtain ⟨cs, hcs, ht⟩ := Option.bind_eq_some_iff.1 h1
      obtain ⟨-, hlen, hat⟩ := World.cells?_some hcs
      exact hpart n cs _ _ ht hlen hat
    obtain ⟨f, hf⟩ := Deep.choose_lt each
    refine ⟨(List.range len').map f, some a, cap', by simp, ⟨by simpa using hl, hm, fun h => (by cases h), fun j hj => ?_⟩, fun z hz => ?_⟩
    · have hjl : j < len' := by simpa using hj
      have hk := (hf j hjl).1
      refine ⟨a, rfl, ?_, by simpa using hk⟩
      have := hR _ _ hk
      rwa [block_add] at this
    · obtain ⟨j, hj, rfl⟩ := List.mem_map.1 hz
      exact (hf j (List.mem_range.1 hj)).2
theorem open_is {m : Nat} {x : DataW H × List MemPlace} {c : Value} (h : DataW.trod enc Tryz.prog W 0 sp hd m 67 [c] = some x) : ∃ l, Is W c l ∧ ∀ o ∈ l, in64 o := by
  rcases DataW.trod_slice Tryz.underlying67 h with ⟨hc, -⟩ | ⟨a, len', cap', elems, rest, n, -, hc, -, -, hl, hm, hel, hx, -, -⟩
  · injection hc with hc
    subst hc
    exact ⟨[], Rd.nil W, fun o ho => by cases ho⟩
  · injection hc with hc
    subst hc
    have hone : Tryz.prog.cellsOf 3 = 1 := by kernel_rfl
    have each : ∀ i, i < len' → ∃ x : Int, W.cell? (a.add i) = some (.int .i64 x) ∧ in64 x := by
      intro i hi
      have h1 := hx i hi
      rw [hone, Nat.mul_one, List.getElem?_eq_getElem (by omega)] at h1
      obtain ⟨cs, hcs, ht⟩ := Option.bind_eq_some_iff.1 h1
      obtain ⟨-, hlen, hat⟩ := World.cells?_some hcs
      match cs, hlen with
      | [x], _ =>
        have h0 := hat 0 (by simp)
        rw [Addr.add_zero'] at h0
        obtain ⟨z, hz, -, hw⟩ := DataW.trod_int Tryz.underlying3 ht
        injection hz with hz
        exact ⟨z, by rw [h0, hz]; rfl, in64_of hw⟩
    have inst : Inhabited Int := ⟨0⟩
    obtain ⟨f, hf'⟩ := Deep.choose_lt each
    refine ⟨(List.range len').map f, ⟨some a, cap', by simp, by simpa using hl, hm, (by intro h; cases h), fun hne => ⟨a, rfl, ?_, ?_⟩⟩, fun o ho => ?_⟩
    · have hpos : 0 < len' := by
        rcases Nat.eq_zero_or_pos len' with h0 | h0
        · subst h0; exact absurd rfl hne
        · exact h0
      have := cell_lt (hf' 0 hpos).1
      rwa [block_add] at this
    · intro j u hj
      have hjl : j < len' := by
        have := (List.getElem?_eq_some_iff.1 hj).1
        simpa using this
      simp [hjl] at hj
      rw [← hj]
      exact (hf' j hjl).1
    · obtain ⟨j, hj, rfl⟩ := List.mem_map.1 ho
      exact (hf' j (List.mem_range.1 hj)).2
theorem part_fld (n : Nat) (cs : List Value) (x : DataW H × List MemPlace) (p : Addr) (ht : DataW.trod enc Tryz.prog W 0 sp hd n 55 cs = some x) (hlen : cs.length = 8) (hat : ∀ i, i < 8 → W.cell? (p.add i) = cs[i]?) : ∃ z, FldP W p z ∧ (okV z.y ∧ in64 z.f.kind) := by
  obtain ⟨ys, m, -, -, -, hys, hfs⟩ := DataW.trod_struct Tryz.underlying55 ht
  match cs, hlen with
  | [c0, c1, c2, c3, c4, c5, c6, c7], _ =>
    match ys, hys with
    | [y0, y1, y2, y3], _ =>
      have k1 : Tryz.prog.cellsOf 9 = 1 := by kernel_rfl
      have k2 : Tryz.prog.cellsOf 3 = 1 := by kernel_rfl
      have k3 : Tryz.prog.cellsOf 50 = 1 := by kernel_rfl
      have k4 : Tryz.prog.cellsOf 53 = 5 := by kernel_rfl
      have g0 := hfs 0 _ rfl
      have g1 := hfs 1 _ rfl
      have g2 := hfs 2 _ rfl
      have g3 := hfs 3 _ rfl
      simp [k1, k2, k3, k4] at g0 g1 g2 g3
      obtain ⟨z0, e0, -⟩ := DataW.trod_string Tryz.underlying9 g0
      obtain ⟨z1, e1, -, w1⟩ := DataW.trod_int Tryz.underlying3 g1
      obtain ⟨y, e3, hy⟩ := open_value5 g3 rfl
      obtain ⟨ss, hss⟩ := open_texts g2
      obtain ⟨A, c, rfl, -⟩ := hss.open
      simp at e0 e1 e3
      obtain ⟨e3, e4, e5, e6, e7⟩ := e3
      subst e0 e1 e3 e4 e5 e6 e7
      have e0 := hat 0 (by omega)
      have e1 := hat 1 (by omega)
      have e2 := hat 2 (by omega)
      have e3 := hat 3 (by omega)
      have e4 := hat 4 (by omega)
      have e5 := hat 5 (by omega)
      have e6 := hat 6 (by omega)
      have e7 := hat 7 (by omega)
      exact ⟨⟨⟨z0, z1⟩, ss, y⟩, ⟨A, c, ⟨by simpa [Addr.add_zero'] using e0, by simpa [Addr.add_succ'] using e1, by simpa [Addr.add_succ'] using e2, by simpa [Addr.add_succ'] using e3, by simpa [Addr.add_succ'] using e4, by simpa [Addr.add_succ'] using e5, by simpa [Addr.add_succ'] using e6, by simpa [Addr.add_succ'] using e7⟩, hss⟩, hy, in64_of w1⟩
theorem part_stg (n : Nat) (cs : List Value) (x : DataW H × List MemPlace) (p : Addr) (ht : DataW.trod enc Tryz.prog W 0 sp hd n 69 cs = some x) (hlen : cs.length = 3) (hat : ∀ i, i < 3 → W.cell? (p.add i) = cs[i]?) : ∃ z, StgP W p z ∧ (in64 z.need ∧ ∀ o ∈ z.orgs, in64 o) := by
  obtain ⟨ys, m, -, -, -, hys, hfs⟩ := DataW.trod_struct Tryz.underlying69 ht
  match cs, hlen with
  | [c0, c1, c2], _ =>
    match ys, hys with
    | [y0, y1, y2], _ =>
      have k1 : Tryz.prog.cellsOf 9 = 1 := by kernel_rfl
      have k2 : Tryz.prog.cellsOf 3 = 1 := by kernel_rfl
      have k3 : Tryz.prog.cellsOf 67 = 1 := by kernel_rfl
      have g0 := hfs 0 _ rfl
      have g1 := hfs 1 _ rfl
      have g2 := hfs 2 _ rfl
      simp [k1, k2, k3] at g0 g1 g2
      obtain ⟨z0, e0, -⟩ := DataW.trod_string Tryz.underlying9 g0
      obtain ⟨z1, e1, -, w1⟩ := DataW.trod_int Tryz.underlying3 g1
      obtain ⟨l, hl, hok⟩ := open_is g2
      have hl2 := hl
      obtain ⟨A, c, rfl, -⟩ := hl
      simp only [List.length_map] at hl2 hat ⊢
      simp at e0 e1
      subst e0 e1
      have e0 := hat 0 (by omega)
      have e1 := hat 1 (by omega)
      have e2 := hat 2 (by omega)
      exact ⟨⟨z0, z1, l⟩, ⟨A, c, by simpa [Addr.add_zero'] using e0, by simpa [Addr.add_succ'] using e1, by simpa [Addr.add_succ'] using e2, hl2⟩, in64_of w1, hok⟩
theorem part_eff (n : Nat) (cs : List Value) (x : DataW H × List MemPlace) (p : Addr) (ht : DataW.trod enc Tryz.prog W 0 sp hd n 65 cs = some x) (hlen : cs.length = 9) (hat : ∀ i, i < 9 → W.cell? (p.add i) = cs[i]?) : ∃ z, EffP W p z ∧ (∀ k, okX k z.e) := by
  obtain ⟨ys, m, -, -, -, hys, hfs⟩ := DataW.trod_struct Tryz.underlying65 ht
  match cs, hlen with
  | [c0, c1, c2, c3, c4, c5, c6, c7, c8], _ =>
    match ys, hys with
    | [y0, y1], _ =>
      have k1 : Tryz.prog.cellsOf 9 = 1 := by kernel_rfl
      have k2 : Tryz.prog.cellsOf 58 = 8 := by kernel_rfl
      have g0 := hfs 0 _ rfl
      have g1 := hfs 1 _ rfl
      simp [k1, k2] at g0 g1
      obtain ⟨z0, e0, -⟩ := DataW.trod_string Tryz.underlying9 g0
      obtain ⟨e, A, c, D, hc, hx, hok⟩ := open_expr8 _ _ _ g1 rfl
      simp at e0 hc
      obtain ⟨e1, e2, e3, e4, e5, e6, e7, e8⟩ := hc
      subst e0 e1 e2 e3 e4 e5 e6 e7 e8
      have e0 := hat 0 (by omega)
      have e1 := hat 1 (by omega)
      have e2 := hat 2 (by omega)
      have e3 := hat 3 (by omega)
      have e4 := hat 4 (by omega)
      have e5 := hat 5 (by omega)
      have e6 := hat 6 (by omega)
      have e7 := hat 7 (by omega)
      have e8 := hat 8 (by omega)
      exact ⟨⟨z0, e⟩, ⟨A, c, by simpa [Addr.add_zero'] using e0, ⟨by simpa [Addr.add_succ'] using e1, by simpa [Addr.add_succ'] using e2, by simpa [Addr.add_succ'] using e3, by simpa [Addr.add_succ'] using e4, by simpa [Addr.add_succ'] using e5, by simpa [Addr.add_succ'] using e6, by simpa [Addr.add_succ'] using e7, by simpa [Addr.add_succ'] using e8⟩, ⟨D, hx⟩⟩, hok⟩
theorem part_mv (n : Nat) (cs : List Value) (x : DataW H × List MemPlace) (p : Addr) (ht : DataW.trod enc Tryz.prog W 0 sp hd n 61 cs = some x) (hlen : cs.length = 13) (hat : ∀ i, i < 13 → W.cell? (p.add i) = cs[i]?) : ∃ z, MvP W p z ∧ (in64 z.frm ∧ in64 z.too ∧ in64 z.org ∧ (∀ k, okX k z.guard) ∧ ∀ e ∈ z.effs, ∀ k, okX k e.e) := by
  obtain ⟨ys, m, -, -, -, hys, hfs⟩ := DataW.trod_struct Tryz.underlying61 ht
  match cs, hlen with
  | [c0, c1, c2, c3, c4, c5, c6, c7, c8, c9, c10, c11, c12], _ =>
    match ys, hys with
    | [y0, y1, y2, y3, y4, y5], _ =>
      have k1 : Tryz.prog.cellsOf 9 = 1 := by kernel_rfl
      have k2 : Tryz.prog.cellsOf 58 = 8 := by kernel_rfl
      have k3 : Tryz.prog.cellsOf 3 = 1 := by kernel_rfl
      have k4 : Tryz.prog.cellsOf 59 = 1 := by kernel_rfl
      have k5 : Tryz.prog.cellsOf 65 = 9 := by kernel_rfl
      have g0 := hfs 0 _ rfl
      have g1 := hfs 1 _ rfl
      have g2 := hfs 2 _ rfl
      have g3 := hfs 3 _ rfl
      have g4 := hfs 4 _ rfl
      have g5 := hfs 5 _ rfl
      simp [k1, k2, k3, k4] at g0 g1 g2 g3 g4 g5
      obtain ⟨z0, e0, -⟩ := DataW.trod_string Tryz.underlying9 g0
      obtain ⟨z1, e1, -, w1⟩ := DataW.trod_int Tryz.underlying3 g1
      obtain ⟨z2, e2, -, w2⟩ := DataW.trod_int Tryz.underlying3 g2
      obtain ⟨z5, e5, -, w5⟩ := DataW.trod_int Tryz.underlying3 g5
      obtain ⟨e, A, c, D, hc, hx, hok⟩ := open_expr8 _ _ _ g3 rfl
      obtain ⟨l, EA, ec, rfl, hl, hlk⟩ := row_of (K := 9) ⟨⟨⟨#[]⟩, .mk 0 ⟨#[]⟩ vZero []⟩⟩ EffP (fun z => ∀ k, okX k z.e) Tryz.underlying59 k5 (fun p x h => by obtain ⟨_, _, h, -⟩ := h; exact cell_lt h) part_eff g4
      simp at e0 e1 e2 e5 hc
      obtain ⟨f1, f2, f3, f4, f5, f6, f7, f8⟩ := hc
      subst e0 e1 e2 e5 f1 f2 f3 f4 f5 f6 f7 f8
      have e0 := hat 0 (by omega)
      have e1 := hat 1 (by omega)
      have e2 := hat 2 (by omega)
      have e3 := hat 3 (by omega)
      have e4 := hat 4 (by omega)
      have e5 := hat 5 (by omega)
      have e6 := hat 6 (by omega)
      have e7 := hat 7 (by omega)
      have e8 := hat 8 (by omega)
      have e9 := hat 9 (by omega)
      have e10 := hat 10 (by omega)
      have e11 := hat 11 (by omega)
      have e12 := hat 12 (by omega)
      exact ⟨⟨z0, z1, z2, e, l, z5⟩, ⟨A, c, EA, ec, by simpa [Addr.add_zero'] using e0, by simpa [Addr.add_succ'] using e1, by simpa [Addr.add_succ'] using e2, ⟨by simpa [Addr.add_succ'] using e3, by simpa [Addr.add_succ'] using e4, by simpa [Addr.add_succ'] using e5, by simpa [Addr.add_succ'] using e6, by simpa [Addr.add_succ'] using e7, by simpa [Addr.add_succ'] using e8, by simpa [Addr.add_succ'] using e9, by simpa [Addr.add_succ'] using e10⟩, ⟨D, hx⟩, by simpa [Addr.add_succ'] using e11, by simpa [Addr.add_succ'] using e12, hl⟩, in64_of w1, in64_of w2, in64_of w5, hok, hlk⟩
/-- a contract that is handed in -/
theorem open_ctr (hv : Value.okWide Tryz.prog W .any base 26 v) (h : DataW.Trod enc Tryz.prog W 0 sp hd 26 v d ps) :
    ∃ (c : Ctr) (FA : Option Addr) (fc : Nat) (SA : Option Addr) (sc : Nat) (MA : Option Addr) (mc : Nat), v = agC c.name FA c.fs.length fc SA c.ss.length sc MA c.ms.length mc ∧ CtK W c FA fc SA sc MA mc ∧ okC c := by
  obtain ⟨cs, rfl, hsz⟩ := okWide_struct Tryz.underlying26 hv
  obtain ⟨fuel, hf⟩ := h
  obtain ⟨ys, m, -, -, -, hys, hfs⟩ := DataW.trod_struct Tryz.underlying26 hf
  have k0 : Tryz.prog.cellsOf 26 = 4 := by kernel_rfl
  have k1 : Tryz.prog.cellsOf 9 = 1 := by kernel_rfl
  have k2 : Tryz.prog.cellsOf 22 = 1 := by kernel_rfl
  have k3 : Tryz.prog.cellsOf 23 = 1 := by kernel_rfl
  have k4 : Tryz.prog.cellsOf 24 = 1 := by kernel_rfl
  have k5 : Tryz.prog.cellsOf 55 = 8 := by kernel_rfl
  have k6 : Tryz.prog.cellsOf 69 = 3 := by kernel_rfl
  have k7 : Tryz.prog.cellsOf 61 = 13 := by kernel_rfl
  rw [k0] at hsz
  obtain ⟨l⟩ := cs
  match l, hsz with
  | [c0, c1, c2, c3], _ =>
    match ys, hys with
    | [y0, y1, y2, y3], _ =>
      have g0 := hfs 0 _ rfl
      have g1 := hfs 1 _ rfl
      have g2 := hfs 2 _ rfl
      have g3 := hfs 3 _ rfl
      simp [k1, k2, k3, k4, Value.cells] at g0 g1 g2 g3
      obtain ⟨z0, e0, -⟩ := DataW.trod_string Tryz.underlying9 g0
      simp at e0
      subst e0
      obtain ⟨fs, FA, fc, rfl, hfk, hfo⟩ := row_of (K := 8) ⟨⟨⟨⟨#[]⟩, 0⟩, [], vZero⟩⟩ FldP (fun z => okV z.y ∧ in64 z.f.kind) Tryz.underlying22 k5 (fun p x h => by obtain ⟨_, _, h, -⟩ := h; exact cell_lt h.1) part_fld g1
      obtain ⟨ss, SA, sc, rfl, hsk, hso⟩ := row_of (K := 3) ⟨⟨⟨#[]⟩, 0, []⟩⟩ StgP (fun z => in64 z.need ∧ ∀ o ∈ z.orgs, in64 o) Tryz.underlying23 k6 (fun p x h => by obtain ⟨_, _, h, -⟩ := h; exact cell_lt h) part_stg g2
      obtain ⟨ms, MA, mc, rfl, hmk, hmo⟩ := row_of (K := 13) ⟨⟨⟨#[]⟩, 0, 0, .mk 0 ⟨#[]⟩ vZero [], [], 0⟩⟩ MvP (fun z => in64 z.frm ∧ in64 z.too ∧ in64 z.org ∧ (∀ k, okX k z.guard) ∧ ∀ e ∈ z.effs, ∀ k, okX k e.e) Tryz.underlying24 k7 (fun p x h => by obtain ⟨_, _, _, _, h, -⟩ := h; exact cell_lt h) part_mv g3
      exact ⟨⟨z0, fs, ss, ms⟩, FA, fc, SA, sc, MA, mc, rfl, ⟨hfk, hsk, hmk⟩, ⟨hfo, hso, hmo⟩⟩
end
end Go.Proofs.YthgdnpcfdgimlabGreat

/- Layer 6: an opener of values. -/
namespace Go.Proofs.YthgdnpcfdgimlabGreat
open Go.RowKit Go.ChangeShapes Go.WideShapes Go.ChangeAt
set_option linter.unusedVariables false
set_option linter.unusedSimpArgs false
set_option maxRecDepth 20000

section
variable {H : Type} {enc : TypeId × Value → H} {W : World} {sp : Nat → Bool} {hd : Bool} {base : Nat} {v : Value} {d : DataW H} {ps : List MemPlace}
theorem open_vlrow (hv : Value.okWide Tryz.prog W .any base 48 v) (h : DataW.Trod enc Tryz.prog W 0 sp hd 48 v d ps) : ∃ (vs : List Vl) (A : Option Addr) (cap : Nat), v = .slice A vs.length cap ∧ VlK W A cap vs ∧ ∀ v ∈ vs, okV v := by
  obtain ⟨A, len, cap, rfl⟩ := okWide_slice Tryz.underlying48 hv
  obtain ⟨fuel, hf⟩ := h
  exact open_vls (by simpa [Value.cells] using hf)
end
end Go.Proofs.YthgdnpcfdgimlabGreat

/- Layer 5: expressions as bytes, by the program. -/
namespace Go.Proofs.YthgdnpcfdgimlabGreat
open Go.RowKit
set_option linter.unusedVariables false
set_option linter.unusedSimpArgs false
set_option maxRecDepth 20000

/-- short texts, few kids -/
def txtX : Nat → Ex → Prop
  | 0, _ => True
  | d + 1, e => e.name.data.toList.length ≤ 1000 ∧ e.val.s.data.toList.length ≤ 1000 ∧ e.kids.length ≤ 1000 ∧ ∀ k ∈ e.kids, txtX d k
theorem valB_le (v : Vl) : (valB v).length ≤ 20 + v.s.data.toList.length := by
  unfold valB
  rw [List.length_append, be_length]
  split
  · rw [be_length]; omega
  split
  · rw [be_length]; omega
  split
  · rw [List.length_append, be_length]; omega
  split
  · rw [be_length]; omega
  · rw [List.length_nil]; omega
theorem flat_le (d : Nat) (h : ∀ e, txtX d e → (putX d e).length ≤ 2100 * sizeX d e) : ∀ ks : List Ex, (∀ k ∈ ks, txtX d k) → (ks.flatMap (putX d)).length ≤ 2100 * (ks.map (sizeX d)).sum
  | [], _ => Nat.zero_le _
  | k :: ks, hk => by
    rw [List.flatMap_cons, List.length_append, List.map_cons, List.sum_cons, Nat.mul_add]
    exact Nat.add_le_add (h k (hk k (List.mem_cons_self ..))) (flat_le d h ks fun x hx => hk x (List.mem_cons_of_mem _ hx))
theorem putX_le : ∀ d e, txtX d e → (putX d e).length ≤ 2100 * sizeX d e
  | 0, e, _ => Nat.zero_le _
  | d + 1, e, h => by
    obtain ⟨h1, h2, -, h4⟩ := h
    have hf := flat_le d (putX_le d) e.kids h4
    have hv := valB_le e.val
    unfold putX sizeX
    simp only [List.length_append, be_length]
    rw [Nat.mul_add]
    omega
theorem deep_size : ∀ d e, deepX d e → 1 ≤ sizeX d e
  | 0, e, h => False.elim h
  | d + 1, e, _ => by unfold sizeX; omega
theorem kids_size (d : Nat) : ∀ ks : List Ex, (∀ k ∈ ks, deepX d k) → ks.length ≤ (ks.map (sizeX d)).sum
  | [], _ => Nat.le_refl _
  | k :: ks, h => by
    have h1 := deep_size d k (h k (List.mem_cons_self ..))
    have h2 := kids_size d ks fun x hx => h x (List.mem_cons_of_mem _ hx)
    rw [List.length_cons, List.map_cons, List.sum_cons]
    omega
theorem mem_size (d : Nat) : ∀ (ks : List Ex) (k : Ex), k ∈ ks → sizeX d k ≤ (ks.map (sizeX d)).sum
  | k :: ks, x, h => by
    rw [List.map_cons, List.sum_cons]
    rcases List.mem_cons.1 h with rfl | h
    · omega
    · have := mem_size d ks x h; omega
/-- all texts are short -/
def shX : Nat → Ex → Prop
  | 0, _ => True
  | d + 1, e => e.name.data.toList.length ≤ 1000 ∧ e.val.s.data.toList.length ≤ 1000 ∧ ∀ k ∈ e.kids, shX d k
theorem txtX_of : ∀ d e, deepX d e → sizeX d e ≤ 1000 → shX d e → txtX d e
  | 0, _, _, _, _ => trivial
  | d + 1, e, hd, hs, h => by
    have h1 := kids_size d e.kids hd
    have hs' : 1 + (e.kids.map (sizeX d)).sum ≤ 1000 := hs
    exact ⟨h.1, h.2.1, by omega, fun k hk => txtX_of d k (hd k hk) (by have := mem_size d e.kids k hk; omega) (h.2.2 k hk)⟩
theorem bel2 {a b c : World} (h : Below a.heap.size a b) (k : Below b.heap.size b c) : Below a.heap.size a c := h.trans (k.mono h.size)
theorem capC_of {n : Nat} (h : n ≤ 1000) : (capC (n : Int)).toNat = n := by unfold capC; omega
theorem own_belowX {w w' : World} {base e s n : Nat} {v : Value} {xs : List Value} (h : w.ownsRow base e s v n xs) (hb : Below w.heap.size w w') : w'.ownsRow base e s v n xs := by
  obtain ⟨h1, h2⟩ := h
  refine ⟨h1, ?_⟩
  rcases h2 with h2 | ⟨g, cap, cur, e1, e2, e3, e4⟩
  · exact .inl h2
  · exact .inr ⟨g, cap, cur, e1, e2, (hb.block g (Array.getElem?_eq_some_iff.1 e3).1).trans e3, e4⟩
theorem own_len {w : World} {B : Nat} {v : Value} {n m : Nat} {l : List UInt8} (h : w.ownsRow B 5 1 v n (l.map bc)) (hm : m = l.length) : w.ownsRow B 5 1 v m (l.map bc) := by
  have h1 := h.1
  simp at h1
  subst hm
  rw [h1]; exact h
/-- what is put behind an own row -/
def PutsO (B : Nat) (l : List UInt8) (w : World) (e : Ending) (w' : World) : Prop := ∃ v', e = .returned v' ∧ w'.ownsRow B 5 1 v' l.length (l.map bc) ∧ Below B w w'
theorem take_put (d : Nat) (ks : List Ex) (k : Nat) (hk : k < ks.length) : (ks.take (k + 1)).flatMap (putX d) = (ks.take k).flatMap (putX d) ++ putX d ks[k] := by
  rw [List.take_succ_eq_append_getElem hk, List.flatMap_append]
  simp
theorem take_put_le (d : Nat) (ks : List Ex) (k : Nat) : ((ks.take k).flatMap (putX d)).length ≤ (ks.flatMap (putX d)).length := by
  have h : ks.flatMap (putX d) = (ks.take k).flatMap (putX d) ++ (ks.drop k).flatMap (putX d) := by rw [← List.flatMap_append, List.take_append_drop]
  rw [h, List.length_append]; omega
theorem text_bs (s : ByteArray) (h : s.data.toList.length ≤ 1000) (W : World) : Bs (Lib.bytesWorld W 5 s) (.slice (some ⟨W.heap.size, 0, none⟩) s.size (grownCap W s.size 0 5)) s.data.toList := by
  have h := bytesWorld_bs W s.data.toList (by unfold maxLen; omega) _ rfl
  rwa [← strB_of s] at h

set_option maxHeartbeats 4000000 in
theorem appendParts_any (w0 : World) (B : Nat) (hB0 : w0.heap.size ≤ B) : ∀ (D d : Nat) (e : Ex) (A : Option Addr) (c : Nat) (v : Value) (l : List UInt8) (w : World), ExK w0 D A c e → deepX d e → txtX d e → okX d e → Below w0.heap.size w0 w → B ≤ w.heap.size → w.ownsRow B 5 1 v l.length (l.map bc) → l.length + (putX d e).length ≤ 60000 →
    Calls Tryz.prog 136 #[v, agX e.op A e.kids.length c e.name e.val] w (PutsO B (l ++ putX d e) w)
  | 0, _, _, _, _, _, _, _, h, _, _, _, _, _, _, _ => False.elim h
  | D + 1, 0, _, _, _, _, _, _, _, h, _, _, _, _, _, _ => False.elim h
  | D + 1, d + 1, e, A, c, v, l, w, hx, hdp, htx, hok, hb, hB, hown, hlen => by
    obtain ⟨i0, hi, hz0, hz1, hz2⟩ := info_parts u8info
    obtain ⟨h2, h3, h4, h5⟩ := hx
    have ih := appendParts_any w0 B hB0 D
    obtain ⟨t1, t2, t3, t4⟩ := htx
    obtain ⟨⟨-, -, okn⟩, -, okk⟩ := hok
    replace hdp : ∀ k ∈ e.kids, deepX d k := hdp
    have hput : putX (d + 1) e = (be 8 (w64 e.op) ++ be 4 e.kids.length ++ be 4 e.name.data.toList.length ++ e.name.data.toList ++ valB e.val) ++ e.kids.flatMap (putX d) := by
      unfold putX
      simp only [List.append_assoc]
    rw [hput] at hlen ⊢
    clear hput
    generalize e.kids = ks at *
    generalize e.op = eop at *
    generalize e.name = enm at *
    generalize e.val = ev at *
    have hvl := valB_le ev
    have q1 : ∀ W, Calls Tryz.prog 133 #[.slice none 0 0, .int .i64 eop] W (Puts W (be 8 (w64 eop))) := fun W => PutInt_any _ [] eop W (Bs.nil W) (by simp)
    have q2 : ∀ W u, Bs W u (be 8 (w64 eop)) → Calls Tryz.prog 86 #[u, .int .i64 ks.length] W (Puts W (be 8 (w64 eop) ++ be 4 ks.length)) := fun W u hu => by
      have h := PutCount_any u _ ks.length W hu (by rw [be_length]; omega) (by omega) (by omega)
      rwa [capC_of t3] at h
    have hcv := fun (W : World) => Lib.run_convert_string_bytes (P := Tryz.prog) W 9 34 5 enm Tryz.underlying9 Tryz.underlying34 Tryz.underlying5
    have q3 : ∀ W z u, Bs W z (be 8 (w64 eop) ++ be 4 ks.length) → Bs W u enm.data.toList → Calls Tryz.prog 85 #[z, u] W (Puts W (be 8 (w64 eop) ++ be 4 ks.length ++ be 4 enm.data.toList.length ++ enm.data.toList)) := fun W z u hz hu => PutBytes_any z u _ _ W hz hu (by rw [List.length_append, be_length, be_length]; omega) (by omega)
    have q4 : ∀ W z, Bs W z (be 8 (w64 eop) ++ be 4 ks.length ++ be 4 enm.data.toList.length ++ enm.data.toList) → Calls Tryz.prog 89 #[z, agV ev] W (PutsV W (be 8 (w64 eop) ++ be 4 ks.length ++ be 4 enm.data.toList.length ++ enm.data.toList ++ valB ev)) := fun W z hz => Put_val ev z _ W hz (by simp only [List.length_append, be_length]; omega) (by omega) okn
    have hn : (be 8 (w64 eop) ++ be 4 ks.length ++ be 4 enm.data.toList.length ++ enm.data.toList ++ valB ev).length ≤ 3000 := by simp only [List.length_append, be_length]; omega
    have HBW := Lib.hid (text_bs enm t1)
    have Q1 := Lib.hid q1
    have Q2 := Lib.hid q2
    have Q3 := Lib.hid q3
    have Q4 := Lib.hid q4
    generalize be 8 (w64 eop) ++ be 4 ks.length ++ be 4 enm.data.toList.length ++ enm.data.toList ++ valB ev = hdl at *
    generalize be 8 (w64 eop) ++ be 4 ks.length ++ be 4 enm.data.toList.length ++ enm.data.toList = l3 at *
    generalize be 8 (w64 eop) ++ be 4 ks.length = l2 at *
    generalize be 8 (w64 eop) = l1 at *
    have HIH := Lib.hid (fun (j : Nat) (hj : j < ks.length) A' c' v l W (hx : ExK w0 D A' c' ks[j]) (hB' : Below w0.heap.size w0 W) (hs : B ≤ W.heap.size) (ho : W.ownsRow B 5 1 v l.length (l.map bc)) (hl : l.length + (putX d (ks[j]'hj)).length ≤ 60000) => ih d ks[j] A' c' v l W hx (hdp _ (List.getElem_mem hj)) (t4 _ (List.getElem_mem hj)) (okk _ (List.getElem_mem hj)) hB' hs ho hl)
    have H5 := Lib.hid h5
    have HTP := Lib.hid (take_put d ks)
    have HTL := Lib.hid (take_put_le d ks)
    have hkid := Lib.hid (Kid_new w eop A ks.length c enm ev)
    have hk3 : ks.length ≤ 9223372036854775807 := by omega
    clear ih h5 h2 h3 h4 q1 q2 q3 q4 t1 t2 t3 t4 okn okk hdp hvl
    have HW0 := Lib.hid (alloc1 w (bxX eop A ks.length c enm ev))
    have HVL := Lib.hid (fun k hk => hown.lt k hk)
    have HV := Lib.hid (own_belowX hown (alloc1 w (bxX eop A ks.length c enm ev)))
    have HLN := Lib.hid hlen
    have HN := Lib.hid hn
    have HB := Lib.hid hb
    have HBB := Lib.hid hB
    have HB0 := Lib.hid hB0
    clear hown hlen hn hb hB hB0
    go_enter Tryz.func136, Tryz.ntmps136
    go_upto_region 1 with fail
    have hsz : w.heap.size < (w.alloc (bxX eop A ks.length c enm ev)).heap.size := by simp
    generalize w.alloc (bxX eop A ks.length c enm ev) = wk at *
    have hall : ∀ W, Below wk.heap.size wk W → CellsX W w.heap.size eop A ks.length c enm ev := fun W h => hkid.out.below h
    have HALL := Lib.hid hall
    clear hall
    have hk1 : ∀ W W', (Below wk.heap.size wk W ∧ W.cell? ⟨w.heap.size, 0, none⟩ = some (.int .i64 eop) ∧ W.cell? ⟨w.heap.size, 1, none⟩ = some (.slice A ks.length c)) → Below W.heap.size W W' → (Below wk.heap.size wk W' ∧ W'.cell? ⟨w.heap.size, 0, none⟩ = some (.int .i64 eop) ∧ W'.cell? ⟨w.heap.size, 1, none⟩ = some (.slice A ks.length c)) :=
      fun W W' h hb => ⟨bel2 h.1 hb, (HALL.out W' (bel2 h.1 hb)).1, (HALL.out W' (bel2 h.1 hb)).2.1⟩
    have HK1 := Lib.hid hk1
    have hS1 : Below wk.heap.size wk wk.drew ∧ wk.drew.cell? ⟨w.heap.size, 0, none⟩ = some (.int .i64 eop) ∧ wk.drew.cell? ⟨w.heap.size, 1, none⟩ = some (.slice A ks.length c) := ⟨(Below.refl _ _).drew, (HALL.out _ (Below.refl _ _).drew).1, (HALL.out _ (Below.refl _ _).drew).2.1⟩
    have HS1 := Lib.hid hS1
    clear hk1 hS1
    go_cut [5] from 8 to 14 (fun s5 wx => ∃ v5, s5 = v5 ∧ Bs wx v5 l2 ∧ Below wk.heap.size wk wx)
    case first =>
      go_region_held3 (fun W => Below wk.heap.size wk W ∧ W.cell? ⟨w.heap.size, 0, none⟩ = some (.int .i64 eop) ∧ W.cell? ⟨w.heap.size, 1, none⟩ = some (.slice A ks.length c)) (first | exact HS1.out | exact HK1.out _ _ (by assumption) hbA | exact HK1.out _ _ (by assumption) hbB) (first
        | (go_at_call 133; refine (Q1.out _).mono ?_; rintro e wA ⟨v1, rfl, ho1, hbA⟩)
        | (go_at_call 86; refine (Q2.out _ _ (Rd.of_own ho1)).mono ?_; rintro e wB ⟨v2, rfl, ho2, hbB⟩))
      go_wp2_with fail
      go_meet
      exact ⟨_, rfl, Rd.of_own ho2, bel2 (bel2 (Below.refl _ _).drew hbA) hbB⟩
    case rest =>
    obtain ⟨v5, rfl, hv5, hb5⟩ := hcut
    have HV5 := Lib.hid hv5
    have hb6 := bel2 HW0.out hb5
    have hk2 : ∀ W W', (Below wc.heap.size wc W ∧ W.cell? ⟨w.heap.size, 2, none⟩ = some (.string enm) ∧ W.cell? ⟨w.heap.size, 3, none⟩ = some (.int .i64 ev.k) ∧ W.cell? ⟨w.heap.size, 4, none⟩ = some (.int .i64 ev.i) ∧ W.cell? ⟨w.heap.size, 5, none⟩ = some (.bool ev.b) ∧ W.cell? ⟨w.heap.size, 6, none⟩ = some (.string ev.s) ∧ W.cell? ⟨w.heap.size, 7, none⟩ = some (.float .f64 ev.n)) → Below W.heap.size W W' → (Below wc.heap.size wc W' ∧ W'.cell? ⟨w.heap.size, 2, none⟩ = some (.string enm) ∧ W'.cell? ⟨w.heap.size, 3, none⟩ = some (.int .i64 ev.k) ∧ W'.cell? ⟨w.heap.size, 4, none⟩ = some (.int .i64 ev.i) ∧ W'.cell? ⟨w.heap.size, 5, none⟩ = some (.bool ev.b) ∧ W'.cell? ⟨w.heap.size, 6, none⟩ = some (.string ev.s) ∧ W'.cell? ⟨w.heap.size, 7, none⟩ = some (.float .f64 ev.n)) :=
      fun W W' h hb => ⟨bel2 h.1 hb, (HALL.out W' (bel2 hb5 (bel2 h.1 hb))).2.2⟩
    have HK2 := Lib.hid hk2
    have hS2 : Below wc.heap.size wc wc.drew ∧ wc.drew.cell? ⟨w.heap.size, 2, none⟩ = some (.string enm) ∧ wc.drew.cell? ⟨w.heap.size, 3, none⟩ = some (.int .i64 ev.k) ∧ wc.drew.cell? ⟨w.heap.size, 4, none⟩ = some (.int .i64 ev.i) ∧ wc.drew.cell? ⟨w.heap.size, 5, none⟩ = some (.bool ev.b) ∧ wc.drew.cell? ⟨w.heap.size, 6, none⟩ = some (.string ev.s) ∧ wc.drew.cell? ⟨w.heap.size, 7, none⟩ = some (.float .f64 ev.n) := ⟨(Below.refl _ _).drew, (HALL.out _ (bel2 hb5 (Below.refl _ _).drew)).2.2⟩
    have HS2 := Lib.hid hS2
    have HB5 := Lib.hid hb5
    have HB6 := Lib.hid hb6
    clear hk2 hS2 hb5 hb6 hv5
    go_upto_region 2 with fail
    go_cut [5] from 15 to 22 (fun s5 wx => ∃ v6, s5 = v6 ∧ Bs wx v6 hdl ∧ Below wc.heap.size wc wx)
    case first =>
      refine wp_region_held_drew (S := (fun W => Below wc.heap.size wc W ∧ W.cell? ⟨w.heap.size, 2, none⟩ = some (.string enm) ∧ W.cell? ⟨w.heap.size, 3, none⟩ = some (.int .i64 ev.k) ∧ W.cell? ⟨w.heap.size, 4, none⟩ = some (.int .i64 ev.i) ∧ W.cell? ⟨w.heap.size, 5, none⟩ = some (.bool ev.b) ∧ W.cell? ⟨w.heap.size, 6, none⟩ = some (.string ev.s) ∧ W.cell? ⟨w.heap.size, 7, none⟩ = some (.float .f64 ev.n))) (by kernel_rfl) (HS2.out) (fun hHeld => ?_)
      refine wpAnyH_take (i := 0) (oi := ?oi1) (v := ?v1) ?hi1 (by kernel_rfl) (by kernel_rfl) (by kernel_rfl) ?hQ1 (Or.inl ⟨?hw1, ?hy1⟩) (by assumption) ?rest1
      case hi1 => (simp only [gA, gB, gC]; rfl)
      case hQ1 => exact fun _ _ _ h => h
      case hw1 => rfl
      case hy1 => (intro w hSw; (try dsimp only at hSw); go_simp; try with_reducible rfl)
      (try simp only [Act.put, sA, sB, sC])
      refine wpAnyH_take (i := 1) (oi := ?oi2) (v := ?v2) ?hi2 (by kernel_rfl) (by kernel_rfl) (by kernel_rfl) ?hQ2 (Or.inl ⟨?hw2, ?hy2⟩) (by assumption) ?rest2
      case hi2 => (simp only [gA, gB, gC]; rfl)
      case hQ2 => exact fun _ _ _ h => h
      case hw2 => rfl
      case hy2 => (intro w hSw; (try dsimp only at hSw); go_simp; try with_reducible rfl)
      (try simp only [Act.put, sA, sB, sC])
      refine wpAnyH_take (i := 2) (oi := ?oi3) (v := ?v3) ?hi3 (by kernel_rfl) (by kernel_rfl) (by kernel_rfl) ?hQ3 (Or.inl ⟨?hw3, ?hy3⟩) (by assumption) ?rest3
      case hi3 => (simp only [gA, gB, gC]; rfl)
      case hQ3 => exact fun _ _ _ h => h
      case hw3 => rfl
      case hy3 => (intro w hSw; (try dsimp only at hSw); go_simp; try with_reducible rfl)
      (try simp only [Act.put, sA, sB, sC])
      refine wpAnyH_take (i := 5) (oi := ?oi4) (v := ?v4) ?hi4 (by kernel_rfl) (by kernel_rfl) (by kernel_rfl) ?hQ4 (Or.inl ⟨?hw4, ?hy4⟩) (by assumption) ?rest4
      case hi4 => (simp only [gA, gB, gC]; rfl)
      case hQ4 => exact fun _ _ _ h => h
      case hw4 => rfl
      case hy4 => (intro w hSw; (try dsimp only at hSw); go_simp; try with_reducible rfl)
      (try simp only [Act.put, sA, sB, sC])
      refine wpAnyH_take (i := 6) (oi := ?oi5) (v := ?v5) ?hi5 (by kernel_rfl) (by kernel_rfl) (by kernel_rfl) ?hQ5 (Or.inl ⟨?hw5, ?hy5⟩) (by assumption) ?rest5
      case hi5 => (simp only [gA, gB, gC]; rfl)
      case hQ5 => exact fun _ _ _ h => h
      case hw5 => rfl
      case hy5 => (intro w hSw; (try dsimp only at hSw); go_simp; try with_reducible rfl)
      (try simp only [Act.put, sA, sB, sC])
      refine wpAnyH_ready (rs := [3]) (by kernel_rfl) (by simp) ?_
      refine AllReadyH.cons (o := ?o6) ?ho6 (fun K hK => ?st6) AllReadyH.nil
      case ho6 => (simp only [gA, gB, gC]; rfl)
      go_simp
      refine hK.out _ _ ?_ (fun hHeld => ?_)
      · (try dsimp only); exact HK2.out _ _ hHeld (bytesWorld_below _ _ _)
      clear hK K
      (try simp only [Act.put, sA, sB, sC])
      refine wpAnyH_ready (rs := [4]) (by kernel_rfl) (by simp) ?_
      refine AllReadyH.cons (o := ?o7) ?ho7 (fun K hK => ?st7) AllReadyH.nil
      case ho7 => (simp only [gA, gB, gC]; rfl)
      go_simp
      go_at_call 85
      refine (Q3.out _ _ _ (Rd.below HV5.out (bel2 (Below.refl _ _).drew (bytesWorld_below _ _ _)) (Nat.le_refl _)) (HBW.out _)).mono ?_
      rintro e wC ⟨v3, rfl, ho3, hbC⟩
      refine hK.out _ _ ?_ (fun hHeld => ?_)
      · (try dsimp only); exact HK2.out _ _ hHeld hbC
      clear hK K
      (try simp only [Act.put, sA, sB, sC])
      refine wpAnyH_ready (rs := [7]) (by kernel_rfl) (by simp) ?_
      refine AllReadyH.cons (o := ?o8) ?ho8 (fun K hK => ?st8) AllReadyH.nil
      case ho8 => (simp only [gA, gB, gC]; rfl)
      go_simp
      go_at_call 89
      refine (Q4.out _ _ (Rd.of_own ho3)).mono ?_
      rintro e wD ⟨v4, B4, rfl, -, ho4, hbD⟩
      refine hK.out _ _ ?_ (fun hHeld => ?_)
      · (try dsimp only); exact HK2.out _ _ hHeld hbD
      clear hK K
      (try simp only [Act.put, sA, sB, sC])
      refine wpAnyH_take (i := 8) (oi := ?oi9) (v := ?v9) ?hi9 (by kernel_rfl) (by kernel_rfl) (by kernel_rfl) ?hQ9 (Or.inl ⟨?hw9, ?hy9⟩) (by assumption) ?rest9
      case hi9 => (simp only [gA, gB, gC]; rfl)
      case hQ9 => exact fun _ _ _ h => h
      case hw9 => rfl
      case hy9 => (intro w hSw; (try dsimp only at hSw); go_simp; try with_reducible rfl)
      (try simp only [Act.put, sA, sB, sC])
      refine wpAnyH_done (by kernel_rfl) ?_ _
      go_wp2_with fail
      go_meet
      exact ⟨_, rfl, Rd.of_own ho4, bel2 (bel2 (bel2 (Below.refl _ _).drew (bytesWorld_below _ _ _)) hbC) hbD⟩
    case rest =>
    obtain ⟨v6, rfl, hv6, hb7⟩ := hcut
    clear HK2 HS2 HK1 HS1 HV5
    have HV6 := Lib.hid hv6
    have HB7 := Lib.hid (bel2 HB5.out hb7)
    have HB8 := Lib.hid (bel2 HB6.out hb7)
    clear hv6 hb7
    rename_i wd
    obtain ⟨k0, k1, k2, k3, k4, k5, k6, k7⟩ := HALL.out _ HB7.out
    go_wp2_with (at_builtin; refine wpList_append_rd _ rfl _ _ 34 rfl B 5 i0 (.int .u8 0) 1 Tryz.underlying34 hi hz0 hz1 hz2 rfl _ _ _ rfl (own_belowX HV.out HB7.out) _ _ rfl HV6.out (bc_one hdl) (by have := HLN.out; simp only [List.length_map, List.length_append] at this ⊢; unfold maxLen; omega) (by have := HLN.out; simp only [List.length_map, List.length_append] at this ⊢; omega) (by have h1 := HBB.out; have h2 := HB8.out.size; omega) ?_; intro v7 w7 hown7 hgr70; have hgr7 : wc.grownBy w7 v.ownBlock := hgr70; clear hgr70; have hwl := World.block_lt_of_cell? wc _ k1; have hc7 := (World.cell?_of_block (a := ⟨w.heap.size, 1, none⟩) (hgr7.block w.heap.size hwl (fun e => absurd (HVL.out _ e.symm).2 (Nat.lt_irrefl _)))).trans k1; clear k0 k1 k2 k3 k4 k5 k6 k7; have HB9 := Lib.hid ((HB8.out.mono HBB.out).grown hgr7 (Nat.le_trans HBB.out HB8.out.size) (fun k hk => (HVL.out k hk).1)); rw [← List.map_append] at hown7; have HO7 := Lib.hid (own_len hown7 rfl); clear hown7 hgr7 hwl)
    go_loopw [0, 29] (fun v i wr => ∃ k : Nat, k ≤ ks.length ∧ i = .int .i64 k ∧ wr.ownsRow B 5 1 v (l ++ hdl ++ (ks.take k).flatMap (putX d)).length ((l ++ hdl ++ (ks.take k).flatMap (putX d)).map bc) ∧ Below B w wr) (fun _ i _ => ks.length - (intOf i).toNat)
    case atStart => exact ⟨0, Nat.zero_le _, rfl, by rw [List.take_zero, List.flatMap_nil, List.append_nil]; exact HO7.out, HB9.out⟩
    case round =>
      obtain ⟨k, hk, rfl, ho, hbr⟩ := hrel
      have HO := Lib.hid ho
      have HBR := Lib.hid hbr
      by_cases hlt : k < ks.length
      · obtain ⟨ad, A', c', rfl, hbl, hkid2, hsub⟩ := H5.out k hlt
        have hB : Below w0.heap.size w0 wr := HB.out.trans (hbr.mono HB0.out)
        obtain ⟨q0, q1, q2, q3, q4, q5, q6, q7⟩ := hkid2.below hB (by rw [block_add]; exact hbl)
        have hcall := fun o v l ho hl => HIH.out k hlt A' c' v l (wr.alloc o) hsub (hB.trans (((Below.refl _ _).alloc (Nat.le_refl _) o).mono hB.size)) (by have := HBB.out; have := hbr.size; simp; omega) ho hl
        have hln : (l ++ hdl ++ (ks.take k).flatMap (putX d)).length + (putX d ks[k]).length ≤ 60000 := by
          have h1 := HTL.out (k + 1)
          rw [HTP.out k hlt, List.length_append] at h1
          have h2 := HLN.out
          simp only [List.length_append] at h2 ⊢
          omega
        have HLL := Lib.hid hln
        have hltI : (k : Int) < (ks.length : Int) := by omega
        have HTK := Lib.hid (HTP.out k hlt)
        generalize putX d ks[k] = pk at hcall HLL HTK
        generalize ks[k].op = ko at q0 hcall
        generalize ks[k].name = kn at q2 hcall
        generalize ks[k].val = ky at q3 q4 q5 q6 q7 hcall
        generalize ks[k].kids.length = kl at q1 hcall
        have HC := Lib.hid hcall
        have hsf := fun (w : World) (a : Addr) (m : Mode) (b : Nat) => run_store Tryz.prog w a (.float .f64 b) m rfl
        clear hcall hkid2 hsub hB hln ho hbr hc7
        go_wp2_with (go_at_call 136; refine (HC.out _ _ _ (HO.out.alloc _) HLL.out).mono ?_; rintro e w2 ⟨v2, rfl, ho2, hb2⟩)
        go_roundw
        case rel => exact ⟨k + 1, by omega, by go_num, by rw [HTK.out, ← List.append_assoc]; exact ho2, (HBR.out.alloc (by have := HBB.out; have := HBR.out.size; omega) _).trans hb2⟩
        case measure => simp [intOf]; omega
      · obtain rfl : k = ks.length := by omega
        clear ho hbr hc7
        go_wp2
        go_ret
        exact ⟨_, rfl, by have h := HO.out; rw [List.take_length] at h; rw [← List.append_assoc]; exact h, HBR.out⟩
/-- a clone's row is owned -/
theorem Clone_puts (v : Value) (l : List UInt8) (w : World) (hv : Bs w v l) (hl : l.length ≤ 140737488355320) : Calls Tryz.prog 45 #[v] w (Puts w l) := by
  obtain ⟨i0, hi, hz0, hz1, hz2⟩ := info_parts u8info
  obtain ⟨A, c, rfl, hc, hmx, hn, -⟩ := hv.open
  rcases A with _ | ad
  · have hc0 := hn rfl
    subst hc0
    have hl0 : l = [] := List.eq_nil_of_length_eq_zero (by omega)
    subst hl0
    clear hn hv
    have he := fun (w : World) => Lib.run_eql_slice_nil (P := Tryz.prog) w 34 5 none 0 0 0 0 Tryz.underlying34
    simp only [List.length_nil]
    go_enter Tryz.func45, Tryz.ntmps45
    go_wp2
    go_ret
    exact ⟨_, rfl, World.ownsRow_nil _ _ _ _, Below.refl _ _⟩
  · clear hn
    have hv' : Rd w (.slice (some ad) l.length c) (l.map bc) := hv
    have HV := Lib.hid hv'
    clear hv hv'
    have he := fun (w : World) => Lib.run_eql_slice_nil (P := Tryz.prog) w 34 5 (some ad) l.length c 0 0 Tryz.underlying34
    go_enter Tryz.func45, Tryz.ntmps45
    go_wp2_with (at_builtin; refine wpList_append_rd _ rfl _ _ 34 rfl w.heap.size 5 i0 (.int .u8 0) 1 Tryz.underlying34 hi hz0 hz1 hz2 rfl _ _ _ rfl (own_empty _ _ _ _ (by simp) (by simp)) _ _ rfl (Rd.below HV.out ((Below.refl w.heap.size w).alloc (Nat.le_refl _) _) (Nat.le_refl _)) (bc_one l) (by simp; unfold maxLen; omega) (by simp; omega) (by simp) ?_; intro v2 w2 hown2 hg2)
    go_ret
    refine ⟨_, rfl, by simpa using hown2, ?_⟩
    exact ((Below.refl w.heap.size w).alloc (Nat.le_refl _) _).grown hg2 (by simp) (by intro k h; injection h with h; simp only at h; omega)
/-- what Put puts -/
def putE (e : Ex) : List UInt8 := if smallX e = true then putX 6 e else []
theorem putE_le (e : Ex) (h : smallX e = true → txtX 6 e) : (putE e).length ≤ 50400 := by
  unfold putE
  split
  · rename_i hs
    have h1 := putX_le 6 e (h hs)
    have h2 := ((smallX_iff e).1 hs).2
    omega
  · simp
set_option maxHeartbeats 1000000 in
/-- Put -/
theorem ePut_any (D : Nat) (e : Ex) (A : Option Addr) (c : Nat) (v : Value) (l : List UInt8) (w : World) (hx : ExK w D A c e) (htx : smallX e = true → txtX 6 e) (hok : okX 6 e) (hv : Bs w v l) (hl : l.length ≤ 5000) :
    Calls Tryz.prog 91 #[v, agX e.op A e.kids.length c e.name e.val] w (PutsV w (l ++ putE e)) := by
  have hle := putE_le e htx
  have q1 : ∀ W, Below w.heap.size w W → Calls Tryz.prog 45 #[v] W (Puts W l) := fun W hb => Clone_puts v l W (Rd.below hv hb (Nat.le_refl _)) (by omega)
  have q2 : ∀ W, Below w.heap.size w W → Calls Tryz.prog 112 #[agX e.op A e.kids.length c e.name e.val] W (VMk (.bool (smallX e)) W) := fun W hb => small_any D e A c W (hx.below hb (Nat.le_refl _))
  have q3 : smallX e = true → ∀ B z W, w.heap.size ≤ B → Below w.heap.size w W → B ≤ W.heap.size → W.ownsRow B 5 1 z l.length (l.map bc) → Calls Tryz.prog 136 #[z, agX e.op A e.kids.length c e.name e.val] W (PutsO B (l ++ putE e) W) := fun hs B z W h1 h2 h3 h4 => by
    have hp : putE e = putX 6 e := if_pos hs
    rw [hp] at hle ⊢
    exact appendParts_any w B h1 D 6 e A c z l W hx ((smallX_iff e).1 hs).1 (htx hs) hok h2 h3 h4 (by omega)
  have hno : smallX e = false → putE e = [] := fun h => if_neg (by rw [h]; decide)
  have HK := Lib.hid (Kid_new w e.op A e.kids.length c e.name e.val)
  have HW := Lib.hid (alloc1 w (bxX e.op A e.kids.length c e.name e.val))
  generalize putE e = pe at *
  have Q1 := Lib.hid q1
  have HNO := Lib.hid hno
  clear q1 hx htx hok hv hle hno
  generalize smallX e = sm at *
  have Q2 := Lib.hid q2
  have Q3 := Lib.hid q3
  clear q2 q3
  generalize e.kids.length = n at *
  generalize e.op = eop at *
  generalize e.name = enm at *
  generalize e.val = ev at *
  rcases sm with _ | _
  · have hp := HNO.out rfl
    subst hp
    go_enter Tryz.func91, Tryz.ntmps91
    go_wp2_with fail
    refine (Q1.out _ HW.out).mono ?_
    rintro _ w1 ⟨v1, rfl, ho1, hb1⟩
    have HO1 := Lib.hid ho1
    have HB1 := Lib.hid (bel2 HW.out hb1)
    obtain ⟨k0, k1, k2, k3, k4, k5, k6, k7⟩ := HK.out.below hb1
    clear ho1 hb1
    go_wp2_with fail
    refine (Q2.out _ HB1.out).mono ?_
    rintro _ w2 ⟨rfl, hb2⟩
    go_wp2
    go_ret
    exact ⟨_, _, rfl, HW.out.size, by rw [List.append_nil]; exact own_belowX HO1.out hb2, bel2 HB1.out hb2⟩
  · go_enter Tryz.func91, Tryz.ntmps91
    go_wp2_with fail
    refine (Q1.out _ HW.out).mono ?_
    rintro _ w1 ⟨v1, rfl, ho1, hb1⟩
    have HO1 := Lib.hid ho1
    have HB1 := Lib.hid (bel2 HW.out hb1)
    have HZ1 := Lib.hid hb1.size
    have HK1 := Lib.hid (HK.out.below hb1)
    obtain ⟨k0, k1, k2, k3, k4, k5, k6, k7⟩ := HK1.out
    clear ho1 hb1
    go_wp2_with fail
    refine (Q2.out _ HB1.out).mono ?_
    rintro _ w2 ⟨rfl, hb2⟩
    clear k0 k1 k2 k3 k4 k5 k6 k7
    have HO2 := Lib.hid (own_belowX HO1.out hb2)
    have HB2 := Lib.hid (bel2 HB1.out hb2)
    have HZ2 := Lib.hid (Nat.le_trans HZ1.out hb2.size)
    obtain ⟨k0, k1, k2, k3, k4, k5, k6, k7⟩ := HK1.out.below hb2
    clear hb2
    go_wp2_with fail
    refine (Q3.out (by trivial) _ _ _ HW.out.size HB2.out HZ2.out HO2.out).mono ?_
    rintro _ w3 ⟨v3, rfl, ho3, hb3⟩
    go_wp2
    go_ret
    exact ⟨_, _, rfl, HW.out.size, ho3, HB2.out.trans (hb3.mono HW.out.size)⟩
end Go.Proofs.YthgdnpcfdgimlabGreat

/- Layer 5: do values fit fields, by the program and by the document. (Made by gen/genfit.py.) -/
namespace Go.Proofs.YthgdnpcfdgimlabGreat
open Go.RowKit
set_option linter.unusedVariables false
set_option linter.unusedSimpArgs false
set_option maxRecDepth 20000

set_option maxHeartbeats 2000000 in
theorem fit_doc (FA : Option Addr) (FC : Nat) (fs : List Fd) (VA : Option Addr) (VC : Nat) (vs : List Vl) (w : World) (hf : FdK w FA FC fs) (hv : VlK w VA VC vs) :
    Calls Tryz.prog 28 #[.slice FA fs.length FC, .slice VA vs.length VC] w (VMk (.bool (fitX fs vs)) w) := by
  obtain ⟨f1, f2, f3, f4⟩ := hf
  obtain ⟨v1, v2, v3, v4⟩ := hv
  unfold maxLen at f2 v2
  have hfl : fs.length ≤ 9223372036854775807 := by omega
  have hvl : vs.length ≤ 9223372036854775807 := by omega
  have F4 := Lib.hid f4
  have V4 := Lib.hid v4
  clear f1 f2 f3 f4 v1 v2 v3 v4
  have hsf := fun (w : World) (a : Addr) (m : Mode) (b : Nat) => run_store Tryz.prog w a (.float .f64 b) m rfl
  by_cases hl : fs.length = vs.length
  · have hne : ((fs.length : Int) != (vs.length : Int)) = false := by simp [hl]
    have HALLF := Lib.hid (fit_all fs vs hl)
    have HNOF := Lib.hid (fit_no fs vs)
    have HL := Lib.hid hl
    clear hl
    go_enter Tryz.func28, Tryz.ntmps28
    go_wp2
    go_loopw [5] (fun i wr => ∃ k : Nat, k ≤ vs.length ∧ i = .int .i64 k ∧ (∀ (j : Nat) (hj : j < fs.length) (hj' : j < vs.length), j < k → fitB fs[j] vs[j] = true) ∧ Below w.heap.size w wr) (fun i _ => vs.length - (intOf i).toNat)
    case atStart => exact ⟨0, Nat.zero_le _, rfl, fun j hj hj' h => absurd h (Nat.not_lt_zero _), Below.refl _ _⟩
    case round =>
      obtain ⟨k, hk, rfl, hall, hb⟩ := hrel
      by_cases hlt : k < vs.length
      · have hlf : k < fs.length := by rw [HL.out]; exact hlt
        have hltF : (k : Int) < (fs.length : Int) := by omega
        have hltV : (k : Int) < (vs.length : Int) := by omega
        have hi0 : (0 : Int) ≤ (k : Int) := by omega
        obtain ⟨fad, A', n', c', y, rfl, hbl, hq⟩ := F4.out k hlf
        obtain ⟨vad, rfl, hbl2, hq2⟩ := V4.out k hlt
        have hqf := fun W (h : Below w.heap.size w W) => (hq.below h (by rw [block_add]; exact hbl)).2.1
        have hqv := fun W (h : Below w.heap.size w W) => hq2.below h (by rw [block_add]; exact hbl2)
        have hall2 : fitB fs[k] vs[k] = true → ∀ (j : Nat) (hj : j < fs.length) (hj' : j < vs.length), j < k + 1 → fitB fs[j] vs[j] = true := fun h j hj hj' hjk => by
          by_cases e : j < k
          · exact hall j hj hj' e
          · obtain rfl : j = k := by omega
            exact h
        have hno : fitB fs[k] vs[k] = false → fitX fs vs = false := HNOF.out k hlf hlt
        unfold fitB at hall2 hno
        have hg := rGood_val vs[k]
        clear hall hq hq2
        generalize fs[k].kind = fk at *
        generalize vs[k] = vv at *
        have HQF := Lib.hid hqf
        have HQV := Lib.hid hqv
        generalize goodV vv = gv at hg hall2 hno
        have HG := Lib.hid hg
        clear hg hqf hqv
        have HK := Lib.hid (fun (W W' : World) (h : Below w.heap.size w W ∧ W.cell? ⟨(fad.add (k * 8)).block, (fad.add (k * 8)).off + 1, none⟩ = some (.int .i64 fk) ∧ W.cell? (vad.add (k * 5)) = some (.int .i64 vv.k) ∧ W.cell? ⟨(vad.add (k * 5)).block, (vad.add (k * 5)).off + 1, none⟩ = some (.int .i64 vv.i) ∧ W.cell? ⟨(vad.add (k * 5)).block, (vad.add (k * 5)).off + 2, none⟩ = some (.bool vv.b) ∧ W.cell? ⟨(vad.add (k * 5)).block, (vad.add (k * 5)).off + 3, none⟩ = some (.string vv.s) ∧ W.cell? ⟨(vad.add (k * 5)).block, (vad.add (k * 5)).off + 4, none⟩ = some (.float .f64 vv.n)) (hb : Below W.heap.size W W') => (show Below w.heap.size w W' ∧ W'.cell? ⟨(fad.add (k * 8)).block, (fad.add (k * 8)).off + 1, none⟩ = some (.int .i64 fk) ∧ W'.cell? (vad.add (k * 5)) = some (.int .i64 vv.k) ∧ W'.cell? ⟨(vad.add (k * 5)).block, (vad.add (k * 5)).off + 1, none⟩ = some (.int .i64 vv.i) ∧ W'.cell? ⟨(vad.add (k * 5)).block, (vad.add (k * 5)).off + 2, none⟩ = some (.bool vv.b) ∧ W'.cell? ⟨(vad.add (k * 5)).block, (vad.add (k * 5)).off + 3, none⟩ = some (.string vv.s) ∧ W'.cell? ⟨(vad.add (k * 5)).block, (vad.add (k * 5)).off + 4, none⟩ = some (.float .f64 vv.n) from ⟨h.1.trans (hb.mono h.1.size), HQF.out _ (h.1.trans (hb.mono h.1.size)), HQV.out _ (h.1.trans (hb.mono h.1.size))⟩))
        have hS1 : (fun W => Below w.heap.size w W ∧ W.cell? ⟨(fad.add (k * 8)).block, (fad.add (k * 8)).off + 1, none⟩ = some (.int .i64 fk) ∧ W.cell? (vad.add (k * 5)) = some (.int .i64 vv.k) ∧ W.cell? ⟨(vad.add (k * 5)).block, (vad.add (k * 5)).off + 1, none⟩ = some (.int .i64 vv.i) ∧ W.cell? ⟨(vad.add (k * 5)).block, (vad.add (k * 5)).off + 2, none⟩ = some (.bool vv.b) ∧ W.cell? ⟨(vad.add (k * 5)).block, (vad.add (k * 5)).off + 3, none⟩ = some (.string vv.s) ∧ W.cell? ⟨(vad.add (k * 5)).block, (vad.add (k * 5)).off + 4, none⟩ = some (.float .f64 vv.n)) wr.drew := ⟨hb.drew, HQF.out _ hb.drew, HQV.out _ hb.drew⟩
        rcases gv with _ | _
        · have HNO := Lib.hid (hno (by rfl))
          clear hall2 hno
          go_wp2_with fail
          refine wp_region_held_drew (S := (fun W => Below w.heap.size w W ∧ W.cell? ⟨(fad.add (k * 8)).block, (fad.add (k * 8)).off + 1, none⟩ = some (.int .i64 fk) ∧ W.cell? (vad.add (k * 5)) = some (.int .i64 vv.k) ∧ W.cell? ⟨(vad.add (k * 5)).block, (vad.add (k * 5)).off + 1, none⟩ = some (.int .i64 vv.i) ∧ W.cell? ⟨(vad.add (k * 5)).block, (vad.add (k * 5)).off + 2, none⟩ = some (.bool vv.b) ∧ W.cell? ⟨(vad.add (k * 5)).block, (vad.add (k * 5)).off + 3, none⟩ = some (.string vv.s) ∧ W.cell? ⟨(vad.add (k * 5)).block, (vad.add (k * 5)).off + 4, none⟩ = some (.float .f64 vv.n))) (by kernel_rfl) (hS1) (fun hHeld => ?_)
          refine wpAnyH_take (i := 0) (oi := ?oi40) (v := ?v40) ?hi40 (by kernel_rfl) (by kernel_rfl) (by kernel_rfl) ?hQ40 (Or.inl ⟨?hw40, ?hy40⟩) (by assumption) ?rest40
          case hi40 => (simp only [gA, gB, gC]; rfl)
          case hQ40 => exact fun _ _ _ h => h
          case hw40 => rfl
          case hy40 => (intro w hSw; (try dsimp only at hSw); go_simp; try with_reducible rfl)
          (try simp only [Act.put, sA, sB, sC])
          refine wpAnyH_take (i := 1) (oi := ?oi41) (v := ?v41) ?hi41 (by kernel_rfl) (by kernel_rfl) (by kernel_rfl) ?hQ41 (Or.inl ⟨?hw41, ?hy41⟩) (by assumption) ?rest41
          case hi41 => (simp only [gA, gB, gC]; rfl)
          case hQ41 => exact fun _ _ _ h => h
          case hw41 => rfl
          case hy41 => (intro w hSw; (try dsimp only at hSw); go_simp; try with_reducible rfl)
          (try simp only [Act.put, sA, sB, sC])
          refine wpAnyH_take (i := 2) (oi := ?oi42) (v := ?v42) ?hi42 (by kernel_rfl) (by kernel_rfl) (by kernel_rfl) ?hQ42 (Or.inl ⟨?hw42, ?hy42⟩) (by assumption) ?rest42
          case hi42 => (simp only [gA, gB, gC]; rfl)
          case hQ42 => exact fun _ _ _ h => h
          case hw42 => rfl
          case hy42 => (intro w hSw; (try dsimp only at hSw); go_simp; try with_reducible rfl)
          (try simp only [Act.put, sA, sB, sC])
          refine wpAnyH_take (i := 3) (oi := ?oi43) (v := ?v43) ?hi43 (by kernel_rfl) (by kernel_rfl) (by kernel_rfl) ?hQ43 (Or.inl ⟨?hw43, ?hy43⟩) (by assumption) ?rest43
          case hi43 => (simp only [gA, gB, gC]; rfl)
          case hQ43 => exact fun _ _ _ h => h
          case hw43 => rfl
          case hy43 => (intro w hSw; (try dsimp only at hSw); go_simp; try with_reducible rfl)
          (try simp only [Act.put, sA, sB, sC])
          refine wpAnyH_ready (rs := [4]) (by kernel_rfl) (by simp) ?_
          refine AllReadyH.cons (o := ?o44) ?ho44 (fun K hK => ?st44) AllReadyH.nil
          case ho44 => (simp only [gA, gB, gC]; rfl)
          go_simp
          refine (HG.out _).mono ?_; rintro e w2 ⟨rfl, hb2⟩
          refine hK.out _ _ ?_ (fun hHeld => ?_)
          · (try dsimp only); exact HK.out _ _ hHeld hb2
          clear hK K
          (try simp only [Act.put, sA, sB, sC])
          refine wpAnyH_take (i := 5) (oi := ?oi45) (v := ?v45) ?hi45 (by kernel_rfl) (by kernel_rfl) (by kernel_rfl) ?hQ45 (Or.inl ⟨?hw45, ?hy45⟩) (by assumption) ?rest45
          case hi45 => (simp only [gA, gB, gC]; rfl)
          case hQ45 => exact fun _ _ _ h => h
          case hw45 => rfl
          case hy45 => (intro w hSw; (try dsimp only at hSw); go_simp; try with_reducible rfl)
          (try simp only [Act.put, sA, sB, sC])
          refine wpAnyH_take (i := 6) (oi := ?oi46) (v := ?v46) ?hi46 (by kernel_rfl) (by kernel_rfl) (by kernel_rfl) ?hQ46 (Or.inl ⟨?hw46, ?hy46⟩) (by assumption) ?rest46
          case hi46 => (simp only [gA, gB, gC]; rfl)
          case hQ46 => exact fun _ _ _ h => h
          case hw46 => rfl
          case hy46 => (intro w hSw; (try dsimp only at hSw); go_simp; try with_reducible rfl)
          (try simp only [Act.put, sA, sB, sC])
          refine wpAnyH_take (i := 7) (oi := ?oi47) (v := undef) ?hi47 (by kernel_rfl) (by kernel_rfl) (by kernel_rfl) ?hQ47 (Or.inr ⟨?hw47, rfl⟩) (by assumption) ?rest47
          case hi47 => (simp only [gA, gB, gC]; rfl)
          case hQ47 => exact fun _ _ _ h => h
          case hw47 => rfl
          (try simp only [Act.put, sA, sB, sC])
          refine wpAnyH_take (i := 8) (oi := ?oi48) (v := undef) ?hi48 (by kernel_rfl) (by kernel_rfl) (by kernel_rfl) ?hQ48 (Or.inr ⟨?hw48, rfl⟩) (by assumption) ?rest48
          case hi48 => (simp only [gA, gB, gC]; rfl)
          case hQ48 => exact fun _ _ _ h => h
          case hw48 => rfl
          (try simp only [Act.put, sA, sB, sC])
          refine wpAnyH_take (i := 9) (oi := ?oi49) (v := undef) ?hi49 (by kernel_rfl) (by kernel_rfl) (by kernel_rfl) ?hQ49 (Or.inr ⟨?hw49, rfl⟩) (by assumption) ?rest49
          case hi49 => (simp only [gA, gB, gC]; rfl)
          case hQ49 => exact fun _ _ _ h => h
          case hw49 => rfl
          (try simp only [Act.put, sA, sB, sC])
          refine wpAnyH_take (i := 10) (oi := ?oi50) (v := undef) ?hi50 (by kernel_rfl) (by kernel_rfl) (by kernel_rfl) ?hQ50 (Or.inr ⟨?hw50, rfl⟩) (by assumption) ?rest50
          case hi50 => (simp only [gA, gB, gC]; rfl)
          case hQ50 => exact fun _ _ _ h => h
          case hw50 => rfl
          (try simp only [Act.put, sA, sB, sC])
          refine wpAnyH_take (i := 11) (oi := ?oi51) (v := undef) ?hi51 (by kernel_rfl) (by kernel_rfl) (by kernel_rfl) ?hQ51 (Or.inr ⟨?hw51, rfl⟩) (by assumption) ?rest51
          case hi51 => (simp only [gA, gB, gC]; rfl)
          case hQ51 => exact fun _ _ _ h => h
          case hw51 => rfl
          (try simp only [Act.put, sA, sB, sC])
          refine wpAnyH_take (i := 12) (oi := ?oi52) (v := undef) ?hi52 (by kernel_rfl) (by kernel_rfl) (by kernel_rfl) ?hQ52 (Or.inr ⟨?hw52, rfl⟩) (by assumption) ?rest52
          case hi52 => (simp only [gA, gB, gC]; rfl)
          case hQ52 => exact fun _ _ _ h => h
          case hw52 => rfl
          (try simp only [Act.put, sA, sB, sC])
          refine wpAnyH_take (i := 13) (oi := ?oi53) (v := undef) ?hi53 (by kernel_rfl) (by kernel_rfl) (by kernel_rfl) ?hQ53 (Or.inr ⟨?hw53, rfl⟩) (by assumption) ?rest53
          case hi53 => (simp only [gA, gB, gC]; rfl)
          case hQ53 => exact fun _ _ _ h => h
          case hw53 => rfl
          (try simp only [Act.put, sA, sB, sC])
          refine wpAnyH_take (i := 14) (oi := ?oi54) (v := undef) ?hi54 (by kernel_rfl) (by kernel_rfl) (by kernel_rfl) ?hQ54 (Or.inr ⟨?hw54, rfl⟩) (by assumption) ?rest54
          case hi54 => (simp only [gA, gB, gC]; rfl)
          case hQ54 => exact fun _ _ _ h => h
          case hw54 => rfl
          (try simp only [Act.put, sA, sB, sC])
          refine wpAnyH_take (i := 15) (oi := ?oi55) (v := undef) ?hi55 (by kernel_rfl) (by kernel_rfl) (by kernel_rfl) ?hQ55 (Or.inr ⟨?hw55, rfl⟩) (by assumption) ?rest55
          case hi55 => (simp only [gA, gB, gC]; rfl)
          case hQ55 => exact fun _ _ _ h => h
          case hw55 => rfl
          (try simp only [Act.put, sA, sB, sC])
          refine wpAnyH_take (i := 16) (oi := ?oi56) (v := undef) ?hi56 (by kernel_rfl) (by kernel_rfl) (by kernel_rfl) ?hQ56 (Or.inr ⟨?hw56, rfl⟩) (by assumption) ?rest56
          case hi56 => (simp only [gA, gB, gC]; rfl)
          case hQ56 => exact fun _ _ _ h => h
          case hw56 => rfl
          (try simp only [Act.put, sA, sB, sC])
          refine wpAnyH_take (i := 17) (oi := ?oi57) (v := undef) ?hi57 (by kernel_rfl) (by kernel_rfl) (by kernel_rfl) ?hQ57 (Or.inr ⟨?hw57, rfl⟩) (by assumption) ?rest57
          case hi57 => (simp only [gA, gB, gC]; rfl)
          case hQ57 => exact fun _ _ _ h => h
          case hw57 => rfl
          (try simp only [Act.put, sA, sB, sC])
          refine wpAnyH_take (i := 18) (oi := ?oi58) (v := ?v58) ?hi58 (by kernel_rfl) (by kernel_rfl) (by kernel_rfl) ?hQ58 (Or.inl ⟨?hw58, ?hy58⟩) (by assumption) ?rest58
          case hi58 => (simp only [gA, gB, gC]; rfl)
          case hQ58 => exact fun _ _ _ h => h
          case hw58 => rfl
          case hy58 => (intro w hSw; (try dsimp only at hSw); go_simp; try with_reducible rfl)
          (try simp only [Act.put, sA, sB, sC])
          refine wpAnyH_done (by kernel_rfl) ?_ _
          go_wp2_with fail
          go_ret
          exact ⟨ret_bool HNO.out.symm, hHeld.1⟩
        · rcases hk : (vv.k == fk) with _ | _
          · have hkk : (vv.k != fk) = true := by rw [bne, hk]; rfl
            have HNO := Lib.hid (hno (by rw [hk]; rfl))
            clear hall2 hno
            go_wp2_with fail
            refine wp_region_held_drew (S := (fun W => Below w.heap.size w W ∧ W.cell? ⟨(fad.add (k * 8)).block, (fad.add (k * 8)).off + 1, none⟩ = some (.int .i64 fk) ∧ W.cell? (vad.add (k * 5)) = some (.int .i64 vv.k) ∧ W.cell? ⟨(vad.add (k * 5)).block, (vad.add (k * 5)).off + 1, none⟩ = some (.int .i64 vv.i) ∧ W.cell? ⟨(vad.add (k * 5)).block, (vad.add (k * 5)).off + 2, none⟩ = some (.bool vv.b) ∧ W.cell? ⟨(vad.add (k * 5)).block, (vad.add (k * 5)).off + 3, none⟩ = some (.string vv.s) ∧ W.cell? ⟨(vad.add (k * 5)).block, (vad.add (k * 5)).off + 4, none⟩ = some (.float .f64 vv.n))) (by kernel_rfl) (hS1) (fun hHeld => ?_)
            refine wpAnyH_take (i := 0) (oi := ?oi59) (v := ?v59) ?hi59 (by kernel_rfl) (by kernel_rfl) (by kernel_rfl) ?hQ59 (Or.inl ⟨?hw59, ?hy59⟩) (by assumption) ?rest59
            case hi59 => (simp only [gA, gB, gC]; rfl)
            case hQ59 => exact fun _ _ _ h => h
            case hw59 => rfl
            case hy59 => (intro w hSw; (try dsimp only at hSw); go_simp; try with_reducible rfl)
            (try simp only [Act.put, sA, sB, sC])
            refine wpAnyH_take (i := 1) (oi := ?oi60) (v := ?v60) ?hi60 (by kernel_rfl) (by kernel_rfl) (by kernel_rfl) ?hQ60 (Or.inl ⟨?hw60, ?hy60⟩) (by assumption) ?rest60
            case hi60 => (simp only [gA, gB, gC]; rfl)
            case hQ60 => exact fun _ _ _ h => h
            case hw60 => rfl
            case hy60 => (intro w hSw; (try dsimp only at hSw); go_simp; try with_reducible rfl)
            (try simp only [Act.put, sA, sB, sC])
            refine wpAnyH_take (i := 2) (oi := ?oi61) (v := ?v61) ?hi61 (by kernel_rfl) (by kernel_rfl) (by kernel_rfl) ?hQ61 (Or.inl ⟨?hw61, ?hy61⟩) (by assumption) ?rest61
            case hi61 => (simp only [gA, gB, gC]; rfl)
            case hQ61 => exact fun _ _ _ h => h
            case hw61 => rfl
            case hy61 => (intro w hSw; (try dsimp only at hSw); go_simp; try with_reducible rfl)
            (try simp only [Act.put, sA, sB, sC])
            refine wpAnyH_take (i := 3) (oi := ?oi62) (v := ?v62) ?hi62 (by kernel_rfl) (by kernel_rfl) (by kernel_rfl) ?hQ62 (Or.inl ⟨?hw62, ?hy62⟩) (by assumption) ?rest62
            case hi62 => (simp only [gA, gB, gC]; rfl)
            case hQ62 => exact fun _ _ _ h => h
            case hw62 => rfl
            case hy62 => (intro w hSw; (try dsimp only at hSw); go_simp; try with_reducible rfl)
            (try simp only [Act.put, sA, sB, sC])
            refine wpAnyH_ready (rs := [4]) (by kernel_rfl) (by simp) ?_
            refine AllReadyH.cons (o := ?o63) ?ho63 (fun K hK => ?st63) AllReadyH.nil
            case ho63 => (simp only [gA, gB, gC]; rfl)
            go_simp
            refine (HG.out _).mono ?_; rintro e w2 ⟨rfl, hb2⟩
            refine hK.out _ _ ?_ (fun hHeld => ?_)
            · (try dsimp only); exact HK.out _ _ hHeld hb2
            clear hK K
            (try simp only [Act.put, sA, sB, sC])
            refine wpAnyH_take (i := 5) (oi := ?oi64) (v := ?v64) ?hi64 (by kernel_rfl) (by kernel_rfl) (by kernel_rfl) ?hQ64 (Or.inl ⟨?hw64, ?hy64⟩) (by assumption) ?rest64
            case hi64 => (simp only [gA, gB, gC]; rfl)
            case hQ64 => exact fun _ _ _ h => h
            case hw64 => rfl
            case hy64 => (intro w hSw; (try dsimp only at hSw); go_simp; try with_reducible rfl)
            (try simp only [Act.put, sA, sB, sC])
            refine wpAnyH_take (i := 6) (oi := ?oi65) (v := ?v65) ?hi65 (by kernel_rfl) (by kernel_rfl) (by kernel_rfl) ?hQ65 (Or.inl ⟨?hw65, ?hy65⟩) (by assumption) ?rest65
            case hi65 => (simp only [gA, gB, gC]; rfl)
            case hQ65 => exact fun _ _ _ h => h
            case hw65 => rfl
            case hy65 => (intro w hSw; (try dsimp only at hSw); go_simp; try with_reducible rfl)
            (try simp only [Act.put, sA, sB, sC])
            refine wpAnyH_take (i := 7) (oi := ?oi66) (v := ?v66) ?hi66 (by kernel_rfl) (by kernel_rfl) (by kernel_rfl) ?hQ66 (Or.inl ⟨?hw66, ?hy66⟩) (by assumption) ?rest66
            case hi66 => (simp only [gA, gB, gC]; rfl)
            case hQ66 => exact fun _ _ _ h => h
            case hw66 => rfl
            case hy66 => (intro w hSw; (try dsimp only at hSw); go_simp; try with_reducible rfl)
            (try simp only [Act.put, sA, sB, sC])
            refine wpAnyH_take (i := 8) (oi := ?oi67) (v := ?v67) ?hi67 (by kernel_rfl) (by kernel_rfl) (by kernel_rfl) ?hQ67 (Or.inl ⟨?hw67, ?hy67⟩) (by assumption) ?rest67
            case hi67 => (simp only [gA, gB, gC]; rfl)
            case hQ67 => exact fun _ _ _ h => h
            case hw67 => rfl
            case hy67 => (intro w hSw; (try dsimp only at hSw); go_simp; try with_reducible rfl)
            (try simp only [Act.put, sA, sB, sC])
            refine wpAnyH_take (i := 9) (oi := ?oi68) (v := ?v68) ?hi68 (by kernel_rfl) (by kernel_rfl) (by kernel_rfl) ?hQ68 (Or.inl ⟨?hw68, ?hy68⟩) (by assumption) ?rest68
            case hi68 => (simp only [gA, gB, gC]; rfl)
            case hQ68 => exact fun _ _ _ h => h
            case hw68 => rfl
            case hy68 => (intro w hSw; (try dsimp only at hSw); go_simp; try with_reducible rfl)
            (try simp only [Act.put, sA, sB, sC])
            refine wpAnyH_take (i := 10) (oi := ?oi69) (v := ?v69) ?hi69 (by kernel_rfl) (by kernel_rfl) (by kernel_rfl) ?hQ69 (Or.inl ⟨?hw69, ?hy69⟩) (by assumption) ?rest69
            case hi69 => (simp only [gA, gB, gC]; rfl)
            case hQ69 => exact fun _ _ _ h => h
            case hw69 => rfl
            case hy69 => (intro w hSw; (try dsimp only at hSw); go_simp; try with_reducible rfl)
            (try simp only [Act.put, sA, sB, sC])
            refine wpAnyH_take (i := 11) (oi := ?oi70) (v := ?v70) ?hi70 (by kernel_rfl) (by kernel_rfl) (by kernel_rfl) ?hQ70 (Or.inl ⟨?hw70, ?hy70⟩) (by assumption) ?rest70
            case hi70 => (simp only [gA, gB, gC]; rfl)
            case hQ70 => exact fun _ _ _ h => h
            case hw70 => rfl
            case hy70 => (intro w hSw; (try dsimp only at hSw); go_simp; try with_reducible rfl)
            (try simp only [Act.put, sA, sB, sC])
            refine wpAnyH_take (i := 12) (oi := ?oi71) (v := ?v71) ?hi71 (by kernel_rfl) (by kernel_rfl) (by kernel_rfl) ?hQ71 (Or.inl ⟨?hw71, ?hy71⟩) (by assumption) ?rest71
            case hi71 => (simp only [gA, gB, gC]; rfl)
            case hQ71 => exact fun _ _ _ h => h
            case hw71 => rfl
            case hy71 => (intro w hSw; (try dsimp only at hSw); go_simp; try with_reducible rfl)
            (try simp only [Act.put, sA, sB, sC])
            refine wpAnyH_take (i := 13) (oi := ?oi72) (v := ?v72) ?hi72 (by kernel_rfl) (by kernel_rfl) (by kernel_rfl) ?hQ72 (Or.inl ⟨?hw72, ?hy72⟩) (by assumption) ?rest72
            case hi72 => (simp only [gA, gB, gC]; rfl)
            case hQ72 => exact fun _ _ _ h => h
            case hw72 => rfl
            case hy72 => (intro w hSw; (try dsimp only at hSw); go_simp; try with_reducible rfl)
            (try simp only [Act.put, sA, sB, sC])
            refine wpAnyH_take (i := 14) (oi := ?oi73) (v := ?v73) ?hi73 (by kernel_rfl) (by kernel_rfl) (by kernel_rfl) ?hQ73 (Or.inl ⟨?hw73, ?hy73⟩) (by assumption) ?rest73
            case hi73 => (simp only [gA, gB, gC]; rfl)
            case hQ73 => exact fun _ _ _ h => h
            case hw73 => rfl
            case hy73 => (intro w hSw; (try dsimp only at hSw); go_simp; try with_reducible rfl)
            (try simp only [Act.put, sA, sB, sC])
            refine wpAnyH_take (i := 15) (oi := ?oi74) (v := ?v74) ?hi74 (by kernel_rfl) (by kernel_rfl) (by kernel_rfl) ?hQ74 (Or.inl ⟨?hw74, ?hy74⟩) (by assumption) ?rest74
            case hi74 => (simp only [gA, gB, gC]; rfl)
            case hQ74 => exact fun _ _ _ h => h
            case hw74 => rfl
            case hy74 => (intro w hSw; (try dsimp only at hSw); go_simp; try with_reducible rfl)
            (try simp only [Act.put, sA, sB, sC])
            refine wpAnyH_take (i := 16) (oi := ?oi75) (v := ?v75) ?hi75 (by kernel_rfl) (by kernel_rfl) (by kernel_rfl) ?hQ75 (Or.inl ⟨?hw75, ?hy75⟩) (by assumption) ?rest75
            case hi75 => (simp only [gA, gB, gC]; rfl)
            case hQ75 => exact fun _ _ _ h => h
            case hw75 => rfl
            case hy75 => (intro w hSw; (try dsimp only at hSw); go_simp; try with_reducible rfl)
            (try simp only [Act.put, sA, sB, sC])
            refine wpAnyH_take (i := 17) (oi := ?oi76) (v := ?v76) ?hi76 (by kernel_rfl) (by kernel_rfl) (by kernel_rfl) ?hQ76 (Or.inl ⟨?hw76, ?hy76⟩) (by assumption) ?rest76
            case hi76 => (simp only [gA, gB, gC]; rfl)
            case hQ76 => exact fun _ _ _ h => h
            case hw76 => rfl
            case hy76 => (intro w hSw; (try dsimp only at hSw); go_simp; try with_reducible rfl)
            (try simp only [Act.put, sA, sB, sC])
            refine wpAnyH_take (i := 18) (oi := ?oi77) (v := ?v77) ?hi77 (by kernel_rfl) (by kernel_rfl) (by kernel_rfl) ?hQ77 (Or.inl ⟨?hw77, ?hy77⟩) (by assumption) ?rest77
            case hi77 => (simp only [gA, gB, gC]; rfl)
            case hQ77 => exact fun _ _ _ h => h
            case hw77 => rfl
            case hy77 => (intro w hSw; (try dsimp only at hSw); go_simp; try with_reducible rfl)
            (try simp only [Act.put, sA, sB, sC])
            refine wpAnyH_done (by kernel_rfl) ?_ _
            go_wp2_with fail
            go_ret
            exact ⟨ret_bool HNO.out.symm, hHeld.1⟩
          · have hkk : (vv.k != fk) = false := by rw [bne, hk]; rfl
            have HALL := Lib.hid (hall2 (by rw [hk]; rfl))
            clear hall2 hno
            go_wp2_with fail
            refine wp_region_held_drew (S := (fun W => Below w.heap.size w W ∧ W.cell? ⟨(fad.add (k * 8)).block, (fad.add (k * 8)).off + 1, none⟩ = some (.int .i64 fk) ∧ W.cell? (vad.add (k * 5)) = some (.int .i64 vv.k) ∧ W.cell? ⟨(vad.add (k * 5)).block, (vad.add (k * 5)).off + 1, none⟩ = some (.int .i64 vv.i) ∧ W.cell? ⟨(vad.add (k * 5)).block, (vad.add (k * 5)).off + 2, none⟩ = some (.bool vv.b) ∧ W.cell? ⟨(vad.add (k * 5)).block, (vad.add (k * 5)).off + 3, none⟩ = some (.string vv.s) ∧ W.cell? ⟨(vad.add (k * 5)).block, (vad.add (k * 5)).off + 4, none⟩ = some (.float .f64 vv.n))) (by kernel_rfl) (hS1) (fun hHeld => ?_)
            refine wpAnyH_take (i := 0) (oi := ?oi78) (v := ?v78) ?hi78 (by kernel_rfl) (by kernel_rfl) (by kernel_rfl) ?hQ78 (Or.inl ⟨?hw78, ?hy78⟩) (by assumption) ?rest78
            case hi78 => (simp only [gA, gB, gC]; rfl)
            case hQ78 => exact fun _ _ _ h => h
            case hw78 => rfl
            case hy78 => (intro w hSw; (try dsimp only at hSw); go_simp; try with_reducible rfl)
            (try simp only [Act.put, sA, sB, sC])
            refine wpAnyH_take (i := 1) (oi := ?oi79) (v := ?v79) ?hi79 (by kernel_rfl) (by kernel_rfl) (by kernel_rfl) ?hQ79 (Or.inl ⟨?hw79, ?hy79⟩) (by assumption) ?rest79
            case hi79 => (simp only [gA, gB, gC]; rfl)
            case hQ79 => exact fun _ _ _ h => h
            case hw79 => rfl
            case hy79 => (intro w hSw; (try dsimp only at hSw); go_simp; try with_reducible rfl)
            (try simp only [Act.put, sA, sB, sC])
            refine wpAnyH_take (i := 2) (oi := ?oi80) (v := ?v80) ?hi80 (by kernel_rfl) (by kernel_rfl) (by kernel_rfl) ?hQ80 (Or.inl ⟨?hw80, ?hy80⟩) (by assumption) ?rest80
            case hi80 => (simp only [gA, gB, gC]; rfl)
            case hQ80 => exact fun _ _ _ h => h
            case hw80 => rfl
            case hy80 => (intro w hSw; (try dsimp only at hSw); go_simp; try with_reducible rfl)
            (try simp only [Act.put, sA, sB, sC])
            refine wpAnyH_take (i := 3) (oi := ?oi81) (v := ?v81) ?hi81 (by kernel_rfl) (by kernel_rfl) (by kernel_rfl) ?hQ81 (Or.inl ⟨?hw81, ?hy81⟩) (by assumption) ?rest81
            case hi81 => (simp only [gA, gB, gC]; rfl)
            case hQ81 => exact fun _ _ _ h => h
            case hw81 => rfl
            case hy81 => (intro w hSw; (try dsimp only at hSw); go_simp; try with_reducible rfl)
            (try simp only [Act.put, sA, sB, sC])
            refine wpAnyH_ready (rs := [4]) (by kernel_rfl) (by simp) ?_
            refine AllReadyH.cons (o := ?o82) ?ho82 (fun K hK => ?st82) AllReadyH.nil
            case ho82 => (simp only [gA, gB, gC]; rfl)
            go_simp
            refine (HG.out _).mono ?_; rintro e w2 ⟨rfl, hb2⟩
            refine hK.out _ _ ?_ (fun hHeld => ?_)
            · (try dsimp only); exact HK.out _ _ hHeld hb2
            clear hK K
            (try simp only [Act.put, sA, sB, sC])
            refine wpAnyH_take (i := 5) (oi := ?oi83) (v := ?v83) ?hi83 (by kernel_rfl) (by kernel_rfl) (by kernel_rfl) ?hQ83 (Or.inl ⟨?hw83, ?hy83⟩) (by assumption) ?rest83
            case hi83 => (simp only [gA, gB, gC]; rfl)
            case hQ83 => exact fun _ _ _ h => h
            case hw83 => rfl
            case hy83 => (intro w hSw; (try dsimp only at hSw); go_simp; try with_reducible rfl)
            (try simp only [Act.put, sA, sB, sC])
            refine wpAnyH_take (i := 6) (oi := ?oi84) (v := ?v84) ?hi84 (by kernel_rfl) (by kernel_rfl) (by kernel_rfl) ?hQ84 (Or.inl ⟨?hw84, ?hy84⟩) (by assumption) ?rest84
            case hi84 => (simp only [gA, gB, gC]; rfl)
            case hQ84 => exact fun _ _ _ h => h
            case hw84 => rfl
            case hy84 => (intro w hSw; (try dsimp only at hSw); go_simp; try with_reducible rfl)
            (try simp only [Act.put, sA, sB, sC])
            refine wpAnyH_take (i := 7) (oi := ?oi85) (v := ?v85) ?hi85 (by kernel_rfl) (by kernel_rfl) (by kernel_rfl) ?hQ85 (Or.inl ⟨?hw85, ?hy85⟩) (by assumption) ?rest85
            case hi85 => (simp only [gA, gB, gC]; rfl)
            case hQ85 => exact fun _ _ _ h => h
            case hw85 => rfl
            case hy85 => (intro w hSw; (try dsimp only at hSw); go_simp; try with_reducible rfl)
            (try simp only [Act.put, sA, sB, sC])
            refine wpAnyH_take (i := 8) (oi := ?oi86) (v := ?v86) ?hi86 (by kernel_rfl) (by kernel_rfl) (by kernel_rfl) ?hQ86 (Or.inl ⟨?hw86, ?hy86⟩) (by assumption) ?rest86
            case hi86 => (simp only [gA, gB, gC]; rfl)
            case hQ86 => exact fun _ _ _ h => h
            case hw86 => rfl
            case hy86 => (intro w hSw; (try dsimp only at hSw); go_simp; try with_reducible rfl)
            (try simp only [Act.put, sA, sB, sC])
            refine wpAnyH_take (i := 9) (oi := ?oi87) (v := ?v87) ?hi87 (by kernel_rfl) (by kernel_rfl) (by kernel_rfl) ?hQ87 (Or.inl ⟨?hw87, ?hy87⟩) (by assumption) ?rest87
            case hi87 => (simp only [gA, gB, gC]; rfl)
            case hQ87 => exact fun _ _ _ h => h
            case hw87 => rfl
            case hy87 => (intro w hSw; (try dsimp only at hSw); go_simp; try with_reducible rfl)
            (try simp only [Act.put, sA, sB, sC])
            refine wpAnyH_take (i := 10) (oi := ?oi88) (v := ?v88) ?hi88 (by kernel_rfl) (by kernel_rfl) (by kernel_rfl) ?hQ88 (Or.inl ⟨?hw88, ?hy88⟩) (by assumption) ?rest88
            case hi88 => (simp only [gA, gB, gC]; rfl)
            case hQ88 => exact fun _ _ _ h => h
            case hw88 => rfl
            case hy88 => (intro w hSw; (try dsimp only at hSw); go_simp; try with_reducible rfl)
            (try simp only [Act.put, sA, sB, sC])
            refine wpAnyH_take (i := 11) (oi := ?oi89) (v := ?v89) ?hi89 (by kernel_rfl) (by kernel_rfl) (by kernel_rfl) ?hQ89 (Or.inl ⟨?hw89, ?hy89⟩) (by assumption) ?rest89
            case hi89 => (simp only [gA, gB, gC]; rfl)
            case hQ89 => exact fun _ _ _ h => h
            case hw89 => rfl
            case hy89 => (intro w hSw; (try dsimp only at hSw); go_simp; try with_reducible rfl)
            (try simp only [Act.put, sA, sB, sC])
            refine wpAnyH_take (i := 12) (oi := ?oi90) (v := ?v90) ?hi90 (by kernel_rfl) (by kernel_rfl) (by kernel_rfl) ?hQ90 (Or.inl ⟨?hw90, ?hy90⟩) (by assumption) ?rest90
            case hi90 => (simp only [gA, gB, gC]; rfl)
            case hQ90 => exact fun _ _ _ h => h
            case hw90 => rfl
            case hy90 => (intro w hSw; (try dsimp only at hSw); go_simp; try with_reducible rfl)
            (try simp only [Act.put, sA, sB, sC])
            refine wpAnyH_take (i := 13) (oi := ?oi91) (v := ?v91) ?hi91 (by kernel_rfl) (by kernel_rfl) (by kernel_rfl) ?hQ91 (Or.inl ⟨?hw91, ?hy91⟩) (by assumption) ?rest91
            case hi91 => (simp only [gA, gB, gC]; rfl)
            case hQ91 => exact fun _ _ _ h => h
            case hw91 => rfl
            case hy91 => (intro w hSw; (try dsimp only at hSw); go_simp; try with_reducible rfl)
            (try simp only [Act.put, sA, sB, sC])
            refine wpAnyH_take (i := 14) (oi := ?oi92) (v := ?v92) ?hi92 (by kernel_rfl) (by kernel_rfl) (by kernel_rfl) ?hQ92 (Or.inl ⟨?hw92, ?hy92⟩) (by assumption) ?rest92
            case hi92 => (simp only [gA, gB, gC]; rfl)
            case hQ92 => exact fun _ _ _ h => h
            case hw92 => rfl
            case hy92 => (intro w hSw; (try dsimp only at hSw); go_simp; try with_reducible rfl)
            (try simp only [Act.put, sA, sB, sC])
            refine wpAnyH_take (i := 15) (oi := ?oi93) (v := ?v93) ?hi93 (by kernel_rfl) (by kernel_rfl) (by kernel_rfl) ?hQ93 (Or.inl ⟨?hw93, ?hy93⟩) (by assumption) ?rest93
            case hi93 => (simp only [gA, gB, gC]; rfl)
            case hQ93 => exact fun _ _ _ h => h
            case hw93 => rfl
            case hy93 => (intro w hSw; (try dsimp only at hSw); go_simp; try with_reducible rfl)
            (try simp only [Act.put, sA, sB, sC])
            refine wpAnyH_take (i := 16) (oi := ?oi94) (v := ?v94) ?hi94 (by kernel_rfl) (by kernel_rfl) (by kernel_rfl) ?hQ94 (Or.inl ⟨?hw94, ?hy94⟩) (by assumption) ?rest94
            case hi94 => (simp only [gA, gB, gC]; rfl)
            case hQ94 => exact fun _ _ _ h => h
            case hw94 => rfl
            case hy94 => (intro w hSw; (try dsimp only at hSw); go_simp; try with_reducible rfl)
            (try simp only [Act.put, sA, sB, sC])
            refine wpAnyH_take (i := 17) (oi := ?oi95) (v := ?v95) ?hi95 (by kernel_rfl) (by kernel_rfl) (by kernel_rfl) ?hQ95 (Or.inl ⟨?hw95, ?hy95⟩) (by assumption) ?rest95
            case hi95 => (simp only [gA, gB, gC]; rfl)
            case hQ95 => exact fun _ _ _ h => h
            case hw95 => rfl
            case hy95 => (intro w hSw; (try dsimp only at hSw); go_simp; try with_reducible rfl)
            (try simp only [Act.put, sA, sB, sC])
            refine wpAnyH_take (i := 18) (oi := ?oi96) (v := ?v96) ?hi96 (by kernel_rfl) (by kernel_rfl) (by kernel_rfl) ?hQ96 (Or.inl ⟨?hw96, ?hy96⟩) (by assumption) ?rest96
            case hi96 => (simp only [gA, gB, gC]; rfl)
            case hQ96 => exact fun _ _ _ h => h
            case hw96 => rfl
            case hy96 => (intro w hSw; (try dsimp only at hSw); go_simp; try with_reducible rfl)
            (try simp only [Act.put, sA, sB, sC])
            refine wpAnyH_done (by kernel_rfl) ?_ _
            go_wp2_with fail
            go_roundw
            case rel => exact ⟨k + 1, by omega, by go_num, HALL.out, hHeld.1⟩
            case measure => simp [intOf]; omega
      · have HF := Lib.hid (HALLF.out fun j hj hj' => hall j hj hj' (by omega))
        have hkl : k = vs.length := by omega
        have hkf : ¬ (k : Int) < (fs.length : Int) := by rw [HL.out]; omega
        have hkv : ¬ (k : Int) < (vs.length : Int) := by omega
        clear hall hkl
        go_wp2
        go_ret
        exact ⟨ret_bool HF.out.symm, hb⟩
  · have hne : ((fs.length : Int) != (vs.length : Int)) = true := by simp; omega
    have HNO := Lib.hid (fit_len fs vs hl)
    clear hl
    go_enter Tryz.func28, Tryz.ntmps28
    go_wp2
    go_ret
    exact ⟨ret_bool HNO.out.symm, Below.refl _ _⟩
end Go.Proofs.YthgdnpcfdgimlabGreat

/- Layer 5: ExprSound. -/
namespace Go.Proofs.YthgdnpcfdgimlabGreat
open Go.RowKit
set_option linter.unusedVariables false
set_option linter.unusedSimpArgs false
set_option maxRecDepth 20000

theorem setV_good {v : Vl} (h : goodV v = true) : goodV (setV v) = true ∧ (setV v).k = v.k := by
  unfold setV
  by_cases h4 : v.k = 4
  · rw [if_pos h4, reck_self h h4]
    exact ⟨good_num _, h4.symm⟩
  · rw [if_neg h4]
    exact ⟨h, rfl⟩
theorem sound_pure {e : Ex} {fs : List Fd} {vs : List Vl} {k : Int} (hc : checkX e fs = (k, 0)) (hf : fitX fs vs = true) (hok : okX 6 e) (hvs : ∀ v ∈ vs, okV v) :
    ((evalP e fs vs).2 = 0 ∧ (evalP e fs vs).1.k = k ∧ goodV (evalP e fs vs).1 = true) ∨ ((evalP e fs vs).2 = 41 ∨ (evalP e fs vs).2 = 42) := by
  have hsm : smallX e = true := by
    cases hs : smallX e with
    | true => rfl
    | false =>
      have : checkX e fs = (0, 51) := by unfold checkX; rw [hs]; rfl
      rw [this] at hc; exact absurd hc (by intro h; injection h with _ h; exact absurd h (by decide))
  have hck : chkX 6 e fs = (k, 0) := by
    have : checkX e fs = chkX 6 e fs := by unfold checkX; rw [hsm]; rfl
    rw [← this]; exact hc
  have hs := ev_sound fs vs hf hvs 6 e k hok ((smallX_iff e).1 hsm).1 hck
  have he : evalP e fs vs = endV (evX 6 e fs vs) := by
    unfold evalP
    rw [hc, if_neg (fun h => h rfl), if_pos hf]
  rw [he]
  unfold endV
  rcases hs with ⟨h0, h1, h2, h3⟩ | ⟨h1, h2⟩
  · rw [if_pos h0]
    exact .inl ⟨rfl, by rw [(setV_good h1).2]; exact h3, (setV_good h1).1⟩
  · rw [if_neg (by omega)]
    exact .inr h1

/-- a law's two boxes: the expression, the scope -/
structure SB (w : World) (FA : Option Addr) (fn FC : Nat) (VA : Option Addr) (vn VC : Nat) (op : Int) (A : Option Addr) (n c : Nat) (nm : ByteArray) (v : Vl) (W : World) : Prop where
  bel : Below w.heap.size w W
  ex : CellsX W w.heap.size op A n c nm v
  f : W.cell? ⟨w.heap.size + 1, 0, none⟩ = some (.slice FA fn FC)
  v : W.cell? ⟨w.heap.size + 1, 1, none⟩ = some (.slice VA vn VC)
  lt : w.heap.size + 2 ≤ W.heap.size
theorem SB.below {w : World} {FA : Option Addr} {fn FC : Nat} {VA : Option Addr} {vn VC : Nat} {op : Int} {A : Option Addr} {n c : Nat} {nm : ByteArray} {v : Vl} {W W' : World} (h : SB w FA fn FC VA vn VC op A n c nm v W) (hb : Below W.heap.size W W') : SB w FA fn FC VA vn VC op A n c nm v W' :=
  ⟨h.bel.trans (hb.mono h.bel.size), h.ex.below hb, keepc hb (by have := h.lt; omega) h.f, keepc hb (by have := h.lt; omega) h.v, Nat.le_trans h.lt hb.size⟩
theorem SB.new (w : World) (FA : Option Addr) (fn FC : Nat) (VA : Option Addr) (vn VC : Nat) (op : Int) (A : Option Addr) (n c : Nat) (nm : ByteArray) (v : Vl) (t : TypeId) :
    SB w FA fn FC VA vn VC op A n c nm v ((w.alloc (bxX op A n c nm v)).alloc (.cells #[.slice FA fn FC, .slice VA vn VC] t)) := by
  have h2 := heap_alloc_new (w.alloc (bxX op A n c nm v)) (.cells #[.slice FA fn FC, .slice VA vn VC] t)
  have hs : (w.alloc (bxX op A n c nm v)).heap.size = w.heap.size + 1 := by simp
  rw [hs] at h2
  exact ⟨vbox2 w _ _, (Kid_new w op A n c nm v).below (alloc1 _ _), (cell_of_row _ _ 0 _ _ (0, 0) h2).trans rfl, (cell_of_row _ _ 1 _ _ (0, 0) h2).trans rfl, by simp⟩
end Go.Proofs.YthgdnpcfdgimlabGreat

/- Layer 5: is an expression small, by the document; does it name a field. -/
namespace Go.Proofs.YthgdnpcfdgimlabGreat
open Go.RowKit
set_option linter.unusedVariables false
set_option linter.unusedSimpArgs false
set_option maxRecDepth 20000

theorem leftF_ge : ∀ (d : Nat) (e : Ex) (n : Int), 0 ≤ n → -1 ≤ leftF d e n
  | 0, e, n, _ => by show (-1 : Int) ≤ -1; omega
  | d + 1, e, n, h => by
    have hl : ∀ (ks : List Ex) (m : Int), -1 ≤ m → -1 ≤ leftL (leftF d) ks m := by
      intro ks
      induction ks with
      | nil => intro m hm; exact hm
      | cons k ks ih =>
        intro m hm
        unfold leftL
        split
        · exact hm
        · exact ih _ (leftF_ge d k m (by omega))
    exact hl e.kids (n - 1) (by omega)
set_option maxHeartbeats 2000000 in
theorem left_any : ∀ (D : Nat) (d : Nat) (e : Ex) (A : Option Addr) (c : Nat) (n deep : Int) (w : World), d ≤ 6 → deep = d → 0 ≤ n → n ≤ 24 → ExK w D A c e →
    Calls Tryz.prog 137 #[agX e.op A e.kids.length c e.name e.val, .int .i64 deep, .int .i64 n] w (VMk (.int .i64 (leftF d e n)) w)
  | 0, _, _, _, _, _, _, _, _, _, _, _, h => False.elim h
  | D + 1, d, e, A, c, n, deep, w, hd, hdeep, h0, h1, hx => by
    obtain ⟨h2, h3, h4, h5⟩ := hx
    have ih := left_any D
    unfold maxLen at h3
    have hlen : e.kids.length ≤ 9223372036854775807 := by omega
    have hwn : IntKind.i64.wrap (n - 1) = n - 1 := by rw [IntKind.wrap_i64]; omega
    cases d with
    | zero =>
      subst hdeep
      have hr : leftF 0 e n = -1 := rfl
      rw [hr]
      clear hr ih h5 h3 h4 h2 hd
      go_enter Tryz.func137, Tryz.ntmps137
      go_wp2
      go_ret
      exact ⟨rfl, (Below.refl _ _).alloc (Nat.le_refl _) _⟩
    | succ d' =>
      have hm : leftF (d' + 1) e n = leftL (leftF d') e.kids (n - 1) := rfl
      rw [hm]
      have hwd : IntKind.i64.wrap (deep - 1) = deep - 1 := by rw [IntKind.wrap_i64]; omega
      have hdp : ¬ deep < 1 := by omega
      have HIH := Lib.hid (fun e A c n W (hx : ExK w D A c e) (hn : 0 ≤ n) (hn4 : n ≤ 24) (hB : Below w.heap.size w W) => ih d' e A c n (deep - 1) W (by omega) (by omega) hn hn4 (hx.below hB (Nat.le_refl _)))
      have H5 := Lib.hid h5
      have HD := Lib.hid (And.intro hd hdeep)
      clear hm ih h5 hd hdeep h2 h3 h4
      generalize e.kids = ks at *
      generalize e.op = eop at *
      generalize e.name = enm at *
      generalize e.val = ev at *
      have hbx := Lib.hid (Kid_new w eop A ks.length c enm ev)
      go_enter Tryz.func137, Tryz.ntmps137
      go_wp2
      go_loopw [2, 7] (fun nv i wr => ∃ (k : Nat) (m : Int), k ≤ ks.length ∧ nv = .int .i64 m ∧ i = .int .i64 k ∧ leftL (leftF d') (ks.drop k) m = leftL (leftF d') ks (n - 1) ∧ -1 ≤ m ∧ m ≤ 24 ∧ Below w.heap.size w wr ∧ wr.cell? ⟨w.heap.size, 1, none⟩ = some (.slice A ks.length c)) (fun _ i _ => ks.length - (intOf i).toNat)
      case atStart => exact ⟨0, n - 1, Nat.zero_le _, rfl, rfl, rfl, by omega, by omega, (Below.refl _ _).alloc (Nat.le_refl _) _, hbx.out.2.1⟩
      case round =>
        obtain ⟨k, m, hk, rfl, rfl, hm, hm0, hm4, hb, hc⟩ := hrel
        by_cases hlt : k < ks.length
        · by_cases hp : 0 ≤ m
          · obtain ⟨ad, A', c', rfl, hbl, hkid, hsub⟩ := H5.out k hlt
            obtain ⟨q0, q1, q2, q3, q4, q5, q6, q7⟩ := hkid.below hb (by rw [block_add]; exact hbl)
            have hcall := HIH.out ks[k] A' c' m wr hsub hp hm4 hb
            have hdr := leftL_drop (leftF d') ks k hlt m hp
            have hle := leftF_le d' ks[k] m
            have hge := leftF_ge d' ks[k] m hp
            rw [hdr] at hm
            generalize leftF d' ks[k] m = m' at hcall hm hle hge
            generalize ks[k].op = ko at q0 hcall
            generalize ks[k].name = kn at q2 hcall
            generalize ks[k].val = ky at q3 q4 q5 q6 q7 hcall
            generalize ks[k].kids.length = kl at q1 hcall
            have HC := Lib.hid hcall
            have HM := Lib.hid hm
            have hcl := World.block_lt_of_cell? wr _ hc
            have hltI : (k : Int) < (ks.length : Int) := by omega
            clear hcall hm hdr hkid hsub
            go_wp2_with (go_at_call 137; refine HC.out.mono ?_; rintro e w2 ⟨rfl, hb2⟩)
            go_roundw
            case rel => exact ⟨k + 1, m', by omega, rfl, by go_num, HM.out, hge, by omega, hb.trans (hb2.mono hb.size), keepc hb2 hcl hc⟩
            case measure => simp [intOf]; omega
          · have hr : m = leftL (leftF d') ks (n - 1) := by rw [← hm, leftL_neg _ _ _ (by omega)]
            have HR := Lib.hid hr
            have hltI : (k : Int) < (ks.length : Int) := by omega
            clear hr hm
            go_wp2
            go_ret
            exact ⟨ret_int HR.out, hb⟩
        · obtain rfl : k = ks.length := by omega
          have hr : m = leftL (leftF d') ks (n - 1) := by rw [← hm, List.drop_length]; rfl
          have HR := Lib.hid hr
          clear hr hm
          go_wp2
          go_ret
          exact ⟨ret_int HR.out, hb⟩
theorem rSmall_any (D : Nat) (e : Ex) (A : Option Addr) (c : Nat) (w : World) (hx : ExK w D A c e) : Calls Tryz.prog 98 #[agX e.op A e.kids.length c e.name e.val] w (VMk (.bool (smallX e)) w) := by
  have hl := fun o => left_any D 6 e A c 24 6 (w.alloc o) (by omega) (by decide) (by decide) (by decide) (hx.below ((Below.refl w.heap.size w).alloc (Nat.le_refl _) o) (Nat.le_refl _))
  have hs : smallX e = decide (0 ≤ leftF 6 e 24) := rfl
  rw [hs]
  clear hs hx
  generalize leftF 6 e 24 = m at *
  generalize e.kids.length = n at *
  generalize e.op = eop at *
  generalize e.name = enm at *
  generalize e.val = ev at *
  have HL := Lib.hid hl
  clear hl
  go_enter Tryz.func98, Tryz.ntmps98
  go_wp2_with (go_at_call 137; refine (HL.out _).mono ?_; rintro e w1 ⟨rfl, hb1⟩)
  go_ret
  exact ⟨rfl, ((Below.refl _ _).alloc (Nat.le_refl _) _).trans (hb1.mono (by simp))⟩
end Go.Proofs.YthgdnpcfdgimlabGreat

/- Layer 5: expressions as bytes, by the document. -/
namespace Go.Proofs.YthgdnpcfdgimlabGreat
open Go.RowKit
set_option linter.unusedVariables false
set_option linter.unusedSimpArgs false
set_option maxRecDepth 20000

theorem PutsV.of_puts {w W w' : World} {l : List UInt8} {e : Ending} (h : Puts W l e w') (hb : Below w.heap.size w W) : PutsV w l e w' := by
  obtain ⟨v', rfl, h1, h2⟩ := h
  exact ⟨v', _, rfl, hb.size, h1, bel2 hb h2⟩
theorem PutsV.to {w W w' : World} {l : List UInt8} {e : Ending} (h : PutsV W l e w') (hb : Below w.heap.size w W) : PutsV w l e w' := by
  obtain ⟨v', B, rfl, h0, h1, h2⟩ := h
  exact ⟨v', B, rfl, Nat.le_trans hb.size h0, h1, bel2 hb h2⟩
end Go.Proofs.YthgdnpcfdgimlabGreat

/- Layer 5: rows of structs that are copied behind one another. -/
namespace Go.Proofs.YthgdnpcfdgimlabGreat
open Go.RowKit
set_option linter.unusedVariables false
set_option linter.unusedSimpArgs false
set_option maxRecDepth 20000

/-- the slice value y holds m elements of so many cells: news -/
def RowS (w : World) (size : Nat) (y : Value) (m : Nat) (news : List Value) : Prop :=
  ∃ A c, y = .slice A m c ∧ news.length = m * size ∧ (A = none → m = 0 ∧ c = 0) ∧ ∀ a, A = some a → ∀ j u, news[j]? = some u → w.cell? (a.add j) = some u
theorem RowS.below {w w' : World} {size : Nat} {y : Value} {m : Nat} {news : List Value} (h : RowS w size y m news) (hb : Below w.heap.size w w') : RowS w' size y m news := by
  obtain ⟨A, c, e, h1, h2, h3⟩ := h
  refine ⟨A, c, e, h1, h2, fun a ha j u hj => ?_⟩
  have h4 := h3 a ha j u hj
  have hl := World.block_lt_of_cell? w _ h4
  exact (hb.cell hl).trans h4
section
variable {P : Program} {w : World}
theorem run_append_rows (base : Nat) (t ty e : TypeId) (i : TypeInfo) (z : Value) (size bytes : Nat) (ht : P.underlying t = some (.slice e)) (hi : P.info? e = some i) (hz : i.zero = some z)
    (hsize : i.size = size) (hby : i.bytes = bytes) (hzs : z.cells.size = size) (hpos : 0 < size)
    (v : Value) (n : Nat) (xs : List Value) (hown : w.ownsRow base e size v n xs)
    (y : Value) (m : Nat) (news : List Value) (hr : RowS w size y m news) (h1 : ∀ u ∈ news, u.oneCell' = true)
    (h63 : n + m ≤ maxLen) (hbytes : (n + m) * bytes ≤ 140737488355328) (hbase : base ≤ w.heap.size) :
    ∃ v' w', (Builtin.append_ #[t, t] ty #[v, y]).run P w = .ok v' w' ∧ w'.ownsRow base e size v' (n + m) (xs ++ news) ∧ w.grownBy w' v.ownBlock ∧
      (v'.ownBlock = v.ownBlock ∨ v'.ownBlock = some w.heap.size) := by
  obtain ⟨A, c, rfl, hl, hn, hx⟩ := hr
  rcases A with _ | ad
  · obtain ⟨rfl, rfl⟩ := hn rfl
    have : news = [] := List.eq_nil_of_length_eq_zero (by omega)
    subst this
    exact ⟨v, w, run_append_nothing w base t ty e i size ht hi v n xs hown 0, by simpa using hown, World.grownBy.refl w _, .inl rfl⟩
  · obtain ⟨v', w', hrun, h2, h3, _, h5⟩ := run_append_own_at (P := P) w base t ty e i z size bytes ht hi hz hsize hby hzs hpos v n xs hown ad m c news hl (hx ad rfl) h1 h63 hbytes hbase
    exact ⟨v', w', hrun, h2, h3, h5⟩
end
/-- a field's, a value's cells -/
structure Fx8 where
  f : Fd
  A : Option Addr
  n : Nat
  c : Nat
  y : Vl
def Fx8.cells (q : Fx8) : List Value := [.string q.f.name, .int .i64 q.f.kind, .slice q.A q.n q.c, .int .i64 q.y.k, .int .i64 q.y.i, .bool q.y.b, .string q.y.s, .float .f64 q.y.n]
def vcells (y : Vl) : List Value := [.int .i64 y.k, .int .i64 y.i, .bool y.b, .string y.s, .float .f64 y.n]
theorem flat_len {α : Type} (f : α → List Value) (s : Nat) (hf : ∀ x, (f x).length = s) : ∀ l : List α, (l.flatMap f).length = l.length * s
  | [] => by simp
  | x :: l => by rw [List.flatMap_cons, List.length_append, hf, flat_len f s hf l, List.length_cons, Nat.add_mul]; omega
theorem flat_get {α : Type} (f : α → List Value) (s : Nat) (hf : ∀ x, (f x).length = s) : ∀ (l : List α) (j o : Nat) (hj : j < l.length), o < s → (l.flatMap f)[j * s + o]? = (f l[j])[o]?
  | [], j, o, hj, _ => absurd hj (Nat.not_lt_zero _)
  | x :: l, 0, o, _, ho => by rw [List.flatMap_cons, Nat.zero_mul, Nat.zero_add, List.getElem?_append_left (by rw [hf]; exact ho), List.getElem_cons_zero]
  | x :: l, j + 1, o, hj, ho => by
    rw [List.flatMap_cons, List.getElem?_append_right (by rw [hf, Nat.add_mul]; omega), hf, List.getElem_cons_succ, show (j + 1) * s + o - s = j * s + o by rw [Nat.add_mul]; omega]
    exact flat_get f s hf l j o (by simpa using hj) ho
theorem vlk_own {w : World} {base : Nat} {v : Value} {n : Nat} {ys : List Vl} (h : w.ownsRow base 53 5 v n (ys.flatMap vcells)) : ∃ A c, v = .slice A ys.length c ∧ VlK w A c ys := by
  have hl := h.1
  rw [flat_len vcells 5 (fun _ => rfl)] at hl
  have hn : n = ys.length := by omega
  subst hn
  rcases h.2 with ⟨rfl, h0⟩ | ⟨g, cap, cur, rfl, _, hg, hc, hm, hcs, ht⟩
  · have : ys = [] := List.eq_nil_of_length_eq_zero h0
    subst this
    exact ⟨none, 0, rfl, Nat.le_refl _, Nat.zero_le _, fun _ => rfl, fun j hj => absurd hj (Nat.not_lt_zero _)⟩
  · refine ⟨some ⟨g, 0, none⟩, cap, rfl, hc, hm, fun h => (by cases h), fun j hjl => ?_⟩
    have hat : ∀ o, o < 5 → w.cell? ⟨g, j * 5 + o, none⟩ = (vcells ys[j])[o]? := fun o ho => by
      rw [cell_of_row w g _ _ _ (0, 0) hg, ← flat_get vcells 5 (fun _ => rfl) ys j o hjl ho, ← ht, List.getElem?_take, if_pos (by omega), Array.getElem?_toList]
    refine ⟨⟨g, 0, none⟩, rfl, (Array.getElem?_eq_some_iff.1 hg).1, ?_⟩
    rw [Addr.add_lit, Nat.zero_add]
    exact ⟨hat 0 (by omega), hat 1 (by omega), hat 2 (by omega), hat 3 (by omega), hat 4 (by omega)⟩
end Go.Proofs.YthgdnpcfdgimlabGreat

/- Layer 5: rows of fields, of values as what is copied. -/
namespace Go.Proofs.YthgdnpcfdgimlabGreat
open Go.RowKit
set_option linter.unusedVariables false
set_option linter.unusedSimpArgs false
set_option maxRecDepth 20000

instance : Inhabited Fd := ⟨⟨⟨#[]⟩, 0⟩⟩
/-- one of them in a new block -/
theorem rows_one (w : World) (cs : List Value) (e : TypeId) (size : Nat) (h : cs.length = size) : RowS (w.alloc (.cells cs.toArray e)) size (.slice (some ⟨w.heap.size, 0, none⟩) 1 1) 1 cs := by
  have hn := heap_alloc_new w (.cells cs.toArray e)
  refine ⟨_, 1, rfl, by omega, fun h => (by cases h), fun a ha j u hj => ?_⟩
  injection ha with ha
  subst ha
  rw [Addr.add_lit, Nat.zero_add, cell_of_row _ _ _ _ _ (0, 0) hn]
  simpa using hj
end Go.Proofs.YthgdnpcfdgimlabGreat

/- Layer 5: expressions that are read: kids in new memory; what is read is bounded. -/
namespace Go.Proofs.YthgdnpcfdgimlabGreat
open Go.RowKit
set_option linter.unusedVariables false
set_option linter.unusedSimpArgs false
set_option maxRecDepth 20000

/-- e's kids lie in the row (A, .., c), in blocks of S, and so on -/
def ExS (S : Nat → Prop) (w : World) : Nat → Option Addr → Nat → Ex → Prop
  | 0, _, _, _ => False
  | d + 1, A, c, e => e.kids.length ≤ c ∧ c ≤ maxLen ∧ (A = none → c = 0) ∧ ∀ j (hj : j < e.kids.length), ∃ ad A' c', A = some ad ∧ ad.block < w.heap.size ∧ S ad.block ∧ Kid w (ad.add (j * 8)) e.kids[j].op A' e.kids[j].kids.length c' e.kids[j].name e.kids[j].val ∧ ExS S w d A' c' e.kids[j]
theorem Kid.at {w w' : World} {p : Addr} {op : Int} {A : Option Addr} {n c : Nat} {nm : ByteArray} {y : Vl} (h : Kid w p op A n c nm y) (hb : w'.heap[p.block]? = w.heap[p.block]?) : Kid w' p op A n c nm y := by
  obtain ⟨h0, h1, h2, h3, h4, h5, h6, h7⟩ := h
  have k : ∀ o, w'.cell? ⟨p.block, o, none⟩ = w.cell? ⟨p.block, o, none⟩ := fun o => World.cell?_of_block (a := ⟨p.block, o, none⟩) hb
  exact ⟨(World.cell?_of_block hb).trans h0, (k _).trans h1, (k _).trans h2, (k _).trans h3, (k _).trans h4, (k _).trans h5, (k _).trans h6, (k _).trans h7⟩
theorem ExS.move {S T : Nat → Prop} {w w' : World} (h : ∀ b, S b → b < w.heap.size → w'.heap[b]? = w.heap[b]? ∧ T b) (hz : w.heap.size ≤ w'.heap.size) : ∀ {d : Nat} {A : Option Addr} {c : Nat} {e : Ex}, ExS S w d A c e → ExS T w' d A c e
  | 0, _, _, _, h => False.elim h
  | d + 1, A, c, e, hx => by
    obtain ⟨h1, h2, h3, h4⟩ := hx
    refine ⟨h1, h2, h3, fun j hj => ?_⟩
    obtain ⟨ad, A', c', e1, e2, e5, e3, e4⟩ := h4 j hj
    obtain ⟨f1, f2⟩ := h _ e5 e2
    exact ⟨ad, A', c', e1, Nat.lt_of_lt_of_le e2 hz, f2, e3.at (by rw [block_add]; exact f1), ExS.move h hz e4⟩
theorem ExS.leaf (S : Nat → Prop) (w : World) (d : Nat) (e : Ex) (h : e.kids = []) : ExS S w (d + 1) none 0 e := by
  refine ⟨by rw [h]; exact Nat.le_refl _, Nat.zero_le _, fun _ => rfl, fun j hj => ?_⟩
  rw [h] at hj; exact absurd hj (Nat.not_lt_zero _)
/-- a kid that was read, where its own kids lie -/
structure Kx where
  e : Ex
  A : Option Addr
  c : Nat
def Kx.cells (q : Kx) : List Value := [.int .i64 q.e.op, .slice q.A q.e.kids.length q.c, .string q.e.name, .int .i64 q.e.val.k, .int .i64 q.e.val.i, .bool q.e.val.b, .string q.e.val.s, .float .f64 q.e.val.n]
/-- all blocks but two are as they were; new ones may be there -/
structure Twb (g s : Nat) (w w' : World) : Prop where
  os : w'.os = w.os
  tape : w'.tape = w.tape
  output : w'.output = w.output
  size : w.heap.size ≤ w'.heap.size
  block : ∀ k, k < w.heap.size → k ≠ g → k ≠ s → w'.heap[k]? = w.heap[k]?
theorem Twb.refl (g s : Nat) (w : World) : Twb g s w w := ⟨rfl, rfl, rfl, Nat.le_refl _, fun _ _ _ _ => rfl⟩
theorem Twb.trans {g s : Nat} {a b c : World} (h : Twb g s a b) (k : Twb g s b c) : Twb g s a c :=
  ⟨k.os.trans h.os, k.tape.trans h.tape, k.output.trans h.output, Nat.le_trans h.size k.size, fun i hi h1 h2 => (k.block i (Nat.lt_of_lt_of_le hi h.size) h1 h2).trans (h.block i hi h1 h2)⟩
theorem Only.two {g : Nat} {w w' : World} (h : Only g w w') (s : Nat) : Twb g s w w' := ⟨h.os, h.tape, h.output, h.size, fun k hk h1 _ => h.block k hk (by intro e; injection e with e; exact h1 e)⟩
theorem Below.two {w w' : World} (h : Below w.heap.size w w') (g s : Nat) : Twb g s w w' := ⟨h.os, h.tape, h.output, h.size, fun k hk _ _ => h.block k hk⟩
theorem Twb.below {g s B : Nat} {w w' : World} (h : Twb g s w w') (hB : B ≤ w.heap.size) (hg : B ≤ g) (hs : B ≤ s) : Below B w w' := ⟨h.os, h.tape, h.output, h.size, fun k hk => h.block k (by omega) (by omega) (by omega)⟩
theorem Twb.only {g s : Nat} {w w' : World} (h : Twb g s w w') (hs : w.heap.size ≤ s) : Only g w w' := ⟨h.os, h.tape, h.output, h.size, fun k hk h1 => h.block k hk (by intro e; exact h1 (by rw [e])) (by omega)⟩
/-- a store into a block that is new -/
theorem Twb.setNew {g s k : Nat} {a w : World} (h : Twb g s a w) (hk : a.heap.size ≤ k) (j : Nat) (u : Value) : Twb g s a (w.setCell ⟨k, j, none⟩ u) :=
  ⟨h.os, h.tape, h.output, by simpa [World.setCell] using h.size, fun m hm h1 h2 => (Below.heap_setCell w _ u m (by intro e; simp only at e; omega)).trans (h.block m hm h1 h2)⟩

/-! what is read, by definition -/
/-- what was read ahead, and what is read -/
def pre (l : List Ex) (x : Except Int (List Ex × Int × List UInt8)) : Except Int (List Ex × Int × List UInt8) := match x with
  | .error e => .error e
  | .ok (ks, n, r) => .ok (l ++ ks, n, r)
end Go.Proofs.YthgdnpcfdgimlabGreat

/- Layer 5: are two expressions the same, by the document. -/
namespace Go.Proofs.YthgdnpcfdgimlabGreat
open Go.RowKit
set_option linter.unusedVariables false
set_option linter.unusedSimpArgs false
set_option maxRecDepth 20000

theorem CellsX.drew {W : World} {b : Nat} {op : Int} {A : Option Addr} {n c : Nat} {nm : ByteArray} {y : Vl} (h : CellsX W b op A n c nm y) : CellsX W.drew b op A n c nm y := h

end Go.Proofs.YthgdnpcfdgimlabGreat

/- Layer 5: a value or the zero one, by the program. -/
namespace Go.Proofs.YthgdnpcfdgimlabGreat
open Go.RowKit
set_option linter.unusedVariables false
set_option linter.unusedSimpArgs false
set_option maxRecDepth 20000

/-- a reader copied -/
theorem RdR.copy {W : World} {A : Option Addr} {n c : Nat} {rest : List UInt8} {e : Int} (h : Bt W (.slice A n c) rest) (a : Nat) (ha : a = W.heap.size) : RdR (W.alloc (.cells #[.slice A n c, .int .i64 e] 94)) a rest e := by
  subst ha
  exact ⟨_, heap_alloc_new _ _, Bt.below h ((Below.refl _ _).alloc (Nat.le_refl _) _) (Nat.le_refl _)⟩
/-- what readVal leaves -/
def RvP (g : Nat) (v : Vl) (er : Int) (rest : List UInt8) (w : World) (e : Ending) (w' : World) : Prop := e = .returned (pairVE v er) ∧ (∃ r' e', RdR w' g r' e' ∧ (er = 0 → r' = rest ∧ e' = 0)) ∧ Only g w w'
theorem RvP.of {g : Nat} {q : Vl × List UInt8 × Int} {v : Vl} {er : Int} {rest : List UInt8} {w : World} {e : Ending} {w' : World} (hq : q = (v, rest, er)) (h : RvP g v er rest w e w') : RvP g q.1 q.2.2 q.2.1 w e w' := by
  subst hq
  exact h
theorem GetP.rv {g : Nat} {v : Vl} {er : Int} {rest : List UInt8} {err : Int} {w : World} {e : Ending} {w' : World} (h : GetP g v er rest err w e w') (hok : er = 0 → err = 0) : RvP g v er rest w e w' := ⟨h.1, ⟨_, _, h.2.1, fun h0 => ⟨rfl, hok h0⟩⟩, h.2.2⟩
end Go.Proofs.YthgdnpcfdgimlabGreat

/- Layer 5: what stands between the steps of reading an expression. -/
namespace Go.Proofs.YthgdnpcfdgimlabGreat
open Go.RowKit
set_option linter.unusedVariables false
set_option linter.unusedSimpArgs false
set_option maxRecDepth 20000

/-- bytes stay where blocks of bytes stay -/
theorem Bt.keep {w w' : World} {v : Value} {l : List UInt8} (h : Bt w v l) (hz : w.heap.size ≤ w'.heap.size) (hk : ∀ (k : Nat) (cs : Array Value) (fr : Nat × Nat), w.heap[k]? = some (Obj.cells cs 5 fr) → w'.heap[k]? = w.heap[k]?) : Bt w' v l := by
  obtain ⟨⟨A, c, hv, hc, hm, hn, hx⟩, hy⟩ := h
  by_cases hl : l = []
  · subst hl
    exact ⟨⟨A, c, hv, hc, hm, hn, fun he => absurd rfl he⟩, fun he => absurd rfl he⟩
  · have hl' : l.map bc ≠ [] := by simpa using hl
    obtain ⟨ad, ha, hb, hr⟩ := hx hl'
    have hown : v.ownBlock = some ad.block := by rw [hv, ha]; rfl
    obtain ⟨cs2, fr2, hty⟩ := hy hl ad.block hown
    have hblk := hk _ _ _ hty
    refine ⟨⟨A, c, hv, hc, hm, hn, fun _ => ⟨ad, ha, Nat.lt_of_lt_of_le hb hz, fun j u hu => ?_⟩⟩, fun _ k hkk => ?_⟩
    · have hb2 : (ad.add j).block = ad.block := block_add ad j
      exact (World.cell?_of_block (w := w) (w' := w') (a := ad.add j) (by rw [hb2]; exact hblk)).trans (hr j u hu)
    · rw [hown] at hkk
      injection hkk with hkk
      subst hkk
      exact ⟨cs2, fr2, hblk.trans hty⟩
theorem RdR.keep {w w' : World} {g : Nat} {rest : List UInt8} {e : Int} (h : RdR w g rest e) (hz : w.heap.size ≤ w'.heap.size) (hg : w'.heap[g]? = w.heap[g]?) (hk : ∀ (k : Nat) (cs : Array Value) (fr : Nat × Nat), w.heap[k]? = some (Obj.cells cs 5 fr) → w'.heap[k]? = w.heap[k]?) : RdR w' g rest e := by
  obtain ⟨rv, hh, hb⟩ := h
  exact ⟨rv, hg.trans hh, hb.keep hz hk⟩
/-- a block of another type is another block -/
theorem other_block {w : World} {k N : Nat} {cs cs' : Array Value} {t t' : TypeId} {fr fr' : Nat × Nat} (hk : w.heap[k]? = some (.cells cs t fr)) (hN : w.heap[N]? = some (.cells cs' t' fr')) (ht : t ≠ t') : k ≠ N := by
  rintro rfl
  rw [hN] at hk
  injection hk with hk
  injection hk with h1 h2
  exact ht h2.symm
theorem RdR.offT {w w' : World} {N g : Nat} {rest : List UInt8} {err : Int} {cs : Array Value} {t : TypeId} {fr : Nat × Nat} (h : RdR w g rest err) (ho : Only N w w') (hne : g ≠ N) (hN : w.heap[N]? = some (.cells cs t fr)) (ht : t ≠ 5) : RdR w' g rest err := by
  have hlt := h.lt
  refine h.keep ho.size (ho.block g hlt (by intro e; injection e with e; exact hne e)) fun k cs2 fr2 hk => ho.block k (Array.getElem?_eq_some_iff.1 hk).1 (by intro e; injection e with e; exact other_block hk hN (fun e => ht e.symm) e)

/-- the count of parts, as a block -/
def SzB (w : World) (s : Nat) (n : Int) : Prop := w.heap[s]? = some (.cells #[.int .i64 n] 170 (0, 0))
theorem SzB.lt {w : World} {s : Nat} {n : Int} (h : SzB w s n) : s < w.heap.size := (Array.getElem?_eq_some_iff.1 h).1
theorem SzB.at {w w' : World} {s : Nat} {n : Int} (h : SzB w s n) (hb : w'.heap[s]? = w.heap[s]?) : SzB w' s n := hb.trans h
theorem SzB.set {w : World} {s : Nat} {n : Int} (h : SzB w s n) (m : Int) : SzB (w.setCell ⟨s, 0, none⟩ (.int .i64 m)) s m := by
  unfold SzB at h ⊢
  simp [World.setCell, Array.getElem?_modify, h]
theorem SzB.only {w w' : World} {s g : Nat} {n : Int} (h : SzB w s n) (ho : Only g w w') (hne : s ≠ g) : SzB w' s n := h.at (ho.block s h.lt (by intro e; injection e with e; exact hne e))
theorem SzB.below {w w' : World} {s : Nat} {n : Int} (h : SzB w s n) (hb : Below w.heap.size w w') : SzB w' s n := h.at (hb.block s h.lt)
def z8 : Array Value := #[.int .i64 0, .slice none 0 0, .string ⟨#[]⟩, .int .i64 0, .int .i64 0, .bool false, .string ⟨#[]⟩, .float .f64 0]
/-- all eight cells of a block -/
abbrev set8 (W : World) (b : Nat) (u0 u1 u2 u3 u4 u5 u6 u7 : Value) : World :=
  (((((((W.setCell ⟨b, 0, none⟩ u0).setCell ⟨b, 1, none⟩ u1).setCell ⟨b, 2, none⟩ u2).setCell ⟨b, 3, none⟩ u3).setCell ⟨b, 4, none⟩ u4).setCell ⟨b, 5, none⟩ u5).setCell ⟨b, 6, none⟩ u6).setCell ⟨b, 7, none⟩ u7
theorem set8_only (W : World) (b : Nat) (u0 u1 u2 u3 u4 u5 u6 u7 : Value) : Only b W (set8 W b u0 u1 u2 u3 u4 u5 u6 u7) :=
  ((((((((Only.refl b W).set 0 u0).set 1 u1).set 2 u2).set 3 u3).set 4 u4).set 5 u5).set 6 u6).set 7 u7
theorem Twb.new {g s k : Nat} {a w w' : World} (h : Twb g s a w) (ho : Only k w w') (hk : a.heap.size ≤ k) : Twb g s a w' :=
  ⟨ho.os.trans h.os, ho.tape.trans h.tape, ho.output.trans h.output, Nat.le_trans h.size ho.size, fun m hm h1 h2 => (ho.block m (Nat.lt_of_lt_of_le hm h.size) (by intro e; injection e with e; omega)).trans (h.block m hm h1 h2)⟩
/-- an expression that was not read -/
abbrev agZ : Value := .agg #[.int .i64 0, .slice none 0 0, .string ⟨#[]⟩, .int .i64 0, .int .i64 0, .bool false, .string ⟨#[]⟩, .float .f64 0]
def RpE (g s : Nat) (er : Int) (w : World) (e : Ending) (w' : World) : Prop := e = .returned (.tuple #[agZ, .int .i64 er]) ∧ (∃ r' e', RdR w' g r' e') ∧ Twb g s w w'
def RpO (g s d : Nat) (x : Ex × Int × List UInt8) (w : World) (e : Ending) (w' : World) : Prop :=
  ∃ A c, e = .returned (.tuple #[agX x.1.op A x.1.kids.length c x.1.name x.1.val, .int .i64 0]) ∧ ExS (fun b => w.heap.size ≤ b) w' d A c x.1 ∧ RdR w' g x.2.2 0 ∧ SzB w' s (24 - x.2.1) ∧ Twb g s w w'
theorem RpE.mk {g s b6 : Nat} {er e' : Int} {r' : List UInt8} {w W : World} {cs : Array Value} (hr : RdR W g r' e') (ht : Twb g s w W) (hz : W.heap[b6]? = some (.cells cs 58 (0, 0))) (hb : w.heap.size ≤ b6) (hg : g ≠ b6) (u0 u1 u2 u3 u4 u5 u6 u7 : Value) :
    RpE g s er w (.returned (.tuple #[agZ, .int .i64 er])) (set8 W b6 u0 u1 u2 u3 u4 u5 u6 u7) :=
  ⟨rfl, ⟨_, _, hr.offT (set8_only _ _ _ _ _ _ _ _ _ _) hg hz (by decide)⟩, ht.new (set8_only _ _ _ _ _ _ _ _ _ _) hb⟩
theorem RpO.mk {g s d b6 c : Nat} {n : Int} {r : List UInt8} {x : Ex} {A : Option Addr} {w W : World} {cs : Array Value} (hx : ExS (fun b => b6 < b) W d A c x) (hr : RdR W g r 0) (hs : SzB W s (24 - n)) (ht : Twb g s w W) (hz : W.heap[b6]? = some (.cells cs 58 (0, 0))) (hb : w.heap.size ≤ b6) (hg : g ≠ b6) (hsb : s ≠ b6) (u0 u1 u2 u3 u4 u5 u6 u7 : Value) :
    RpO g s d (x, n, r) w (.returned (.tuple #[agX x.op A x.kids.length c x.name x.val, .int .i64 0])) (set8 W b6 u0 u1 u2 u3 u4 u5 u6 u7) := by
  have ho := set8_only W b6 u0 u1 u2 u3 u4 u5 u6 u7
  exact ⟨A, c, rfl, hx.move (fun b hb2 hl => ⟨ho.block b hl (by intro e; injection e with e; omega), by omega⟩) ho.size, hr.offT ho hg hz (by decide), hs.only ho hsb, ht.new ho hb⟩

/-- between the steps: the result's block is empty, the part at hand lies at b8 -/
structure Fr (w : World) (g s b6 b8 : Nat) (W : World) (cs : Array Value) : Prop where
  z : W.heap[b6]? = some (.cells z8 58 (0, 0))
  x : W.heap[b8]? = some (.cells cs 58 (0, 0))
  t : Twb g s w W
theorem Fr.two {w : World} {g s b6 b8 : Nat} {W W' : World} {cs : Array Value} (h : Fr w g s b6 b8 W cs) (k : Twb g s W W') (h1 : b6 ≠ g) (h2 : b6 ≠ s) (h3 : b8 ≠ g) (h4 : b8 ≠ s) : Fr w g s b6 b8 W' cs :=
  ⟨(k.block b6 (Array.getElem?_eq_some_iff.1 h.z).1 h1 h2).trans h.z, (k.block b8 (Array.getElem?_eq_some_iff.1 h.x).1 h3 h4).trans h.x, h.t.trans k⟩
theorem Fr.set {w : World} {g s b6 b8 : Nat} {W : World} {cs : Array Value} (h : Fr w g s b6 b8 W cs) (h68 : b6 ≠ b8) (hb : w.heap.size ≤ b8) (j : Nat) (u : Value) : Fr w g s b6 b8 (W.setCell ⟨b8, j, none⟩ u) (cs.setIfInBounds j u) := by
  refine ⟨(Below.heap_setCell W _ u b6 h68).trans h.z, ?_, h.t.setNew hb j u⟩
  have hx := h.x
  simp [World.setCell, Array.getElem?_modify, hx]

/-- append of rows of structs, as a step of the walk -/
theorem wpList_append_rows {P : Program} {w : World} {ops : Array Oper} {rest : List Oper} {o : Oper} {a : Act} {Q : Exit → Act → World → Prop} (hgd : o.guard = none) (s x : Operand) (t : TypeId)
    (ho : o.op = .call { callee := .builtin .append, args := #[s, x], argTypes := #[t, t] })
    (base : Nat) (e : TypeId) (i : TypeInfo) (z : Value) (size bytes : Nat) (ht : P.underlying t = some (.slice e)) (hi : P.info? e = some i) (hz : i.zero = some z)
    (hsize : i.size = size) (hby : i.bytes = bytes) (hzs : z.cells.size = size) (hpos : 0 < size)
    (v : Value) (n : Nat) (xs : List Value) (hs : a.eval s = v) (hown : w.ownsRow base e size v n xs)
    (y : Value) (m : Nat) (news : List Value) (hx : a.eval x = y) (hr : RowS w size y m news) (h1 : ∀ u ∈ news, u.oneCell' = true)
    (h63 : n + m ≤ maxLen) (hbytes : (n + m) * bytes ≤ 140737488355328) (hbase : base ≤ w.heap.size)
    (h : ∀ v' w', w'.ownsRow base e size v' (n + m) (xs ++ news) → w.grownBy w' v.ownBlock → (v'.ownBlock = v.ownBlock ∨ v'.ownBlock = some w.heap.size) → wpList P ops Q rest (a.put o.dst v') w') : wpList P ops Q (o :: rest) a w :=
  wpList_plain hgd fun K hK => by
    obtain ⟨v', w', hrun, h2, h3, h4⟩ := run_append_rows (P := P) base t o.type e i z size bytes ht hi hz hsize hby hzs hpos v n xs hown y m news hr h1 h63 hbytes hbase
    unfold Oper.wp execOp
    simp only [ho, resolve, invoke, builtin, Sem.run_bind, Sem.run_pure, Result.andThen_ok, List.map_toArray, List.map_cons, List.map_nil, hs, hx, hrun]
    exact hK _ _ (h v' w' h2 h3 h4)

end Go.Proofs.YthgdnpcfdgimlabGreat

/- Layer 5: reading an expression, by the program. -/
namespace Go.Proofs.YthgdnpcfdgimlabGreat
open Go.RowKit
set_option linter.unusedVariables false
set_option linter.unusedSimpArgs false
set_option maxRecDepth 20000

theorem infoZ {P : Program} {e : TypeId} {z : Value} {s b : Nat} (h : (P.info? e).map (fun i => (i.zero, i.size, i.bytes)) = some (some z, s, b)) : ∃ i, P.info? e = some i ∧ i.zero = some z ∧ i.size = s ∧ i.bytes = b := by
  obtain ⟨i, hi, hzz⟩ := Option.map_eq_some_iff.1 h
  simp only [Prod.mk.injEq] at hzz
  exact ⟨i, hi, hzz.1, hzz.2.1, hzz.2.2⟩
end Go.Proofs.YthgdnpcfdgimlabGreat

/- Layer 5: Get, by the program. -/
namespace Go.Proofs.YthgdnpcfdgimlabGreat
open Go.RowKit
set_option linter.unusedVariables false
set_option linter.unusedSimpArgs false
set_option maxRecDepth 20000

/-- what Get leaves: an error, or the expression in new memory -/
def GxE (g : Nat) (er : Int) (w : World) (e : Ending) (w' : World) : Prop := e = .returned (.tuple #[agZ, .int .i64 er]) ∧ (∃ r' e', RdR w' g r' e') ∧ Only g w w'
def GxO (g : Nat) (x : Ex × Int × List UInt8) (w : World) (e : Ending) (w' : World) : Prop :=
  ∃ A c, e = .returned (.tuple #[agX x.1.op A x.1.kids.length c x.1.name x.1.val, .int .i64 0]) ∧ ExS (fun b => w.heap.size ≤ b) w' 6 A c x.1 ∧ RdR w' g x.2.2 0 ∧ Only g w w'
theorem Only.new {g k : Nat} {a w w' : World} (h : Only g a w) (ho : Only k w w') (hk : a.heap.size ≤ k) : Only g a w' :=
  ⟨ho.os.trans h.os, ho.tape.trans h.tape, ho.output.trans h.output, Nat.le_trans h.size ho.size, fun m hm h1 => (ho.block m (Nat.lt_of_lt_of_le hm h.size) (by intro e; injection e with e; omega)).trans (h.block m hm h1)⟩
theorem GxE.mk {g b6 : Nat} {er e' : Int} {r' : List UInt8} {w W : World} {cs : Array Value} (hr : RdR W g r' e') (ho : Only g w W) (hz : W.heap[b6]? = some (.cells cs 58 (0, 0))) (hb : w.heap.size ≤ b6) (hg : g ≠ b6) (u0 u1 u2 u3 u4 u5 u6 u7 : Value) :
    GxE g er w (.returned (.tuple #[agZ, .int .i64 er])) (set8 W b6 u0 u1 u2 u3 u4 u5 u6 u7) :=
  ⟨rfl, ⟨_, _, hr.offT (set8_only _ _ _ _ _ _ _ _ _ _) hg hz (by decide)⟩, ho.new (set8_only _ _ _ _ _ _ _ _ _ _) hb⟩
theorem GxO.mk {g b6 c : Nat} {n : Int} {r : List UInt8} {x : Ex} {A : Option Addr} {w W : World} {cs : Array Value} (hx : ExS (fun b => b6 < b) W 6 A c x) (hr : RdR W g r 0) (ho : Only g w W) (hz : W.heap[b6]? = some (.cells cs 58 (0, 0))) (hb : w.heap.size ≤ b6) (hg : g ≠ b6) (u0 u1 u2 u3 u4 u5 u6 u7 : Value) :
    GxO g (x, n, r) w (.returned (.tuple #[agX x.op A x.kids.length c x.name x.val, .int .i64 0])) (set8 W b6 u0 u1 u2 u3 u4 u5 u6 u7) := by
  have h8 := set8_only W b6 u0 u1 u2 u3 u4 u5 u6 u7
  exact ⟨A, c, rfl, hx.move (fun b hb2 hl => ⟨h8.block b hl (by intro e; injection e with e; omega), by omega⟩) h8.size, hr.offT h8 hg hz (by decide), ho.new h8 hb⟩
end Go.Proofs.YthgdnpcfdgimlabGreat

/- Layer 5: ExprBack. -/
namespace Go.Proofs.YthgdnpcfdgimlabGreat
open Go.RowKit
set_option linter.unusedVariables false
set_option linter.unusedSimpArgs false
set_option maxRecDepth 20000

theorem own_baseX {w : World} {base base' : Nat} {e : TypeId} {size : Nat} {v : Value} {n : Nat} {xs : List Value} (h : w.ownsRow base e size v n xs) (hb : base' ≤ base) : w.ownsRow base' e size v n xs :=
  ⟨h.1, h.2.imp id fun ⟨g, cap, cur, h1, h2, h3⟩ => ⟨g, cap, cur, h1, Nat.le_trans hb h2, h3⟩⟩
theorem size_list (s : ByteArray) : s.data.toList.length = s.size := by cases s; simp [ByteArray.size]
theorem shX_form : ∀ d e, formX d e → shX d e
  | 0, _, _ => trivial
  | d + 1, e, h => by
    obtain ⟨h1, h2, h3, h4, h5, h6⟩ := h
    refine ⟨by omega, ?_, fun k hk => shX_form d k (h6 k hk)⟩
    rcases h3 with h3 | h3
    · unfold goodV at h3
      simp only [Bool.and_eq_true, decide_eq_true_eq] at h3
      have h7 := h3.1.1.1.1.2
      rw [size_list]
      omega
    · rw [h3]
      show (⟨#[]⟩ : ByteArray).data.toList.length ≤ 1000
      simp
theorem check_small {e : Ex} {fs : List Fd} {k : Int} (h : checkX e fs = (k, 0)) : smallX e = true ∧ chkX 6 e fs = (k, 0) := by
  unfold checkX at h
  cases hs : smallX e with
  | true => rw [hs, if_pos rfl] at h; exact ⟨rfl, h⟩
  | false =>
    rw [hs, if_neg (by decide)] at h
    injection h with h1 h2
    cases h2
theorem form_back {e : Ex} {fs : List Fd} {k : Int} (hf : ∀ f ∈ fs, f.name.data.toList.length ≤ 16) (hok : okX 6 e) (h : checkX e fs = (k, 0)) : smallX e = true ∧ formX 6 e := by
  obtain ⟨h1, h2⟩ := check_small h
  exact ⟨h1, formX_of fs hf 6 e k hok ((smallX_iff e).1 h1).1 h2⟩
theorem txt_small {e : Ex} (h : smallX e = true) (hs : shX 6 e) : txtX 6 e := by
  obtain ⟨h1, h2⟩ := (smallX_iff e).1 h
  exact txtX_of 6 e h1 (by omega) hs
end Go.Proofs.YthgdnpcfdgimlabGreat
