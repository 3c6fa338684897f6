/- ud: BDig BPrv BCode BPutB BAw Steps2 (made by shake.py). -/
import Derived.Test.Ytoedjlknhhddfaauc
namespace Go.Proofs.Ytoedjlknhhddfaa
open Go.RowKit
set_option linter.unusedVariables false
set_option linter.unusedSimpArgs false
set_option maxRecDepth 20000

theorem four_le (a b c d : List UInt8) (ha : a.length = 8) (hb : b.length ≤ 100000) (hc : c.length = 8) (hd : d.length ≤ 100000) : (encT 5 [a, b, c, d]).length ≤ 10000000000000 := by
  rw [encT_length]
  simp [partsB, partB_length]
  omega
set_option maxHeartbeats 20000000 in
theorem rbDigest_any (hh : Int) (hp : List UInt8) (hn : Int) (hr : List UInt8) (w : World) (h1 : hp.length ≤ 100000) (h2 : hr.length ≤ 100000) : Calls Try.prog 17 #[agH hh hp hn hr] w (Tells (digB hh hp hn hr) w) := by
  have x1 := heap_alloc_new w (.cells #[.int .i64 hh, .string (strB hp), .int .i64 hn, .string (strB hr)] 37)
  have x3 := alloc1B w (.cells #[.int .i64 hh, .string (strB hp), .int .i64 hn, .string (strB hr)] 37)
  have HOF := Lib.hid (fun v W (hv : Bss W v [i8B hh, hp, i8B hn, hr]) => rOf_any 5 v [i8B hh, hp, i8B hn, hr] W hv (by simp) (by simp [i8B_length]; omega) (four_le _ _ _ _ (i8B_length _) h1 (i8B_length _) h2))
  have HP := Lib.hid (fun (n : Int) W => show Calls Try.prog 31 #[.slice none 0 0, .int .i64 n] W (Puts W (i8B n)) from rInt_any _ [] n W (Bs.nil W) (by simp))
  have HC1 := Lib.hid (show hp.length ≤ maxLen by unfold maxLen; omega)
  have HC2 := Lib.hid (show hr.length ≤ maxLen by unfold maxLen; omega)
  unfold digB
  generalize encT 5 [i8B hh, hp, i8B hn, hr] = en at *
  go_enter Try.func17, Try.ntmps17
  go_wp2
  generalize hw0 : (w.alloc (.cells #[.int .i64 hh, .string (strB hp), .int .i64 hn, .string (strB hr)] 37)) = w0 at *
  clear hw0
  have HB0 := Lib.hid x3
  have HK := Lib.hid (show ∀ W, Below w0.heap.size w0 W → (fun W => W.cell? ⟨w.heap.size, 0, none⟩ = some (.int .i64 hh) ∧ W.cell? ⟨w.heap.size, 1, none⟩ = some (.string (strB hp)) ∧ W.cell? ⟨w.heap.size, 2, none⟩ = some (.int .i64 hn) ∧ W.cell? ⟨w.heap.size, 3, none⟩ = some (.string (strB hr))) W from fun W h => ⟨cellB (rowCell x1 0 _ rfl) h, cellB (rowCell x1 1 _ rfl) h, cellB (rowCell x1 2 _ rfl) h, cellB (rowCell x1 3 _ rfl) h⟩)
  have HBC := Lib.hid (show Below w0.heap.size w0 w0.drew from (Below.refl _ _).drew)
  clear x1 x3 h1 h2
  refine wp_region_held_drew (S := (fun W => W.cell? ⟨w.heap.size, 0, none⟩ = some (.int .i64 hh) ∧ W.cell? ⟨w.heap.size, 1, none⟩ = some (.string (strB hp)) ∧ W.cell? ⟨w.heap.size, 2, none⟩ = some (.int .i64 hn) ∧ W.cell? ⟨w.heap.size, 3, none⟩ = some (.string (strB hr)))) (by kernel_rfl) (HK.out _ HBC.out) (fun hHeld => ?_)
  refine tk 0 ?_
  (try simp only [Act.put, sA, sB, sC])
  refine tk 1 ?_
  (try simp only [Act.put, sA, sB, sC])
  refine tk 3 ?_
  (try simp only [Act.put, sA, sB, sC])
  refine tk 4 ?_
  (try simp only [Act.put, sA, sB, sC])
  refine tk 6 ?_
  (try simp only [Act.put, sA, sB, sC])
  refine tk 7 ?_
  (try simp only [Act.put, sA, sB, sC])
  refine tk 9 ?_
  (try simp only [Act.put, sA, sB, sC])
  refine tk 10 ?_
  (try simp only [Act.put, sA, sB, sC])
  refine wpAnyH_norm (fuel' := 7) (listed' := #[true, true, false, true, true, false, true, true, false, true, true, false, false, false, false]) (by kernel_rfl) (by kernel_rfl) ?_
  refine wpAnyH_name (fun G hG => ?_)
  clear hHeld
  have st_2_5_8_11_12_13 : ∀ (A1 : Option Addr) (c1 : Nat) (C1A : Option Addr) (C1c : Nat) (A2 : Option Addr) (c2 : Nat) (C2A : Option Addr) (C2c : Nat) (g9 : Nat) (W : World) (HBC : Hid (Below w0.heap.size w0 W)) (F1 : Hid (Bs W (.slice A1 (i8B hh).length c1) (i8B hh))) (C1 : Hid (Bs W (.slice C1A hp.length C1c) hp)) (F2 : Hid (Bs W (.slice A2 (i8B hn).length c2) (i8B hn))) (C2 : Hid (Bs W (.slice C2A hr.length C2c) hr)) (GB : Hid (W.heap[g9]? = some (.cells #[.slice A1 (i8B hh).length c1, .slice C1A hp.length C1c, .slice A2 (i8B hn).length c2, .slice C2A hr.length C2c] 29 (0, 0)))), G 1 #[true, true, true, true, true, true, true, true, true, true, true, true, true, true, false] ⟨#[agH hh hp hn hr, .pointer (some ⟨w.heap.size, 0, none⟩), .string ⟨#[]⟩, .pointer (some ⟨w.heap.size, 0, none⟩), .int .i64 hh, .slice A1 (i8B hh).length c1, .pointer (some ⟨w.heap.size, 1, none⟩), .string (strB hp), .slice C1A hp.length C1c, .pointer (some ⟨w.heap.size, 2, none⟩), .int .i64 hn, .slice A2 (i8B hn).length c2, .pointer (some ⟨w.heap.size, 3, none⟩), .string (strB hr), .slice C2A hr.length C2c, .slice (some ⟨g9, 0, none⟩) 4 4, .string (strB en)], []⟩ W := by
    intro A1 c1 C1A C1c A2 c2 C2A C2c g9 W HBC F1 C1 F2 C2 GB
    rw [hG]
    have hHeld : ((fun W => W.cell? ⟨w.heap.size, 0, none⟩ = some (.int .i64 hh) ∧ W.cell? ⟨w.heap.size, 1, none⟩ = some (.string (strB hp)) ∧ W.cell? ⟨w.heap.size, 2, none⟩ = some (.int .i64 hn) ∧ W.cell? ⟨w.heap.size, 3, none⟩ = some (.string (strB hr)))) W := HK.out _ HBC.out
    refine wpAnyH_ready (rs := [14]) (by kernel_rfl) (by simp) ?_
    refine AllReadyH.cons (o := ?o9) ?g9 (fun K hK => ?j9) AllReadyH.nil
    case g9 => (simp only [gA, gB, gC]; rfl)
    case j9 =>
      go_simp
      refine hK.out _ _ (by (try dsimp only); exact hHeld) (fun _ => ?_)
      (try simp only [Act.put, sA, sB, sC])
      refine wpAnyH_done (by kernel_rfl) ?_ _
      go_wp2
      go_ret
      exact ⟨rfl, bel2M HB0.out HBC.out⟩
  have st_2_5_8_11_12 : ∀ (A1 : Option Addr) (c1 : Nat) (C1A : Option Addr) (C1c : Nat) (A2 : Option Addr) (c2 : Nat) (C2A : Option Addr) (C2c : Nat) (g9 : Nat) (W : World) (HBC : Hid (Below w0.heap.size w0 W)) (F1 : Hid (Bs W (.slice A1 (i8B hh).length c1) (i8B hh))) (C1 : Hid (Bs W (.slice C1A hp.length C1c) hp)) (F2 : Hid (Bs W (.slice A2 (i8B hn).length c2) (i8B hn))) (C2 : Hid (Bs W (.slice C2A hr.length C2c) hr)) (GB : Hid (W.heap[g9]? = some (.cells #[.slice A1 (i8B hh).length c1, .slice C1A hp.length C1c, .slice A2 (i8B hn).length c2, .slice C2A hr.length C2c] 29 (0, 0)))), G 2 #[true, true, true, true, true, true, true, true, true, true, true, true, true, false, false] ⟨#[agH hh hp hn hr, .pointer (some ⟨w.heap.size, 0, none⟩), .string ⟨#[]⟩, .pointer (some ⟨w.heap.size, 0, none⟩), .int .i64 hh, .slice A1 (i8B hh).length c1, .pointer (some ⟨w.heap.size, 1, none⟩), .string (strB hp), .slice C1A hp.length C1c, .pointer (some ⟨w.heap.size, 2, none⟩), .int .i64 hn, .slice A2 (i8B hn).length c2, .pointer (some ⟨w.heap.size, 3, none⟩), .string (strB hr), .slice C2A hr.length C2c, .slice (some ⟨g9, 0, none⟩) 4 4, undef], []⟩ W := by
    intro A1 c1 C1A C1c A2 c2 C2A C2c g9 W HBC F1 C1 F2 C2 GB
    rw [hG]
    have hHeld : ((fun W => W.cell? ⟨w.heap.size, 0, none⟩ = some (.int .i64 hh) ∧ W.cell? ⟨w.heap.size, 1, none⟩ = some (.string (strB hp)) ∧ W.cell? ⟨w.heap.size, 2, none⟩ = some (.int .i64 hn) ∧ W.cell? ⟨w.heap.size, 3, none⟩ = some (.string (strB hr)))) W := HK.out _ HBC.out
    refine wpAnyH_ready (rs := [13]) (by kernel_rfl) (by simp) ?_
    refine AllReadyH.cons (o := ?o10) ?g10 (fun K hK => ?j10) AllReadyH.nil
    case g10 => (simp only [gA, gB, gC]; rfl)
    case j10 =>
      go_simp
      (go_at_call 37; refine (HOF.out _ _ (bss_heap (vs := [.slice A1 (i8B hh).length c1, .slice C1A hp.length C1c, .slice A2 (i8B hn).length c2, .slice C2A hr.length C2c]) GB.out [i8B hh, hp, i8B hn, hr] 4 rfl (by decide) ⟨F1.out, C1.out, F2.out, C2.out, trivial⟩)).mono ?_)
      rintro e wz ⟨rfl, hbm⟩
      refine hK.out _ _ (by (try dsimp only); exact HK.out _ (bel2M HBC.out hbm)) (fun _ => ?_)
      (try simp only [Act.put, sA, sB, sC])
      refine wpAnyH_norm (fuel' := 1) (listed' := #[true, true, true, true, true, true, true, true, true, true, true, true, true, true, false]) (by kernel_rfl) (by kernel_rfl) ?_
      have hst := st_2_5_8_11_12_13 A1 c1 C1A C1c A2 c2 C2A C2c g9 _ (Lib.hid (bel2M HBC.out hbm)) (Lib.hid (F1.out.below hbm (Nat.le_refl _))) (Lib.hid (C1.out.below hbm (Nat.le_refl _))) (Lib.hid (F2.out.below hbm (Nat.le_refl _))) (Lib.hid (C2.out.below hbm (Nat.le_refl _))) (Lib.hid (heapB GB.out hbm))
      rw [hG] at hst
      exact hst
  have st_2_5_8_11 : ∀ (A1 : Option Addr) (c1 : Nat) (C1A : Option Addr) (C1c : Nat) (A2 : Option Addr) (c2 : Nat) (C2A : Option Addr) (C2c : Nat) (W : World) (HBC : Hid (Below w0.heap.size w0 W)) (F1 : Hid (Bs W (.slice A1 (i8B hh).length c1) (i8B hh))) (C1 : Hid (Bs W (.slice C1A hp.length C1c) hp)) (F2 : Hid (Bs W (.slice A2 (i8B hn).length c2) (i8B hn))) (C2 : Hid (Bs W (.slice C2A hr.length C2c) hr)), G 3 #[true, true, true, true, true, true, true, true, true, true, true, true, false, false, false] ⟨#[agH hh hp hn hr, .pointer (some ⟨w.heap.size, 0, none⟩), .string ⟨#[]⟩, .pointer (some ⟨w.heap.size, 0, none⟩), .int .i64 hh, .slice A1 (i8B hh).length c1, .pointer (some ⟨w.heap.size, 1, none⟩), .string (strB hp), .slice C1A hp.length C1c, .pointer (some ⟨w.heap.size, 2, none⟩), .int .i64 hn, .slice A2 (i8B hn).length c2, .pointer (some ⟨w.heap.size, 3, none⟩), .string (strB hr), .slice C2A hr.length C2c, undef, undef], []⟩ W := by
    intro A1 c1 C1A C1c A2 c2 C2A C2c W HBC F1 C1 F2 C2
    rw [hG]
    have hHeld : ((fun W => W.cell? ⟨w.heap.size, 0, none⟩ = some (.int .i64 hh) ∧ W.cell? ⟨w.heap.size, 1, none⟩ = some (.string (strB hp)) ∧ W.cell? ⟨w.heap.size, 2, none⟩ = some (.int .i64 hn) ∧ W.cell? ⟨w.heap.size, 3, none⟩ = some (.string (strB hr)))) W := HK.out _ HBC.out
    refine wpAnyH_ready (rs := [12]) (by kernel_rfl) (by simp) ?_
    refine AllReadyH.cons (o := ?o11) ?g11 (fun K hK => ?j11) AllReadyH.nil
    case g11 => (simp only [gA, gB, gC]; rfl)
    case j11 =>
      refine step_built rfl 60 4 _ rfl #[.slice A1 (i8B hh).length c1, .slice C1A hp.length C1c, .slice A2 (i8B hn).length c2, .slice C2A hr.length C2c] 29 (fun W => by go_simp) ?_
      intro g9 w' hg hbm hge
      have GB := Lib.hid hg
      refine hK.out _ _ (by (try dsimp only); exact HK.out _ (bel2M HBC.out hbm)) (fun _ => ?_)
      (try simp only [Act.put, sA, sB, sC])
      refine wpAnyH_norm (fuel' := 2) (listed' := #[true, true, true, true, true, true, true, true, true, true, true, true, true, false, false]) (by kernel_rfl) (by kernel_rfl) ?_
      have hst := st_2_5_8_11_12 A1 c1 C1A C1c A2 c2 C2A C2c g9 _ (Lib.hid (bel2M HBC.out hbm)) (Lib.hid (F1.out.below hbm (Nat.le_refl _))) (Lib.hid (C1.out.below hbm (Nat.le_refl _))) (Lib.hid (F2.out.below hbm (Nat.le_refl _))) (Lib.hid (C2.out.below hbm (Nat.le_refl _))) GB
      rw [hG] at hst
      exact hst
  have st_2_5_11 : ∀ (A1 : Option Addr) (c1 : Nat) (C1A : Option Addr) (C1c : Nat) (C2A : Option Addr) (C2c : Nat) (W : World) (HBC : Hid (Below w0.heap.size w0 W)) (F1 : Hid (Bs W (.slice A1 (i8B hh).length c1) (i8B hh))) (C1 : Hid (Bs W (.slice C1A hp.length C1c) hp)) (C2 : Hid (Bs W (.slice C2A hr.length C2c) hr)), G 4 #[true, true, true, true, true, true, true, true, false, true, true, true, false, false, false] ⟨#[agH hh hp hn hr, .pointer (some ⟨w.heap.size, 0, none⟩), .string ⟨#[]⟩, .pointer (some ⟨w.heap.size, 0, none⟩), .int .i64 hh, .slice A1 (i8B hh).length c1, .pointer (some ⟨w.heap.size, 1, none⟩), .string (strB hp), .slice C1A hp.length C1c, .pointer (some ⟨w.heap.size, 2, none⟩), .int .i64 hn, undef, .pointer (some ⟨w.heap.size, 3, none⟩), .string (strB hr), .slice C2A hr.length C2c, undef, undef], []⟩ W := by
    intro A1 c1 C1A C1c C2A C2c W HBC F1 C1 C2
    rw [hG]
    have hHeld : ((fun W => W.cell? ⟨w.heap.size, 0, none⟩ = some (.int .i64 hh) ∧ W.cell? ⟨w.heap.size, 1, none⟩ = some (.string (strB hp)) ∧ W.cell? ⟨w.heap.size, 2, none⟩ = some (.int .i64 hn) ∧ W.cell? ⟨w.heap.size, 3, none⟩ = some (.string (strB hr)))) W := HK.out _ HBC.out
    refine wpAnyH_ready (rs := [8]) (by kernel_rfl) (by simp) ?_
    refine AllReadyH.cons (o := ?o12) ?g12 (fun K hK => ?j12) AllReadyH.nil
    case g12 => (simp only [gA, gB, gC]; rfl)
    case j12 =>
      go_simp
      (go_at_call 31; refine (HP.out hn _).mono ?_)
      rintro e wa ⟨va, rfl, hoa, hbm⟩
      obtain ⟨A2, c2, rfl, -⟩ := (own_bs hoa).open
      have F2 := Lib.hid (own_bs hoa)
      refine hK.out _ _ (by (try dsimp only); exact HK.out _ (bel2M HBC.out hbm)) (fun _ => ?_)
      (try simp only [Act.put, sA, sB, sC])
      refine wpAnyH_norm (fuel' := 3) (listed' := #[true, true, true, true, true, true, true, true, true, true, true, true, false, false, false]) (by kernel_rfl) (by kernel_rfl) ?_
      have hst := st_2_5_8_11 A1 c1 C1A C1c A2 c2 C2A C2c _ (Lib.hid (bel2M HBC.out hbm)) (Lib.hid (F1.out.below hbm (Nat.le_refl _))) (Lib.hid (C1.out.below hbm (Nat.le_refl _))) F2 (Lib.hid (C2.out.below hbm (Nat.le_refl _)))
      rw [hG] at hst
      exact hst
  have st_2_8_11 : ∀ (A1 : Option Addr) (c1 : Nat) (A2 : Option Addr) (c2 : Nat) (C2A : Option Addr) (C2c : Nat) (W : World) (HBC : Hid (Below w0.heap.size w0 W)) (F1 : Hid (Bs W (.slice A1 (i8B hh).length c1) (i8B hh))) (F2 : Hid (Bs W (.slice A2 (i8B hn).length c2) (i8B hn))) (C2 : Hid (Bs W (.slice C2A hr.length C2c) hr)), G 4 #[true, true, true, true, true, false, true, true, true, true, true, true, false, false, false] ⟨#[agH hh hp hn hr, .pointer (some ⟨w.heap.size, 0, none⟩), .string ⟨#[]⟩, .pointer (some ⟨w.heap.size, 0, none⟩), .int .i64 hh, .slice A1 (i8B hh).length c1, .pointer (some ⟨w.heap.size, 1, none⟩), .string (strB hp), undef, .pointer (some ⟨w.heap.size, 2, none⟩), .int .i64 hn, .slice A2 (i8B hn).length c2, .pointer (some ⟨w.heap.size, 3, none⟩), .string (strB hr), .slice C2A hr.length C2c, undef, undef], []⟩ W := by
    intro A1 c1 A2 c2 C2A C2c W HBC F1 F2 C2
    rw [hG]
    have hHeld : ((fun W => W.cell? ⟨w.heap.size, 0, none⟩ = some (.int .i64 hh) ∧ W.cell? ⟨w.heap.size, 1, none⟩ = some (.string (strB hp)) ∧ W.cell? ⟨w.heap.size, 2, none⟩ = some (.int .i64 hn) ∧ W.cell? ⟨w.heap.size, 3, none⟩ = some (.string (strB hr)))) W := HK.out _ HBC.out
    refine wpAnyH_ready (rs := [5]) (by kernel_rfl) (by simp) ?_
    refine AllReadyH.cons (o := ?o13) ?g13 (fun K hK => ?j13) AllReadyH.nil
    case g13 => (simp only [gA, gB, gC]; rfl)
    case j13 =>
      refine step_conv rfl _ 22 29 rfl _ Try.underlying22 Try.underlying29 Try.underlying5 hp rfl (HC1.out) ?_
      intro C1A C1c w' hcs hbm
      have C1 := Lib.hid hcs
      refine hK.out _ _ (by (try dsimp only); exact HK.out _ (bel2M HBC.out hbm)) (fun _ => ?_)
      (try simp only [Act.put, sA, sB, sC])
      refine wpAnyH_norm (fuel' := 3) (listed' := #[true, true, true, true, true, true, true, true, true, true, true, true, false, false, false]) (by kernel_rfl) (by kernel_rfl) ?_
      have hst := st_2_5_8_11 A1 c1 C1A C1c A2 c2 C2A C2c _ (Lib.hid (bel2M HBC.out hbm)) (Lib.hid (F1.out.below hbm (Nat.le_refl _))) C1 (Lib.hid (F2.out.below hbm (Nat.le_refl _))) (Lib.hid (C2.out.below hbm (Nat.le_refl _)))
      rw [hG] at hst
      exact hst
  have st_2_5_8 : ∀ (A1 : Option Addr) (c1 : Nat) (C1A : Option Addr) (C1c : Nat) (A2 : Option Addr) (c2 : Nat) (W : World) (HBC : Hid (Below w0.heap.size w0 W)) (F1 : Hid (Bs W (.slice A1 (i8B hh).length c1) (i8B hh))) (C1 : Hid (Bs W (.slice C1A hp.length C1c) hp)) (F2 : Hid (Bs W (.slice A2 (i8B hn).length c2) (i8B hn))), G 4 #[true, true, true, true, true, true, true, true, true, true, true, false, false, false, false] ⟨#[agH hh hp hn hr, .pointer (some ⟨w.heap.size, 0, none⟩), .string ⟨#[]⟩, .pointer (some ⟨w.heap.size, 0, none⟩), .int .i64 hh, .slice A1 (i8B hh).length c1, .pointer (some ⟨w.heap.size, 1, none⟩), .string (strB hp), .slice C1A hp.length C1c, .pointer (some ⟨w.heap.size, 2, none⟩), .int .i64 hn, .slice A2 (i8B hn).length c2, .pointer (some ⟨w.heap.size, 3, none⟩), .string (strB hr), undef, undef, undef], []⟩ W := by
    intro A1 c1 C1A C1c A2 c2 W HBC F1 C1 F2
    rw [hG]
    have hHeld : ((fun W => W.cell? ⟨w.heap.size, 0, none⟩ = some (.int .i64 hh) ∧ W.cell? ⟨w.heap.size, 1, none⟩ = some (.string (strB hp)) ∧ W.cell? ⟨w.heap.size, 2, none⟩ = some (.int .i64 hn) ∧ W.cell? ⟨w.heap.size, 3, none⟩ = some (.string (strB hr)))) W := HK.out _ HBC.out
    refine wpAnyH_ready (rs := [11]) (by kernel_rfl) (by simp) ?_
    refine AllReadyH.cons (o := ?o14) ?g14 (fun K hK => ?j14) AllReadyH.nil
    case g14 => (simp only [gA, gB, gC]; rfl)
    case j14 =>
      refine step_conv rfl _ 22 29 rfl _ Try.underlying22 Try.underlying29 Try.underlying5 hr rfl (HC2.out) ?_
      intro C2A C2c w' hcs hbm
      have C2 := Lib.hid hcs
      refine hK.out _ _ (by (try dsimp only); exact HK.out _ (bel2M HBC.out hbm)) (fun _ => ?_)
      (try simp only [Act.put, sA, sB, sC])
      refine wpAnyH_norm (fuel' := 3) (listed' := #[true, true, true, true, true, true, true, true, true, true, true, true, false, false, false]) (by kernel_rfl) (by kernel_rfl) ?_
      have hst := st_2_5_8_11 A1 c1 C1A C1c A2 c2 C2A C2c _ (Lib.hid (bel2M HBC.out hbm)) (Lib.hid (F1.out.below hbm (Nat.le_refl _))) (Lib.hid (C1.out.below hbm (Nat.le_refl _))) (Lib.hid (F2.out.below hbm (Nat.le_refl _))) C2
      rw [hG] at hst
      exact hst
  have st_5_11 : ∀ (C1A : Option Addr) (C1c : Nat) (C2A : Option Addr) (C2c : Nat) (W : World) (HBC : Hid (Below w0.heap.size w0 W)) (C1 : Hid (Bs W (.slice C1A hp.length C1c) hp)) (C2 : Hid (Bs W (.slice C2A hr.length C2c) hr)), G 5 #[true, true, false, true, true, true, true, true, false, true, true, true, false, false, false] ⟨#[agH hh hp hn hr, .pointer (some ⟨w.heap.size, 0, none⟩), .string ⟨#[]⟩, .pointer (some ⟨w.heap.size, 0, none⟩), .int .i64 hh, undef, .pointer (some ⟨w.heap.size, 1, none⟩), .string (strB hp), .slice C1A hp.length C1c, .pointer (some ⟨w.heap.size, 2, none⟩), .int .i64 hn, undef, .pointer (some ⟨w.heap.size, 3, none⟩), .string (strB hr), .slice C2A hr.length C2c, undef, undef], []⟩ W := by
    intro C1A C1c C2A C2c W HBC C1 C2
    rw [hG]
    have hHeld : ((fun W => W.cell? ⟨w.heap.size, 0, none⟩ = some (.int .i64 hh) ∧ W.cell? ⟨w.heap.size, 1, none⟩ = some (.string (strB hp)) ∧ W.cell? ⟨w.heap.size, 2, none⟩ = some (.int .i64 hn) ∧ W.cell? ⟨w.heap.size, 3, none⟩ = some (.string (strB hr)))) W := HK.out _ HBC.out
    refine wpAnyH_ready (rs := [2]) (by kernel_rfl) (by simp) ?_
    refine AllReadyH.cons (o := ?o15) ?g15 (fun K hK => ?j15) AllReadyH.nil
    case g15 => (simp only [gA, gB, gC]; rfl)
    case j15 =>
      go_simp
      (go_at_call 31; refine (HP.out hh _).mono ?_)
      rintro e wa ⟨va, rfl, hoa, hbm⟩
      obtain ⟨A1, c1, rfl, -⟩ := (own_bs hoa).open
      have F1 := Lib.hid (own_bs hoa)
      refine hK.out _ _ (by (try dsimp only); exact HK.out _ (bel2M HBC.out hbm)) (fun _ => ?_)
      (try simp only [Act.put, sA, sB, sC])
      refine wpAnyH_norm (fuel' := 4) (listed' := #[true, true, true, true, true, true, true, true, false, true, true, true, false, false, false]) (by kernel_rfl) (by kernel_rfl) ?_
      have hst := st_2_5_11 A1 c1 C1A C1c C2A C2c _ (Lib.hid (bel2M HBC.out hbm)) F1 (Lib.hid (C1.out.below hbm (Nat.le_refl _))) (Lib.hid (C2.out.below hbm (Nat.le_refl _)))
      rw [hG] at hst
      exact hst
  have st_2_11 : ∀ (A1 : Option Addr) (c1 : Nat) (C2A : Option Addr) (C2c : Nat) (W : World) (HBC : Hid (Below w0.heap.size w0 W)) (F1 : Hid (Bs W (.slice A1 (i8B hh).length c1) (i8B hh))) (C2 : Hid (Bs W (.slice C2A hr.length C2c) hr)), G 5 #[true, true, true, true, true, false, true, true, false, true, true, true, false, false, false] ⟨#[agH hh hp hn hr, .pointer (some ⟨w.heap.size, 0, none⟩), .string ⟨#[]⟩, .pointer (some ⟨w.heap.size, 0, none⟩), .int .i64 hh, .slice A1 (i8B hh).length c1, .pointer (some ⟨w.heap.size, 1, none⟩), .string (strB hp), undef, .pointer (some ⟨w.heap.size, 2, none⟩), .int .i64 hn, undef, .pointer (some ⟨w.heap.size, 3, none⟩), .string (strB hr), .slice C2A hr.length C2c, undef, undef], []⟩ W := by
    intro A1 c1 C2A C2c W HBC F1 C2
    rw [hG]
    have hHeld : ((fun W => W.cell? ⟨w.heap.size, 0, none⟩ = some (.int .i64 hh) ∧ W.cell? ⟨w.heap.size, 1, none⟩ = some (.string (strB hp)) ∧ W.cell? ⟨w.heap.size, 2, none⟩ = some (.int .i64 hn) ∧ W.cell? ⟨w.heap.size, 3, none⟩ = some (.string (strB hr)))) W := HK.out _ HBC.out
    refine wpAnyH_ready (rs := [5, 8]) (by kernel_rfl) (by simp) ?_
    refine AllReadyH.cons (o := ?o16) ?g16 (fun K hK => ?j16) (AllReadyH.cons (o := ?o17) ?g17 (fun K hK => ?j17) AllReadyH.nil)
    case g16 => (simp only [gA, gB, gC]; rfl)
    case g17 => (simp only [gA, gB, gC]; rfl)
    case j16 =>
      refine step_conv rfl _ 22 29 rfl _ Try.underlying22 Try.underlying29 Try.underlying5 hp rfl (HC1.out) ?_
      intro C1A C1c w' hcs hbm
      have C1 := Lib.hid hcs
      refine hK.out _ _ (by (try dsimp only); exact HK.out _ (bel2M HBC.out hbm)) (fun _ => ?_)
      (try simp only [Act.put, sA, sB, sC])
      refine wpAnyH_norm (fuel' := 4) (listed' := #[true, true, true, true, true, true, true, true, false, true, true, true, false, false, false]) (by kernel_rfl) (by kernel_rfl) ?_
      have hst := st_2_5_11 A1 c1 C1A C1c C2A C2c _ (Lib.hid (bel2M HBC.out hbm)) (Lib.hid (F1.out.below hbm (Nat.le_refl _))) C1 (Lib.hid (C2.out.below hbm (Nat.le_refl _)))
      rw [hG] at hst
      exact hst
    case j17 =>
      go_simp
      (go_at_call 31; refine (HP.out hn _).mono ?_)
      rintro e wa ⟨va, rfl, hoa, hbm⟩
      obtain ⟨A2, c2, rfl, -⟩ := (own_bs hoa).open
      have F2 := Lib.hid (own_bs hoa)
      refine hK.out _ _ (by (try dsimp only); exact HK.out _ (bel2M HBC.out hbm)) (fun _ => ?_)
      (try simp only [Act.put, sA, sB, sC])
      refine wpAnyH_norm (fuel' := 4) (listed' := #[true, true, true, true, true, false, true, true, true, true, true, true, false, false, false]) (by kernel_rfl) (by kernel_rfl) ?_
      have hst := st_2_8_11 A1 c1 A2 c2 C2A C2c _ (Lib.hid (bel2M HBC.out hbm)) (Lib.hid (F1.out.below hbm (Nat.le_refl _))) F2 (Lib.hid (C2.out.below hbm (Nat.le_refl _)))
      rw [hG] at hst
      exact hst
  have st_2_5 : ∀ (A1 : Option Addr) (c1 : Nat) (C1A : Option Addr) (C1c : Nat) (W : World) (HBC : Hid (Below w0.heap.size w0 W)) (F1 : Hid (Bs W (.slice A1 (i8B hh).length c1) (i8B hh))) (C1 : Hid (Bs W (.slice C1A hp.length C1c) hp)), G 5 #[true, true, true, true, true, true, true, true, false, true, true, false, false, false, false] ⟨#[agH hh hp hn hr, .pointer (some ⟨w.heap.size, 0, none⟩), .string ⟨#[]⟩, .pointer (some ⟨w.heap.size, 0, none⟩), .int .i64 hh, .slice A1 (i8B hh).length c1, .pointer (some ⟨w.heap.size, 1, none⟩), .string (strB hp), .slice C1A hp.length C1c, .pointer (some ⟨w.heap.size, 2, none⟩), .int .i64 hn, undef, .pointer (some ⟨w.heap.size, 3, none⟩), .string (strB hr), undef, undef, undef], []⟩ W := by
    intro A1 c1 C1A C1c W HBC F1 C1
    rw [hG]
    have hHeld : ((fun W => W.cell? ⟨w.heap.size, 0, none⟩ = some (.int .i64 hh) ∧ W.cell? ⟨w.heap.size, 1, none⟩ = some (.string (strB hp)) ∧ W.cell? ⟨w.heap.size, 2, none⟩ = some (.int .i64 hn) ∧ W.cell? ⟨w.heap.size, 3, none⟩ = some (.string (strB hr)))) W := HK.out _ HBC.out
    refine wpAnyH_ready (rs := [8, 11]) (by kernel_rfl) (by simp) ?_
    refine AllReadyH.cons (o := ?o18) ?g18 (fun K hK => ?j18) (AllReadyH.cons (o := ?o19) ?g19 (fun K hK => ?j19) AllReadyH.nil)
    case g18 => (simp only [gA, gB, gC]; rfl)
    case g19 => (simp only [gA, gB, gC]; rfl)
    case j18 =>
      go_simp
      (go_at_call 31; refine (HP.out hn _).mono ?_)
      rintro e wa ⟨va, rfl, hoa, hbm⟩
      obtain ⟨A2, c2, rfl, -⟩ := (own_bs hoa).open
      have F2 := Lib.hid (own_bs hoa)
      refine hK.out _ _ (by (try dsimp only); exact HK.out _ (bel2M HBC.out hbm)) (fun _ => ?_)
      (try simp only [Act.put, sA, sB, sC])
      refine wpAnyH_norm (fuel' := 4) (listed' := #[true, true, true, true, true, true, true, true, true, true, true, false, false, false, false]) (by kernel_rfl) (by kernel_rfl) ?_
      have hst := st_2_5_8 A1 c1 C1A C1c A2 c2 _ (Lib.hid (bel2M HBC.out hbm)) (Lib.hid (F1.out.below hbm (Nat.le_refl _))) (Lib.hid (C1.out.below hbm (Nat.le_refl _))) F2
      rw [hG] at hst
      exact hst
    case j19 =>
      refine step_conv rfl _ 22 29 rfl _ Try.underlying22 Try.underlying29 Try.underlying5 hr rfl (HC2.out) ?_
      intro C2A C2c w' hcs hbm
      have C2 := Lib.hid hcs
      refine hK.out _ _ (by (try dsimp only); exact HK.out _ (bel2M HBC.out hbm)) (fun _ => ?_)
      (try simp only [Act.put, sA, sB, sC])
      refine wpAnyH_norm (fuel' := 4) (listed' := #[true, true, true, true, true, true, true, true, false, true, true, true, false, false, false]) (by kernel_rfl) (by kernel_rfl) ?_
      have hst := st_2_5_11 A1 c1 C1A C1c C2A C2c _ (Lib.hid (bel2M HBC.out hbm)) (Lib.hid (F1.out.below hbm (Nat.le_refl _))) (Lib.hid (C1.out.below hbm (Nat.le_refl _))) C2
      rw [hG] at hst
      exact hst
  have st_2_8 : ∀ (A1 : Option Addr) (c1 : Nat) (A2 : Option Addr) (c2 : Nat) (W : World) (HBC : Hid (Below w0.heap.size w0 W)) (F1 : Hid (Bs W (.slice A1 (i8B hh).length c1) (i8B hh))) (F2 : Hid (Bs W (.slice A2 (i8B hn).length c2) (i8B hn))), G 5 #[true, true, true, true, true, false, true, true, true, true, true, false, false, false, false] ⟨#[agH hh hp hn hr, .pointer (some ⟨w.heap.size, 0, none⟩), .string ⟨#[]⟩, .pointer (some ⟨w.heap.size, 0, none⟩), .int .i64 hh, .slice A1 (i8B hh).length c1, .pointer (some ⟨w.heap.size, 1, none⟩), .string (strB hp), undef, .pointer (some ⟨w.heap.size, 2, none⟩), .int .i64 hn, .slice A2 (i8B hn).length c2, .pointer (some ⟨w.heap.size, 3, none⟩), .string (strB hr), undef, undef, undef], []⟩ W := by
    intro A1 c1 A2 c2 W HBC F1 F2
    rw [hG]
    have hHeld : ((fun W => W.cell? ⟨w.heap.size, 0, none⟩ = some (.int .i64 hh) ∧ W.cell? ⟨w.heap.size, 1, none⟩ = some (.string (strB hp)) ∧ W.cell? ⟨w.heap.size, 2, none⟩ = some (.int .i64 hn) ∧ W.cell? ⟨w.heap.size, 3, none⟩ = some (.string (strB hr)))) W := HK.out _ HBC.out
    refine wpAnyH_ready (rs := [5, 11]) (by kernel_rfl) (by simp) ?_
    refine AllReadyH.cons (o := ?o20) ?g20 (fun K hK => ?j20) (AllReadyH.cons (o := ?o21) ?g21 (fun K hK => ?j21) AllReadyH.nil)
    case g20 => (simp only [gA, gB, gC]; rfl)
    case g21 => (simp only [gA, gB, gC]; rfl)
    case j20 =>
      refine step_conv rfl _ 22 29 rfl _ Try.underlying22 Try.underlying29 Try.underlying5 hp rfl (HC1.out) ?_
      intro C1A C1c w' hcs hbm
      have C1 := Lib.hid hcs
      refine hK.out _ _ (by (try dsimp only); exact HK.out _ (bel2M HBC.out hbm)) (fun _ => ?_)
      (try simp only [Act.put, sA, sB, sC])
      refine wpAnyH_norm (fuel' := 4) (listed' := #[true, true, true, true, true, true, true, true, true, true, true, false, false, false, false]) (by kernel_rfl) (by kernel_rfl) ?_
      have hst := st_2_5_8 A1 c1 C1A C1c A2 c2 _ (Lib.hid (bel2M HBC.out hbm)) (Lib.hid (F1.out.below hbm (Nat.le_refl _))) C1 (Lib.hid (F2.out.below hbm (Nat.le_refl _)))
      rw [hG] at hst
      exact hst
    case j21 =>
      refine step_conv rfl _ 22 29 rfl _ Try.underlying22 Try.underlying29 Try.underlying5 hr rfl (HC2.out) ?_
      intro C2A C2c w' hcs hbm
      have C2 := Lib.hid hcs
      refine hK.out _ _ (by (try dsimp only); exact HK.out _ (bel2M HBC.out hbm)) (fun _ => ?_)
      (try simp only [Act.put, sA, sB, sC])
      refine wpAnyH_norm (fuel' := 4) (listed' := #[true, true, true, true, true, false, true, true, true, true, true, true, false, false, false]) (by kernel_rfl) (by kernel_rfl) ?_
      have hst := st_2_8_11 A1 c1 A2 c2 C2A C2c _ (Lib.hid (bel2M HBC.out hbm)) (Lib.hid (F1.out.below hbm (Nat.le_refl _))) (Lib.hid (F2.out.below hbm (Nat.le_refl _))) C2
      rw [hG] at hst
      exact hst
  have st_11 : ∀ (C2A : Option Addr) (C2c : Nat) (W : World) (HBC : Hid (Below w0.heap.size w0 W)) (C2 : Hid (Bs W (.slice C2A hr.length C2c) hr)), G 6 #[true, true, false, true, true, false, true, true, false, true, true, true, false, false, false] ⟨#[agH hh hp hn hr, .pointer (some ⟨w.heap.size, 0, none⟩), .string ⟨#[]⟩, .pointer (some ⟨w.heap.size, 0, none⟩), .int .i64 hh, undef, .pointer (some ⟨w.heap.size, 1, none⟩), .string (strB hp), undef, .pointer (some ⟨w.heap.size, 2, none⟩), .int .i64 hn, undef, .pointer (some ⟨w.heap.size, 3, none⟩), .string (strB hr), .slice C2A hr.length C2c, undef, undef], []⟩ W := by
    intro C2A C2c W HBC C2
    rw [hG]
    have hHeld : ((fun W => W.cell? ⟨w.heap.size, 0, none⟩ = some (.int .i64 hh) ∧ W.cell? ⟨w.heap.size, 1, none⟩ = some (.string (strB hp)) ∧ W.cell? ⟨w.heap.size, 2, none⟩ = some (.int .i64 hn) ∧ W.cell? ⟨w.heap.size, 3, none⟩ = some (.string (strB hr)))) W := HK.out _ HBC.out
    refine wpAnyH_ready (rs := [2, 5]) (by kernel_rfl) (by simp) ?_
    refine AllReadyH.cons (o := ?o22) ?g22 (fun K hK => ?j22) (AllReadyH.cons (o := ?o23) ?g23 (fun K hK => ?j23) AllReadyH.nil)
    case g22 => (simp only [gA, gB, gC]; rfl)
    case g23 => (simp only [gA, gB, gC]; rfl)
    case j22 =>
      go_simp
      (go_at_call 31; refine (HP.out hh _).mono ?_)
      rintro e wa ⟨va, rfl, hoa, hbm⟩
      obtain ⟨A1, c1, rfl, -⟩ := (own_bs hoa).open
      have F1 := Lib.hid (own_bs hoa)
      refine hK.out _ _ (by (try dsimp only); exact HK.out _ (bel2M HBC.out hbm)) (fun _ => ?_)
      (try simp only [Act.put, sA, sB, sC])
      refine wpAnyH_norm (fuel' := 5) (listed' := #[true, true, true, true, true, false, true, true, false, true, true, true, false, false, false]) (by kernel_rfl) (by kernel_rfl) ?_
      have hst := st_2_11 A1 c1 C2A C2c _ (Lib.hid (bel2M HBC.out hbm)) F1 (Lib.hid (C2.out.below hbm (Nat.le_refl _)))
      rw [hG] at hst
      exact hst
    case j23 =>
      refine step_conv rfl _ 22 29 rfl _ Try.underlying22 Try.underlying29 Try.underlying5 hp rfl (HC1.out) ?_
      intro C1A C1c w' hcs hbm
      have C1 := Lib.hid hcs
      refine hK.out _ _ (by (try dsimp only); exact HK.out _ (bel2M HBC.out hbm)) (fun _ => ?_)
      (try simp only [Act.put, sA, sB, sC])
      refine wpAnyH_norm (fuel' := 5) (listed' := #[true, true, false, true, true, true, true, true, false, true, true, true, false, false, false]) (by kernel_rfl) (by kernel_rfl) ?_
      have hst := st_5_11 C1A C1c C2A C2c _ (Lib.hid (bel2M HBC.out hbm)) C1 (Lib.hid (C2.out.below hbm (Nat.le_refl _)))
      rw [hG] at hst
      exact hst
  have st_5 : ∀ (C1A : Option Addr) (C1c : Nat) (W : World) (HBC : Hid (Below w0.heap.size w0 W)) (C1 : Hid (Bs W (.slice C1A hp.length C1c) hp)), G 6 #[true, true, false, true, true, true, true, true, false, true, true, false, false, false, false] ⟨#[agH hh hp hn hr, .pointer (some ⟨w.heap.size, 0, none⟩), .string ⟨#[]⟩, .pointer (some ⟨w.heap.size, 0, none⟩), .int .i64 hh, undef, .pointer (some ⟨w.heap.size, 1, none⟩), .string (strB hp), .slice C1A hp.length C1c, .pointer (some ⟨w.heap.size, 2, none⟩), .int .i64 hn, undef, .pointer (some ⟨w.heap.size, 3, none⟩), .string (strB hr), undef, undef, undef], []⟩ W := by
    intro C1A C1c W HBC C1
    rw [hG]
    have hHeld : ((fun W => W.cell? ⟨w.heap.size, 0, none⟩ = some (.int .i64 hh) ∧ W.cell? ⟨w.heap.size, 1, none⟩ = some (.string (strB hp)) ∧ W.cell? ⟨w.heap.size, 2, none⟩ = some (.int .i64 hn) ∧ W.cell? ⟨w.heap.size, 3, none⟩ = some (.string (strB hr)))) W := HK.out _ HBC.out
    refine wpAnyH_ready (rs := [2, 11]) (by kernel_rfl) (by simp) ?_
    refine AllReadyH.cons (o := ?o24) ?g24 (fun K hK => ?j24) (AllReadyH.cons (o := ?o25) ?g25 (fun K hK => ?j25) AllReadyH.nil)
    case g24 => (simp only [gA, gB, gC]; rfl)
    case g25 => (simp only [gA, gB, gC]; rfl)
    case j24 =>
      go_simp
      (go_at_call 31; refine (HP.out hh _).mono ?_)
      rintro e wa ⟨va, rfl, hoa, hbm⟩
      obtain ⟨A1, c1, rfl, -⟩ := (own_bs hoa).open
      have F1 := Lib.hid (own_bs hoa)
      refine hK.out _ _ (by (try dsimp only); exact HK.out _ (bel2M HBC.out hbm)) (fun _ => ?_)
      (try simp only [Act.put, sA, sB, sC])
      refine wpAnyH_norm (fuel' := 5) (listed' := #[true, true, true, true, true, true, true, true, false, true, true, false, false, false, false]) (by kernel_rfl) (by kernel_rfl) ?_
      have hst := st_2_5 A1 c1 C1A C1c _ (Lib.hid (bel2M HBC.out hbm)) F1 (Lib.hid (C1.out.below hbm (Nat.le_refl _)))
      rw [hG] at hst
      exact hst
    case j25 =>
      refine step_conv rfl _ 22 29 rfl _ Try.underlying22 Try.underlying29 Try.underlying5 hr rfl (HC2.out) ?_
      intro C2A C2c w' hcs hbm
      have C2 := Lib.hid hcs
      refine hK.out _ _ (by (try dsimp only); exact HK.out _ (bel2M HBC.out hbm)) (fun _ => ?_)
      (try simp only [Act.put, sA, sB, sC])
      refine wpAnyH_norm (fuel' := 5) (listed' := #[true, true, false, true, true, true, true, true, false, true, true, true, false, false, false]) (by kernel_rfl) (by kernel_rfl) ?_
      have hst := st_5_11 C1A C1c C2A C2c _ (Lib.hid (bel2M HBC.out hbm)) (Lib.hid (C1.out.below hbm (Nat.le_refl _))) C2
      rw [hG] at hst
      exact hst
  have st_2 : ∀ (A1 : Option Addr) (c1 : Nat) (W : World) (HBC : Hid (Below w0.heap.size w0 W)) (F1 : Hid (Bs W (.slice A1 (i8B hh).length c1) (i8B hh))), G 6 #[true, true, true, true, true, false, true, true, false, true, true, false, false, false, false] ⟨#[agH hh hp hn hr, .pointer (some ⟨w.heap.size, 0, none⟩), .string ⟨#[]⟩, .pointer (some ⟨w.heap.size, 0, none⟩), .int .i64 hh, .slice A1 (i8B hh).length c1, .pointer (some ⟨w.heap.size, 1, none⟩), .string (strB hp), undef, .pointer (some ⟨w.heap.size, 2, none⟩), .int .i64 hn, undef, .pointer (some ⟨w.heap.size, 3, none⟩), .string (strB hr), undef, undef, undef], []⟩ W := by
    intro A1 c1 W HBC F1
    rw [hG]
    have hHeld : ((fun W => W.cell? ⟨w.heap.size, 0, none⟩ = some (.int .i64 hh) ∧ W.cell? ⟨w.heap.size, 1, none⟩ = some (.string (strB hp)) ∧ W.cell? ⟨w.heap.size, 2, none⟩ = some (.int .i64 hn) ∧ W.cell? ⟨w.heap.size, 3, none⟩ = some (.string (strB hr)))) W := HK.out _ HBC.out
    refine wpAnyH_ready (rs := [5, 8, 11]) (by kernel_rfl) (by simp) ?_
    refine AllReadyH.cons (o := ?o26) ?g26 (fun K hK => ?j26) (AllReadyH.cons (o := ?o27) ?g27 (fun K hK => ?j27) (AllReadyH.cons (o := ?o28) ?g28 (fun K hK => ?j28) AllReadyH.nil))
    case g26 => (simp only [gA, gB, gC]; rfl)
    case g27 => (simp only [gA, gB, gC]; rfl)
    case g28 => (simp only [gA, gB, gC]; rfl)
    case j26 =>
      refine step_conv rfl _ 22 29 rfl _ Try.underlying22 Try.underlying29 Try.underlying5 hp rfl (HC1.out) ?_
      intro C1A C1c w' hcs hbm
      have C1 := Lib.hid hcs
      refine hK.out _ _ (by (try dsimp only); exact HK.out _ (bel2M HBC.out hbm)) (fun _ => ?_)
      (try simp only [Act.put, sA, sB, sC])
      refine wpAnyH_norm (fuel' := 5) (listed' := #[true, true, true, true, true, true, true, true, false, true, true, false, false, false, false]) (by kernel_rfl) (by kernel_rfl) ?_
      have hst := st_2_5 A1 c1 C1A C1c _ (Lib.hid (bel2M HBC.out hbm)) (Lib.hid (F1.out.below hbm (Nat.le_refl _))) C1
      rw [hG] at hst
      exact hst
    case j27 =>
      go_simp
      (go_at_call 31; refine (HP.out hn _).mono ?_)
      rintro e wa ⟨va, rfl, hoa, hbm⟩
      obtain ⟨A2, c2, rfl, -⟩ := (own_bs hoa).open
      have F2 := Lib.hid (own_bs hoa)
      refine hK.out _ _ (by (try dsimp only); exact HK.out _ (bel2M HBC.out hbm)) (fun _ => ?_)
      (try simp only [Act.put, sA, sB, sC])
      refine wpAnyH_norm (fuel' := 5) (listed' := #[true, true, true, true, true, false, true, true, true, true, true, false, false, false, false]) (by kernel_rfl) (by kernel_rfl) ?_
      have hst := st_2_8 A1 c1 A2 c2 _ (Lib.hid (bel2M HBC.out hbm)) (Lib.hid (F1.out.below hbm (Nat.le_refl _))) F2
      rw [hG] at hst
      exact hst
    case j28 =>
      refine step_conv rfl _ 22 29 rfl _ Try.underlying22 Try.underlying29 Try.underlying5 hr rfl (HC2.out) ?_
      intro C2A C2c w' hcs hbm
      have C2 := Lib.hid hcs
      refine hK.out _ _ (by (try dsimp only); exact HK.out _ (bel2M HBC.out hbm)) (fun _ => ?_)
      (try simp only [Act.put, sA, sB, sC])
      refine wpAnyH_norm (fuel' := 5) (listed' := #[true, true, true, true, true, false, true, true, false, true, true, true, false, false, false]) (by kernel_rfl) (by kernel_rfl) ?_
      have hst := st_2_11 A1 c1 C2A C2c _ (Lib.hid (bel2M HBC.out hbm)) (Lib.hid (F1.out.below hbm (Nat.le_refl _))) C2
      rw [hG] at hst
      exact hst
  have st : ∀  (W : World) (HBC : Hid (Below w0.heap.size w0 W)) , G 7 #[true, true, false, true, true, false, true, true, false, true, true, false, false, false, false] ⟨#[agH hh hp hn hr, .pointer (some ⟨w.heap.size, 0, none⟩), .string ⟨#[]⟩, .pointer (some ⟨w.heap.size, 0, none⟩), .int .i64 hh, undef, .pointer (some ⟨w.heap.size, 1, none⟩), .string (strB hp), undef, .pointer (some ⟨w.heap.size, 2, none⟩), .int .i64 hn, undef, .pointer (some ⟨w.heap.size, 3, none⟩), .string (strB hr), undef, undef, undef], []⟩ W := by
    intro  W HBC 
    rw [hG]
    have hHeld : ((fun W => W.cell? ⟨w.heap.size, 0, none⟩ = some (.int .i64 hh) ∧ W.cell? ⟨w.heap.size, 1, none⟩ = some (.string (strB hp)) ∧ W.cell? ⟨w.heap.size, 2, none⟩ = some (.int .i64 hn) ∧ W.cell? ⟨w.heap.size, 3, none⟩ = some (.string (strB hr)))) W := HK.out _ HBC.out
    refine wpAnyH_ready (rs := [2, 5, 11]) (by kernel_rfl) (by simp) ?_
    refine AllReadyH.cons (o := ?o29) ?g29 (fun K hK => ?j29) (AllReadyH.cons (o := ?o30) ?g30 (fun K hK => ?j30) (AllReadyH.cons (o := ?o31) ?g31 (fun K hK => ?j31) AllReadyH.nil))
    case g29 => (simp only [gA, gB, gC]; rfl)
    case g30 => (simp only [gA, gB, gC]; rfl)
    case g31 => (simp only [gA, gB, gC]; rfl)
    case j29 =>
      go_simp
      (go_at_call 31; refine (HP.out hh _).mono ?_)
      rintro e wa ⟨va, rfl, hoa, hbm⟩
      obtain ⟨A1, c1, rfl, -⟩ := (own_bs hoa).open
      have F1 := Lib.hid (own_bs hoa)
      refine hK.out _ _ (by (try dsimp only); exact HK.out _ (bel2M HBC.out hbm)) (fun _ => ?_)
      (try simp only [Act.put, sA, sB, sC])
      refine wpAnyH_norm (fuel' := 6) (listed' := #[true, true, true, true, true, false, true, true, false, true, true, false, false, false, false]) (by kernel_rfl) (by kernel_rfl) ?_
      have hst := st_2 A1 c1 _ (Lib.hid (bel2M HBC.out hbm)) F1
      rw [hG] at hst
      exact hst
    case j30 =>
      refine step_conv rfl _ 22 29 rfl _ Try.underlying22 Try.underlying29 Try.underlying5 hp rfl (HC1.out) ?_
      intro C1A C1c w' hcs hbm
      have C1 := Lib.hid hcs
      refine hK.out _ _ (by (try dsimp only); exact HK.out _ (bel2M HBC.out hbm)) (fun _ => ?_)
      (try simp only [Act.put, sA, sB, sC])
      refine wpAnyH_norm (fuel' := 6) (listed' := #[true, true, false, true, true, true, true, true, false, true, true, false, false, false, false]) (by kernel_rfl) (by kernel_rfl) ?_
      have hst := st_5 C1A C1c _ (Lib.hid (bel2M HBC.out hbm)) C1
      rw [hG] at hst
      exact hst
    case j31 =>
      refine step_conv rfl _ 22 29 rfl _ Try.underlying22 Try.underlying29 Try.underlying5 hr rfl (HC2.out) ?_
      intro C2A C2c w' hcs hbm
      have C2 := Lib.hid hcs
      refine hK.out _ _ (by (try dsimp only); exact HK.out _ (bel2M HBC.out hbm)) (fun _ => ?_)
      (try simp only [Act.put, sA, sB, sC])
      refine wpAnyH_norm (fuel' := 6) (listed' := #[true, true, false, true, true, false, true, true, false, true, true, true, false, false, false]) (by kernel_rfl) (by kernel_rfl) ?_
      have hst := st_11 C2A C2c _ (Lib.hid (bel2M HBC.out hbm)) C2
      rw [hG] at hst
      exact hst
  exact st _ (Lib.hid (HBC.out))
set_option maxHeartbeats 20000000 in
theorem bDigest_any (hh : Int) (hp : List UInt8) (hn : Int) (hr : List UInt8) (w : World) (h1 : hp.length ≤ 100000) (h2 : hr.length ≤ 100000) : Calls Try.prog 16 #[agH hh hp hn hr] w (Tells (digB hh hp hn hr) w) := by
  have x1 := heap_alloc_new w (.cells #[.int .i64 hh, .string (strB hp), .int .i64 hn, .string (strB hr)] 37)
  have x3 := alloc1B w (.cells #[.int .i64 hh, .string (strB hp), .int .i64 hn, .string (strB hr)] 37)
  have HOF := Lib.hid (fun v W (hv : Bss W v [i8B hh, hp, i8B hn, hr]) => Of_any 5 v [i8B hh, hp, i8B hn, hr] W hv (by simp) (by simp [i8B_length]; omega) (four_le _ _ _ _ (i8B_length _) h1 (i8B_length _) h2))
  have HP := Lib.hid (fun (n : Int) W k hk => putInt1_any n W 3 k hk)
  have HC1 := Lib.hid (show hp.length ≤ maxLen by unfold maxLen; omega)
  have HC2 := Lib.hid (show hr.length ≤ maxLen by unfold maxLen; omega)
  unfold digB
  generalize encT 5 [i8B hh, hp, i8B hn, hr] = en at *
  go_enter Try.func16, Try.ntmps16
  go_wp2
  generalize hw0 : (w.alloc (.cells #[.int .i64 hh, .string (strB hp), .int .i64 hn, .string (strB hr)] 37)) = w0 at *
  clear hw0
  have HB0 := Lib.hid x3
  have HK := Lib.hid (show ∀ W, Below w0.heap.size w0 W → (fun W => W.cell? ⟨w.heap.size, 0, none⟩ = some (.int .i64 hh) ∧ W.cell? ⟨w.heap.size, 1, none⟩ = some (.string (strB hp)) ∧ W.cell? ⟨w.heap.size, 2, none⟩ = some (.int .i64 hn) ∧ W.cell? ⟨w.heap.size, 3, none⟩ = some (.string (strB hr))) W from fun W h => ⟨cellB (rowCell x1 0 _ rfl) h, cellB (rowCell x1 1 _ rfl) h, cellB (rowCell x1 2 _ rfl) h, cellB (rowCell x1 3 _ rfl) h⟩)
  have HBC := Lib.hid (show Below w0.heap.size w0 w0.drew from (Below.refl _ _).drew)
  clear x1 x3 h1 h2
  refine wp_region_held_drew (S := (fun W => W.cell? ⟨w.heap.size, 0, none⟩ = some (.int .i64 hh) ∧ W.cell? ⟨w.heap.size, 1, none⟩ = some (.string (strB hp)) ∧ W.cell? ⟨w.heap.size, 2, none⟩ = some (.int .i64 hn) ∧ W.cell? ⟨w.heap.size, 3, none⟩ = some (.string (strB hr)))) (by kernel_rfl) (HK.out _ HBC.out) (fun hHeld => ?_)
  refine tk 0 ?_
  (try simp only [Act.put, sA, sB, sC])
  refine tk 1 ?_
  (try simp only [Act.put, sA, sB, sC])
  refine tk 4 ?_
  (try simp only [Act.put, sA, sB, sC])
  refine tk 5 ?_
  (try simp only [Act.put, sA, sB, sC])
  refine tk 7 ?_
  (try simp only [Act.put, sA, sB, sC])
  refine tk 8 ?_
  (try simp only [Act.put, sA, sB, sC])
  refine tk 11 ?_
  (try simp only [Act.put, sA, sB, sC])
  refine tk 12 ?_
  (try simp only [Act.put, sA, sB, sC])
  refine wpAnyH_norm (fuel' := 9) (listed' := #[true, true, false, false, true, true, false, true, true, false, false, true, true, false, false, false, false]) (by kernel_rfl) (by kernel_rfl) ?_
  refine wpAnyH_name (fun G hG => ?_)
  clear hHeld
  have st_2_3_6_9_10_13_14_15 : ∀ (g1 : Nat) (A1 : Option Addr) (c1 : Nat) (C1A : Option Addr) (C1c : Nat) (g2 : Nat) (A2 : Option Addr) (c2 : Nat) (C2A : Option Addr) (C2c : Nat) (g9 : Nat) (W : World) (HBC : Hid (Below w0.heap.size w0 W)) (G1 : Hid (W.heap[g1]? = some (.cells #[.int .i64 hh] 3 (0, 0)))) (F1 : Hid (Bs W (.slice A1 (i8B hh).length c1) (i8B hh))) (C1 : Hid (Bs W (.slice C1A hp.length C1c) hp)) (G2 : Hid (W.heap[g2]? = some (.cells #[.int .i64 hn] 3 (0, 0)))) (F2 : Hid (Bs W (.slice A2 (i8B hn).length c2) (i8B hn))) (C2 : Hid (Bs W (.slice C2A hr.length C2c) hr)) (GB : Hid (W.heap[g9]? = some (.cells #[.slice A1 (i8B hh).length c1, .slice C1A hp.length C1c, .slice A2 (i8B hn).length c2, .slice C2A hr.length C2c] 29 (0, 0)))), G 1 #[true, true, true, true, true, true, true, true, true, true, true, true, true, true, true, true, false] ⟨#[agH hh hp hn hr, .pointer (some ⟨w.heap.size, 0, none⟩), .string ⟨#[]⟩, .pointer (some ⟨w.heap.size, 0, none⟩), .int .i64 hh, .slice (some ⟨g1, 0, none⟩) 1 1, .slice A1 (i8B hh).length c1, .pointer (some ⟨w.heap.size, 1, none⟩), .string (strB hp), .slice C1A hp.length C1c, .pointer (some ⟨w.heap.size, 2, none⟩), .int .i64 hn, .slice (some ⟨g2, 0, none⟩) 1 1, .slice A2 (i8B hn).length c2, .pointer (some ⟨w.heap.size, 3, none⟩), .string (strB hr), .slice C2A hr.length C2c, .slice (some ⟨g9, 0, none⟩) 4 4, .string (strB en)], []⟩ W := by
    intro g1 A1 c1 C1A C1c g2 A2 c2 C2A C2c g9 W HBC G1 F1 C1 G2 F2 C2 GB
    rw [hG]
    have hHeld : ((fun W => W.cell? ⟨w.heap.size, 0, none⟩ = some (.int .i64 hh) ∧ W.cell? ⟨w.heap.size, 1, none⟩ = some (.string (strB hp)) ∧ W.cell? ⟨w.heap.size, 2, none⟩ = some (.int .i64 hn) ∧ W.cell? ⟨w.heap.size, 3, none⟩ = some (.string (strB hr)))) W := HK.out _ HBC.out
    refine wpAnyH_ready (rs := [16]) (by kernel_rfl) (by simp) ?_
    refine AllReadyH.cons (o := ?o40) ?g40 (fun K hK => ?j40) AllReadyH.nil
    case g40 => (simp only [gA, gB, gC]; rfl)
    case j40 =>
      go_simp
      refine hK.out _ _ (by (try dsimp only); exact hHeld) (fun _ => ?_)
      (try simp only [Act.put, sA, sB, sC])
      refine wpAnyH_done (by kernel_rfl) ?_ _
      go_wp2
      go_ret
      exact ⟨rfl, bel2M HB0.out HBC.out⟩
  have st_2_3_6_9_10_13_14 : ∀ (g1 : Nat) (A1 : Option Addr) (c1 : Nat) (C1A : Option Addr) (C1c : Nat) (g2 : Nat) (A2 : Option Addr) (c2 : Nat) (C2A : Option Addr) (C2c : Nat) (g9 : Nat) (W : World) (HBC : Hid (Below w0.heap.size w0 W)) (G1 : Hid (W.heap[g1]? = some (.cells #[.int .i64 hh] 3 (0, 0)))) (F1 : Hid (Bs W (.slice A1 (i8B hh).length c1) (i8B hh))) (C1 : Hid (Bs W (.slice C1A hp.length C1c) hp)) (G2 : Hid (W.heap[g2]? = some (.cells #[.int .i64 hn] 3 (0, 0)))) (F2 : Hid (Bs W (.slice A2 (i8B hn).length c2) (i8B hn))) (C2 : Hid (Bs W (.slice C2A hr.length C2c) hr)) (GB : Hid (W.heap[g9]? = some (.cells #[.slice A1 (i8B hh).length c1, .slice C1A hp.length C1c, .slice A2 (i8B hn).length c2, .slice C2A hr.length C2c] 29 (0, 0)))), G 2 #[true, true, true, true, true, true, true, true, true, true, true, true, true, true, true, false, false] ⟨#[agH hh hp hn hr, .pointer (some ⟨w.heap.size, 0, none⟩), .string ⟨#[]⟩, .pointer (some ⟨w.heap.size, 0, none⟩), .int .i64 hh, .slice (some ⟨g1, 0, none⟩) 1 1, .slice A1 (i8B hh).length c1, .pointer (some ⟨w.heap.size, 1, none⟩), .string (strB hp), .slice C1A hp.length C1c, .pointer (some ⟨w.heap.size, 2, none⟩), .int .i64 hn, .slice (some ⟨g2, 0, none⟩) 1 1, .slice A2 (i8B hn).length c2, .pointer (some ⟨w.heap.size, 3, none⟩), .string (strB hr), .slice C2A hr.length C2c, .slice (some ⟨g9, 0, none⟩) 4 4, undef], []⟩ W := by
    intro g1 A1 c1 C1A C1c g2 A2 c2 C2A C2c g9 W HBC G1 F1 C1 G2 F2 C2 GB
    rw [hG]
    have hHeld : ((fun W => W.cell? ⟨w.heap.size, 0, none⟩ = some (.int .i64 hh) ∧ W.cell? ⟨w.heap.size, 1, none⟩ = some (.string (strB hp)) ∧ W.cell? ⟨w.heap.size, 2, none⟩ = some (.int .i64 hn) ∧ W.cell? ⟨w.heap.size, 3, none⟩ = some (.string (strB hr)))) W := HK.out _ HBC.out
    refine wpAnyH_ready (rs := [15]) (by kernel_rfl) (by simp) ?_
    refine AllReadyH.cons (o := ?o41) ?g41 (fun K hK => ?j41) AllReadyH.nil
    case g41 => (simp only [gA, gB, gC]; rfl)
    case j41 =>
      go_simp
      (go_at_call 36; refine (HOF.out _ _ (bss_heap (vs := [.slice A1 (i8B hh).length c1, .slice C1A hp.length C1c, .slice A2 (i8B hn).length c2, .slice C2A hr.length C2c]) GB.out [i8B hh, hp, i8B hn, hr] 4 rfl (by decide) ⟨F1.out, C1.out, F2.out, C2.out, trivial⟩)).mono ?_)
      rintro e wz ⟨rfl, hbm⟩
      refine hK.out _ _ (by (try dsimp only); exact HK.out _ (bel2M HBC.out hbm)) (fun _ => ?_)
      (try simp only [Act.put, sA, sB, sC])
      refine wpAnyH_norm (fuel' := 1) (listed' := #[true, true, true, true, true, true, true, true, true, true, true, true, true, true, true, true, false]) (by kernel_rfl) (by kernel_rfl) ?_
      have hst := st_2_3_6_9_10_13_14_15 g1 A1 c1 C1A C1c g2 A2 c2 C2A C2c g9 _ (Lib.hid (bel2M HBC.out hbm)) (Lib.hid (heapB G1.out hbm)) (Lib.hid (F1.out.below hbm (Nat.le_refl _))) (Lib.hid (C1.out.below hbm (Nat.le_refl _))) (Lib.hid (heapB G2.out hbm)) (Lib.hid (F2.out.below hbm (Nat.le_refl _))) (Lib.hid (C2.out.below hbm (Nat.le_refl _))) (Lib.hid (heapB GB.out hbm))
      rw [hG] at hst
      exact hst
  have st_2_3_6_9_10_13 : ∀ (g1 : Nat) (A1 : Option Addr) (c1 : Nat) (C1A : Option Addr) (C1c : Nat) (g2 : Nat) (A2 : Option Addr) (c2 : Nat) (C2A : Option Addr) (C2c : Nat) (W : World) (HBC : Hid (Below w0.heap.size w0 W)) (G1 : Hid (W.heap[g1]? = some (.cells #[.int .i64 hh] 3 (0, 0)))) (F1 : Hid (Bs W (.slice A1 (i8B hh).length c1) (i8B hh))) (C1 : Hid (Bs W (.slice C1A hp.length C1c) hp)) (G2 : Hid (W.heap[g2]? = some (.cells #[.int .i64 hn] 3 (0, 0)))) (F2 : Hid (Bs W (.slice A2 (i8B hn).length c2) (i8B hn))) (C2 : Hid (Bs W (.slice C2A hr.length C2c) hr)), G 3 #[true, true, true, true, true, true, true, true, true, true, true, true, true, true, false, false, false] ⟨#[agH hh hp hn hr, .pointer (some ⟨w.heap.size, 0, none⟩), .string ⟨#[]⟩, .pointer (some ⟨w.heap.size, 0, none⟩), .int .i64 hh, .slice (some ⟨g1, 0, none⟩) 1 1, .slice A1 (i8B hh).length c1, .pointer (some ⟨w.heap.size, 1, none⟩), .string (strB hp), .slice C1A hp.length C1c, .pointer (some ⟨w.heap.size, 2, none⟩), .int .i64 hn, .slice (some ⟨g2, 0, none⟩) 1 1, .slice A2 (i8B hn).length c2, .pointer (some ⟨w.heap.size, 3, none⟩), .string (strB hr), .slice C2A hr.length C2c, undef, undef], []⟩ W := by
    intro g1 A1 c1 C1A C1c g2 A2 c2 C2A C2c W HBC G1 F1 C1 G2 F2 C2
    rw [hG]
    have hHeld : ((fun W => W.cell? ⟨w.heap.size, 0, none⟩ = some (.int .i64 hh) ∧ W.cell? ⟨w.heap.size, 1, none⟩ = some (.string (strB hp)) ∧ W.cell? ⟨w.heap.size, 2, none⟩ = some (.int .i64 hn) ∧ W.cell? ⟨w.heap.size, 3, none⟩ = some (.string (strB hr)))) W := HK.out _ HBC.out
    refine wpAnyH_ready (rs := [14]) (by kernel_rfl) (by simp) ?_
    refine AllReadyH.cons (o := ?o42) ?g42 (fun K hK => ?j42) AllReadyH.nil
    case g42 => (simp only [gA, gB, gC]; rfl)
    case j42 =>
      refine step_built rfl 60 4 _ rfl #[.slice A1 (i8B hh).length c1, .slice C1A hp.length C1c, .slice A2 (i8B hn).length c2, .slice C2A hr.length C2c] 29 (fun W => by go_simp) ?_
      intro g9 w' hg hbm hge
      have GB := Lib.hid hg
      refine hK.out _ _ (by (try dsimp only); exact HK.out _ (bel2M HBC.out hbm)) (fun _ => ?_)
      (try simp only [Act.put, sA, sB, sC])
      refine wpAnyH_norm (fuel' := 2) (listed' := #[true, true, true, true, true, true, true, true, true, true, true, true, true, true, true, false, false]) (by kernel_rfl) (by kernel_rfl) ?_
      have hst := st_2_3_6_9_10_13_14 g1 A1 c1 C1A C1c g2 A2 c2 C2A C2c g9 _ (Lib.hid (bel2M HBC.out hbm)) (Lib.hid (heapB G1.out hbm)) (Lib.hid (F1.out.below hbm (Nat.le_refl _))) (Lib.hid (C1.out.below hbm (Nat.le_refl _))) (Lib.hid (heapB G2.out hbm)) (Lib.hid (F2.out.below hbm (Nat.le_refl _))) (Lib.hid (C2.out.below hbm (Nat.le_refl _))) GB
      rw [hG] at hst
      exact hst
  have st_2_3_6_9_13 : ∀ (g1 : Nat) (A1 : Option Addr) (c1 : Nat) (C1A : Option Addr) (C1c : Nat) (g2 : Nat) (C2A : Option Addr) (C2c : Nat) (W : World) (HBC : Hid (Below w0.heap.size w0 W)) (G1 : Hid (W.heap[g1]? = some (.cells #[.int .i64 hh] 3 (0, 0)))) (F1 : Hid (Bs W (.slice A1 (i8B hh).length c1) (i8B hh))) (C1 : Hid (Bs W (.slice C1A hp.length C1c) hp)) (G2 : Hid (W.heap[g2]? = some (.cells #[.int .i64 hn] 3 (0, 0)))) (C2 : Hid (Bs W (.slice C2A hr.length C2c) hr)), G 4 #[true, true, true, true, true, true, true, true, true, true, false, true, true, true, false, false, false] ⟨#[agH hh hp hn hr, .pointer (some ⟨w.heap.size, 0, none⟩), .string ⟨#[]⟩, .pointer (some ⟨w.heap.size, 0, none⟩), .int .i64 hh, .slice (some ⟨g1, 0, none⟩) 1 1, .slice A1 (i8B hh).length c1, .pointer (some ⟨w.heap.size, 1, none⟩), .string (strB hp), .slice C1A hp.length C1c, .pointer (some ⟨w.heap.size, 2, none⟩), .int .i64 hn, .slice (some ⟨g2, 0, none⟩) 1 1, undef, .pointer (some ⟨w.heap.size, 3, none⟩), .string (strB hr), .slice C2A hr.length C2c, undef, undef], []⟩ W := by
    intro g1 A1 c1 C1A C1c g2 C2A C2c W HBC G1 F1 C1 G2 C2
    rw [hG]
    have hHeld : ((fun W => W.cell? ⟨w.heap.size, 0, none⟩ = some (.int .i64 hh) ∧ W.cell? ⟨w.heap.size, 1, none⟩ = some (.string (strB hp)) ∧ W.cell? ⟨w.heap.size, 2, none⟩ = some (.int .i64 hn) ∧ W.cell? ⟨w.heap.size, 3, none⟩ = some (.string (strB hr)))) W := HK.out _ HBC.out
    refine wpAnyH_ready (rs := [10]) (by kernel_rfl) (by simp) ?_
    refine AllReadyH.cons (o := ?o43) ?g43 (fun K hK => ?j43) AllReadyH.nil
    case g43 => (simp only [gA, gB, gC]; rfl)
    case j43 =>
      go_simp
      (go_at_call 29; refine (HP.out hn _ _ G2.out).mono ?_)
      rintro e wa ⟨va, rfl, hoa, hbm⟩
      obtain ⟨A2, c2, rfl, -⟩ := (own_bs hoa).open
      have F2 := Lib.hid (own_bs hoa)
      refine hK.out _ _ (by (try dsimp only); exact HK.out _ (bel2M HBC.out hbm)) (fun _ => ?_)
      (try simp only [Act.put, sA, sB, sC])
      refine wpAnyH_norm (fuel' := 3) (listed' := #[true, true, true, true, true, true, true, true, true, true, true, true, true, true, false, false, false]) (by kernel_rfl) (by kernel_rfl) ?_
      have hst := st_2_3_6_9_10_13 g1 A1 c1 C1A C1c g2 A2 c2 C2A C2c _ (Lib.hid (bel2M HBC.out hbm)) (Lib.hid (heapB G1.out hbm)) (Lib.hid (F1.out.below hbm (Nat.le_refl _))) (Lib.hid (C1.out.below hbm (Nat.le_refl _))) (Lib.hid (heapB G2.out hbm)) F2 (Lib.hid (C2.out.below hbm (Nat.le_refl _)))
      rw [hG] at hst
      exact hst
  have st_2_3_9_10_13 : ∀ (g1 : Nat) (A1 : Option Addr) (c1 : Nat) (g2 : Nat) (A2 : Option Addr) (c2 : Nat) (C2A : Option Addr) (C2c : Nat) (W : World) (HBC : Hid (Below w0.heap.size w0 W)) (G1 : Hid (W.heap[g1]? = some (.cells #[.int .i64 hh] 3 (0, 0)))) (F1 : Hid (Bs W (.slice A1 (i8B hh).length c1) (i8B hh))) (G2 : Hid (W.heap[g2]? = some (.cells #[.int .i64 hn] 3 (0, 0)))) (F2 : Hid (Bs W (.slice A2 (i8B hn).length c2) (i8B hn))) (C2 : Hid (Bs W (.slice C2A hr.length C2c) hr)), G 4 #[true, true, true, true, true, true, false, true, true, true, true, true, true, true, false, false, false] ⟨#[agH hh hp hn hr, .pointer (some ⟨w.heap.size, 0, none⟩), .string ⟨#[]⟩, .pointer (some ⟨w.heap.size, 0, none⟩), .int .i64 hh, .slice (some ⟨g1, 0, none⟩) 1 1, .slice A1 (i8B hh).length c1, .pointer (some ⟨w.heap.size, 1, none⟩), .string (strB hp), undef, .pointer (some ⟨w.heap.size, 2, none⟩), .int .i64 hn, .slice (some ⟨g2, 0, none⟩) 1 1, .slice A2 (i8B hn).length c2, .pointer (some ⟨w.heap.size, 3, none⟩), .string (strB hr), .slice C2A hr.length C2c, undef, undef], []⟩ W := by
    intro g1 A1 c1 g2 A2 c2 C2A C2c W HBC G1 F1 G2 F2 C2
    rw [hG]
    have hHeld : ((fun W => W.cell? ⟨w.heap.size, 0, none⟩ = some (.int .i64 hh) ∧ W.cell? ⟨w.heap.size, 1, none⟩ = some (.string (strB hp)) ∧ W.cell? ⟨w.heap.size, 2, none⟩ = some (.int .i64 hn) ∧ W.cell? ⟨w.heap.size, 3, none⟩ = some (.string (strB hr)))) W := HK.out _ HBC.out
    refine wpAnyH_ready (rs := [6]) (by kernel_rfl) (by simp) ?_
    refine AllReadyH.cons (o := ?o44) ?g44 (fun K hK => ?j44) AllReadyH.nil
    case g44 => (simp only [gA, gB, gC]; rfl)
    case j44 =>
      refine step_conv rfl _ 22 29 rfl _ Try.underlying22 Try.underlying29 Try.underlying5 hp rfl (HC1.out) ?_
      intro C1A C1c w' hcs hbm
      have C1 := Lib.hid hcs
      refine hK.out _ _ (by (try dsimp only); exact HK.out _ (bel2M HBC.out hbm)) (fun _ => ?_)
      (try simp only [Act.put, sA, sB, sC])
      refine wpAnyH_norm (fuel' := 3) (listed' := #[true, true, true, true, true, true, true, true, true, true, true, true, true, true, false, false, false]) (by kernel_rfl) (by kernel_rfl) ?_
      have hst := st_2_3_6_9_10_13 g1 A1 c1 C1A C1c g2 A2 c2 C2A C2c _ (Lib.hid (bel2M HBC.out hbm)) (Lib.hid (heapB G1.out hbm)) (Lib.hid (F1.out.below hbm (Nat.le_refl _))) C1 (Lib.hid (heapB G2.out hbm)) (Lib.hid (F2.out.below hbm (Nat.le_refl _))) (Lib.hid (C2.out.below hbm (Nat.le_refl _)))
      rw [hG] at hst
      exact hst
  have st_2_3_6_9_10 : ∀ (g1 : Nat) (A1 : Option Addr) (c1 : Nat) (C1A : Option Addr) (C1c : Nat) (g2 : Nat) (A2 : Option Addr) (c2 : Nat) (W : World) (HBC : Hid (Below w0.heap.size w0 W)) (G1 : Hid (W.heap[g1]? = some (.cells #[.int .i64 hh] 3 (0, 0)))) (F1 : Hid (Bs W (.slice A1 (i8B hh).length c1) (i8B hh))) (C1 : Hid (Bs W (.slice C1A hp.length C1c) hp)) (G2 : Hid (W.heap[g2]? = some (.cells #[.int .i64 hn] 3 (0, 0)))) (F2 : Hid (Bs W (.slice A2 (i8B hn).length c2) (i8B hn))), G 4 #[true, true, true, true, true, true, true, true, true, true, true, true, true, false, false, false, false] ⟨#[agH hh hp hn hr, .pointer (some ⟨w.heap.size, 0, none⟩), .string ⟨#[]⟩, .pointer (some ⟨w.heap.size, 0, none⟩), .int .i64 hh, .slice (some ⟨g1, 0, none⟩) 1 1, .slice A1 (i8B hh).length c1, .pointer (some ⟨w.heap.size, 1, none⟩), .string (strB hp), .slice C1A hp.length C1c, .pointer (some ⟨w.heap.size, 2, none⟩), .int .i64 hn, .slice (some ⟨g2, 0, none⟩) 1 1, .slice A2 (i8B hn).length c2, .pointer (some ⟨w.heap.size, 3, none⟩), .string (strB hr), undef, undef, undef], []⟩ W := by
    intro g1 A1 c1 C1A C1c g2 A2 c2 W HBC G1 F1 C1 G2 F2
    rw [hG]
    have hHeld : ((fun W => W.cell? ⟨w.heap.size, 0, none⟩ = some (.int .i64 hh) ∧ W.cell? ⟨w.heap.size, 1, none⟩ = some (.string (strB hp)) ∧ W.cell? ⟨w.heap.size, 2, none⟩ = some (.int .i64 hn) ∧ W.cell? ⟨w.heap.size, 3, none⟩ = some (.string (strB hr)))) W := HK.out _ HBC.out
    refine wpAnyH_ready (rs := [13]) (by kernel_rfl) (by simp) ?_
    refine AllReadyH.cons (o := ?o45) ?g45 (fun K hK => ?j45) AllReadyH.nil
    case g45 => (simp only [gA, gB, gC]; rfl)
    case j45 =>
      refine step_conv rfl _ 22 29 rfl _ Try.underlying22 Try.underlying29 Try.underlying5 hr rfl (HC2.out) ?_
      intro C2A C2c w' hcs hbm
      have C2 := Lib.hid hcs
      refine hK.out _ _ (by (try dsimp only); exact HK.out _ (bel2M HBC.out hbm)) (fun _ => ?_)
      (try simp only [Act.put, sA, sB, sC])
      refine wpAnyH_norm (fuel' := 3) (listed' := #[true, true, true, true, true, true, true, true, true, true, true, true, true, true, false, false, false]) (by kernel_rfl) (by kernel_rfl) ?_
      have hst := st_2_3_6_9_10_13 g1 A1 c1 C1A C1c g2 A2 c2 C2A C2c _ (Lib.hid (bel2M HBC.out hbm)) (Lib.hid (heapB G1.out hbm)) (Lib.hid (F1.out.below hbm (Nat.le_refl _))) (Lib.hid (C1.out.below hbm (Nat.le_refl _))) (Lib.hid (heapB G2.out hbm)) (Lib.hid (F2.out.below hbm (Nat.le_refl _))) C2
      rw [hG] at hst
      exact hst
  have st_2_6_9_13 : ∀ (g1 : Nat) (C1A : Option Addr) (C1c : Nat) (g2 : Nat) (C2A : Option Addr) (C2c : Nat) (W : World) (HBC : Hid (Below w0.heap.size w0 W)) (G1 : Hid (W.heap[g1]? = some (.cells #[.int .i64 hh] 3 (0, 0)))) (C1 : Hid (Bs W (.slice C1A hp.length C1c) hp)) (G2 : Hid (W.heap[g2]? = some (.cells #[.int .i64 hn] 3 (0, 0)))) (C2 : Hid (Bs W (.slice C2A hr.length C2c) hr)), G 5 #[true, true, true, false, true, true, true, true, true, true, false, true, true, true, false, false, false] ⟨#[agH hh hp hn hr, .pointer (some ⟨w.heap.size, 0, none⟩), .string ⟨#[]⟩, .pointer (some ⟨w.heap.size, 0, none⟩), .int .i64 hh, .slice (some ⟨g1, 0, none⟩) 1 1, undef, .pointer (some ⟨w.heap.size, 1, none⟩), .string (strB hp), .slice C1A hp.length C1c, .pointer (some ⟨w.heap.size, 2, none⟩), .int .i64 hn, .slice (some ⟨g2, 0, none⟩) 1 1, undef, .pointer (some ⟨w.heap.size, 3, none⟩), .string (strB hr), .slice C2A hr.length C2c, undef, undef], []⟩ W := by
    intro g1 C1A C1c g2 C2A C2c W HBC G1 C1 G2 C2
    rw [hG]
    have hHeld : ((fun W => W.cell? ⟨w.heap.size, 0, none⟩ = some (.int .i64 hh) ∧ W.cell? ⟨w.heap.size, 1, none⟩ = some (.string (strB hp)) ∧ W.cell? ⟨w.heap.size, 2, none⟩ = some (.int .i64 hn) ∧ W.cell? ⟨w.heap.size, 3, none⟩ = some (.string (strB hr)))) W := HK.out _ HBC.out
    refine wpAnyH_ready (rs := [3]) (by kernel_rfl) (by simp) ?_
    refine AllReadyH.cons (o := ?o46) ?g46 (fun K hK => ?j46) AllReadyH.nil
    case g46 => (simp only [gA, gB, gC]; rfl)
    case j46 =>
      go_simp
      (go_at_call 29; refine (HP.out hh _ _ G1.out).mono ?_)
      rintro e wa ⟨va, rfl, hoa, hbm⟩
      obtain ⟨A1, c1, rfl, -⟩ := (own_bs hoa).open
      have F1 := Lib.hid (own_bs hoa)
      refine hK.out _ _ (by (try dsimp only); exact HK.out _ (bel2M HBC.out hbm)) (fun _ => ?_)
      (try simp only [Act.put, sA, sB, sC])
      refine wpAnyH_norm (fuel' := 4) (listed' := #[true, true, true, true, true, true, true, true, true, true, false, true, true, true, false, false, false]) (by kernel_rfl) (by kernel_rfl) ?_
      have hst := st_2_3_6_9_13 g1 A1 c1 C1A C1c g2 C2A C2c _ (Lib.hid (bel2M HBC.out hbm)) (Lib.hid (heapB G1.out hbm)) F1 (Lib.hid (C1.out.below hbm (Nat.le_refl _))) (Lib.hid (heapB G2.out hbm)) (Lib.hid (C2.out.below hbm (Nat.le_refl _)))
      rw [hG] at hst
      exact hst
  have st_2_3_9_13 : ∀ (g1 : Nat) (A1 : Option Addr) (c1 : Nat) (g2 : Nat) (C2A : Option Addr) (C2c : Nat) (W : World) (HBC : Hid (Below w0.heap.size w0 W)) (G1 : Hid (W.heap[g1]? = some (.cells #[.int .i64 hh] 3 (0, 0)))) (F1 : Hid (Bs W (.slice A1 (i8B hh).length c1) (i8B hh))) (G2 : Hid (W.heap[g2]? = some (.cells #[.int .i64 hn] 3 (0, 0)))) (C2 : Hid (Bs W (.slice C2A hr.length C2c) hr)), G 5 #[true, true, true, true, true, true, false, true, true, true, false, true, true, true, false, false, false] ⟨#[agH hh hp hn hr, .pointer (some ⟨w.heap.size, 0, none⟩), .string ⟨#[]⟩, .pointer (some ⟨w.heap.size, 0, none⟩), .int .i64 hh, .slice (some ⟨g1, 0, none⟩) 1 1, .slice A1 (i8B hh).length c1, .pointer (some ⟨w.heap.size, 1, none⟩), .string (strB hp), undef, .pointer (some ⟨w.heap.size, 2, none⟩), .int .i64 hn, .slice (some ⟨g2, 0, none⟩) 1 1, undef, .pointer (some ⟨w.heap.size, 3, none⟩), .string (strB hr), .slice C2A hr.length C2c, undef, undef], []⟩ W := by
    intro g1 A1 c1 g2 C2A C2c W HBC G1 F1 G2 C2
    rw [hG]
    have hHeld : ((fun W => W.cell? ⟨w.heap.size, 0, none⟩ = some (.int .i64 hh) ∧ W.cell? ⟨w.heap.size, 1, none⟩ = some (.string (strB hp)) ∧ W.cell? ⟨w.heap.size, 2, none⟩ = some (.int .i64 hn) ∧ W.cell? ⟨w.heap.size, 3, none⟩ = some (.string (strB hr)))) W := HK.out _ HBC.out
    refine wpAnyH_ready (rs := [6, 10]) (by kernel_rfl) (by simp) ?_
    refine AllReadyH.cons (o := ?o47) ?g47 (fun K hK => ?j47) (AllReadyH.cons (o := ?o48) ?g48 (fun K hK => ?j48) AllReadyH.nil)
    case g47 => (simp only [gA, gB, gC]; rfl)
    case g48 => (simp only [gA, gB, gC]; rfl)
    case j47 =>
      refine step_conv rfl _ 22 29 rfl _ Try.underlying22 Try.underlying29 Try.underlying5 hp rfl (HC1.out) ?_
      intro C1A C1c w' hcs hbm
      have C1 := Lib.hid hcs
      refine hK.out _ _ (by (try dsimp only); exact HK.out _ (bel2M HBC.out hbm)) (fun _ => ?_)
      (try simp only [Act.put, sA, sB, sC])
      refine wpAnyH_norm (fuel' := 4) (listed' := #[true, true, true, true, true, true, true, true, true, true, false, true, true, true, false, false, false]) (by kernel_rfl) (by kernel_rfl) ?_
      have hst := st_2_3_6_9_13 g1 A1 c1 C1A C1c g2 C2A C2c _ (Lib.hid (bel2M HBC.out hbm)) (Lib.hid (heapB G1.out hbm)) (Lib.hid (F1.out.below hbm (Nat.le_refl _))) C1 (Lib.hid (heapB G2.out hbm)) (Lib.hid (C2.out.below hbm (Nat.le_refl _)))
      rw [hG] at hst
      exact hst
    case j48 =>
      go_simp
      (go_at_call 29; refine (HP.out hn _ _ G2.out).mono ?_)
      rintro e wa ⟨va, rfl, hoa, hbm⟩
      obtain ⟨A2, c2, rfl, -⟩ := (own_bs hoa).open
      have F2 := Lib.hid (own_bs hoa)
      refine hK.out _ _ (by (try dsimp only); exact HK.out _ (bel2M HBC.out hbm)) (fun _ => ?_)
      (try simp only [Act.put, sA, sB, sC])
      refine wpAnyH_norm (fuel' := 4) (listed' := #[true, true, true, true, true, true, false, true, true, true, true, true, true, true, false, false, false]) (by kernel_rfl) (by kernel_rfl) ?_
      have hst := st_2_3_9_10_13 g1 A1 c1 g2 A2 c2 C2A C2c _ (Lib.hid (bel2M HBC.out hbm)) (Lib.hid (heapB G1.out hbm)) (Lib.hid (F1.out.below hbm (Nat.le_refl _))) (Lib.hid (heapB G2.out hbm)) F2 (Lib.hid (C2.out.below hbm (Nat.le_refl _)))
      rw [hG] at hst
      exact hst
  have st_2_3_6_13 : ∀ (g1 : Nat) (A1 : Option Addr) (c1 : Nat) (C1A : Option Addr) (C1c : Nat) (C2A : Option Addr) (C2c : Nat) (W : World) (HBC : Hid (Below w0.heap.size w0 W)) (G1 : Hid (W.heap[g1]? = some (.cells #[.int .i64 hh] 3 (0, 0)))) (F1 : Hid (Bs W (.slice A1 (i8B hh).length c1) (i8B hh))) (C1 : Hid (Bs W (.slice C1A hp.length C1c) hp)) (C2 : Hid (Bs W (.slice C2A hr.length C2c) hr)), G 5 #[true, true, true, true, true, true, true, true, true, false, false, true, true, true, false, false, false] ⟨#[agH hh hp hn hr, .pointer (some ⟨w.heap.size, 0, none⟩), .string ⟨#[]⟩, .pointer (some ⟨w.heap.size, 0, none⟩), .int .i64 hh, .slice (some ⟨g1, 0, none⟩) 1 1, .slice A1 (i8B hh).length c1, .pointer (some ⟨w.heap.size, 1, none⟩), .string (strB hp), .slice C1A hp.length C1c, .pointer (some ⟨w.heap.size, 2, none⟩), .int .i64 hn, undef, undef, .pointer (some ⟨w.heap.size, 3, none⟩), .string (strB hr), .slice C2A hr.length C2c, undef, undef], []⟩ W := by
    intro g1 A1 c1 C1A C1c C2A C2c W HBC G1 F1 C1 C2
    rw [hG]
    have hHeld : ((fun W => W.cell? ⟨w.heap.size, 0, none⟩ = some (.int .i64 hh) ∧ W.cell? ⟨w.heap.size, 1, none⟩ = some (.string (strB hp)) ∧ W.cell? ⟨w.heap.size, 2, none⟩ = some (.int .i64 hn) ∧ W.cell? ⟨w.heap.size, 3, none⟩ = some (.string (strB hr)))) W := HK.out _ HBC.out
    refine wpAnyH_ready (rs := [9]) (by kernel_rfl) (by simp) ?_
    refine AllReadyH.cons (o := ?o49) ?g49 (fun K hK => ?j49) AllReadyH.nil
    case g49 => (simp only [gA, gB, gC]; rfl)
    case j49 =>
      refine step_built rfl 84 1 _ rfl #[.int .i64 hn] 3 (fun W => by go_simp) ?_
      intro g2 w' hg hbm hge
      have G2 := Lib.hid hg
      refine hK.out _ _ (by (try dsimp only); exact HK.out _ (bel2M HBC.out hbm)) (fun _ => ?_)
      (try simp only [Act.put, sA, sB, sC])
      refine wpAnyH_norm (fuel' := 4) (listed' := #[true, true, true, true, true, true, true, true, true, true, false, true, true, true, false, false, false]) (by kernel_rfl) (by kernel_rfl) ?_
      have hst := st_2_3_6_9_13 g1 A1 c1 C1A C1c g2 C2A C2c _ (Lib.hid (bel2M HBC.out hbm)) (Lib.hid (heapB G1.out hbm)) (Lib.hid (F1.out.below hbm (Nat.le_refl _))) (Lib.hid (C1.out.below hbm (Nat.le_refl _))) G2 (Lib.hid (C2.out.below hbm (Nat.le_refl _)))
      rw [hG] at hst
      exact hst
  have st_2_3_6_9 : ∀ (g1 : Nat) (A1 : Option Addr) (c1 : Nat) (C1A : Option Addr) (C1c : Nat) (g2 : Nat) (W : World) (HBC : Hid (Below w0.heap.size w0 W)) (G1 : Hid (W.heap[g1]? = some (.cells #[.int .i64 hh] 3 (0, 0)))) (F1 : Hid (Bs W (.slice A1 (i8B hh).length c1) (i8B hh))) (C1 : Hid (Bs W (.slice C1A hp.length C1c) hp)) (G2 : Hid (W.heap[g2]? = some (.cells #[.int .i64 hn] 3 (0, 0)))), G 5 #[true, true, true, true, true, true, true, true, true, true, false, true, true, false, false, false, false] ⟨#[agH hh hp hn hr, .pointer (some ⟨w.heap.size, 0, none⟩), .string ⟨#[]⟩, .pointer (some ⟨w.heap.size, 0, none⟩), .int .i64 hh, .slice (some ⟨g1, 0, none⟩) 1 1, .slice A1 (i8B hh).length c1, .pointer (some ⟨w.heap.size, 1, none⟩), .string (strB hp), .slice C1A hp.length C1c, .pointer (some ⟨w.heap.size, 2, none⟩), .int .i64 hn, .slice (some ⟨g2, 0, none⟩) 1 1, undef, .pointer (some ⟨w.heap.size, 3, none⟩), .string (strB hr), undef, undef, undef], []⟩ W := by
    intro g1 A1 c1 C1A C1c g2 W HBC G1 F1 C1 G2
    rw [hG]
    have hHeld : ((fun W => W.cell? ⟨w.heap.size, 0, none⟩ = some (.int .i64 hh) ∧ W.cell? ⟨w.heap.size, 1, none⟩ = some (.string (strB hp)) ∧ W.cell? ⟨w.heap.size, 2, none⟩ = some (.int .i64 hn) ∧ W.cell? ⟨w.heap.size, 3, none⟩ = some (.string (strB hr)))) W := HK.out _ HBC.out
    refine wpAnyH_ready (rs := [10, 13]) (by kernel_rfl) (by simp) ?_
    refine AllReadyH.cons (o := ?o50) ?g50 (fun K hK => ?j50) (AllReadyH.cons (o := ?o51) ?g51 (fun K hK => ?j51) AllReadyH.nil)
    case g50 => (simp only [gA, gB, gC]; rfl)
    case g51 => (simp only [gA, gB, gC]; rfl)
    case j50 =>
      go_simp
      (go_at_call 29; refine (HP.out hn _ _ G2.out).mono ?_)
      rintro e wa ⟨va, rfl, hoa, hbm⟩
      obtain ⟨A2, c2, rfl, -⟩ := (own_bs hoa).open
      have F2 := Lib.hid (own_bs hoa)
      refine hK.out _ _ (by (try dsimp only); exact HK.out _ (bel2M HBC.out hbm)) (fun _ => ?_)
      (try simp only [Act.put, sA, sB, sC])
      refine wpAnyH_norm (fuel' := 4) (listed' := #[true, true, true, true, true, true, true, true, true, true, true, true, true, false, false, false, false]) (by kernel_rfl) (by kernel_rfl) ?_
      have hst := st_2_3_6_9_10 g1 A1 c1 C1A C1c g2 A2 c2 _ (Lib.hid (bel2M HBC.out hbm)) (Lib.hid (heapB G1.out hbm)) (Lib.hid (F1.out.below hbm (Nat.le_refl _))) (Lib.hid (C1.out.below hbm (Nat.le_refl _))) (Lib.hid (heapB G2.out hbm)) F2
      rw [hG] at hst
      exact hst
    case j51 =>
      refine step_conv rfl _ 22 29 rfl _ Try.underlying22 Try.underlying29 Try.underlying5 hr rfl (HC2.out) ?_
      intro C2A C2c w' hcs hbm
      have C2 := Lib.hid hcs
      refine hK.out _ _ (by (try dsimp only); exact HK.out _ (bel2M HBC.out hbm)) (fun _ => ?_)
      (try simp only [Act.put, sA, sB, sC])
      refine wpAnyH_norm (fuel' := 4) (listed' := #[true, true, true, true, true, true, true, true, true, true, false, true, true, true, false, false, false]) (by kernel_rfl) (by kernel_rfl) ?_
      have hst := st_2_3_6_9_13 g1 A1 c1 C1A C1c g2 C2A C2c _ (Lib.hid (bel2M HBC.out hbm)) (Lib.hid (heapB G1.out hbm)) (Lib.hid (F1.out.below hbm (Nat.le_refl _))) (Lib.hid (C1.out.below hbm (Nat.le_refl _))) (Lib.hid (heapB G2.out hbm)) C2
      rw [hG] at hst
      exact hst
  have st_2_3_9_10 : ∀ (g1 : Nat) (A1 : Option Addr) (c1 : Nat) (g2 : Nat) (A2 : Option Addr) (c2 : Nat) (W : World) (HBC : Hid (Below w0.heap.size w0 W)) (G1 : Hid (W.heap[g1]? = some (.cells #[.int .i64 hh] 3 (0, 0)))) (F1 : Hid (Bs W (.slice A1 (i8B hh).length c1) (i8B hh))) (G2 : Hid (W.heap[g2]? = some (.cells #[.int .i64 hn] 3 (0, 0)))) (F2 : Hid (Bs W (.slice A2 (i8B hn).length c2) (i8B hn))), G 5 #[true, true, true, true, true, true, false, true, true, true, true, true, true, false, false, false, false] ⟨#[agH hh hp hn hr, .pointer (some ⟨w.heap.size, 0, none⟩), .string ⟨#[]⟩, .pointer (some ⟨w.heap.size, 0, none⟩), .int .i64 hh, .slice (some ⟨g1, 0, none⟩) 1 1, .slice A1 (i8B hh).length c1, .pointer (some ⟨w.heap.size, 1, none⟩), .string (strB hp), undef, .pointer (some ⟨w.heap.size, 2, none⟩), .int .i64 hn, .slice (some ⟨g2, 0, none⟩) 1 1, .slice A2 (i8B hn).length c2, .pointer (some ⟨w.heap.size, 3, none⟩), .string (strB hr), undef, undef, undef], []⟩ W := by
    intro g1 A1 c1 g2 A2 c2 W HBC G1 F1 G2 F2
    rw [hG]
    have hHeld : ((fun W => W.cell? ⟨w.heap.size, 0, none⟩ = some (.int .i64 hh) ∧ W.cell? ⟨w.heap.size, 1, none⟩ = some (.string (strB hp)) ∧ W.cell? ⟨w.heap.size, 2, none⟩ = some (.int .i64 hn) ∧ W.cell? ⟨w.heap.size, 3, none⟩ = some (.string (strB hr)))) W := HK.out _ HBC.out
    refine wpAnyH_ready (rs := [6, 13]) (by kernel_rfl) (by simp) ?_
    refine AllReadyH.cons (o := ?o52) ?g52 (fun K hK => ?j52) (AllReadyH.cons (o := ?o53) ?g53 (fun K hK => ?j53) AllReadyH.nil)
    case g52 => (simp only [gA, gB, gC]; rfl)
    case g53 => (simp only [gA, gB, gC]; rfl)
    case j52 =>
      refine step_conv rfl _ 22 29 rfl _ Try.underlying22 Try.underlying29 Try.underlying5 hp rfl (HC1.out) ?_
      intro C1A C1c w' hcs hbm
      have C1 := Lib.hid hcs
      refine hK.out _ _ (by (try dsimp only); exact HK.out _ (bel2M HBC.out hbm)) (fun _ => ?_)
      (try simp only [Act.put, sA, sB, sC])
      refine wpAnyH_norm (fuel' := 4) (listed' := #[true, true, true, true, true, true, true, true, true, true, true, true, true, false, false, false, false]) (by kernel_rfl) (by kernel_rfl) ?_
      have hst := st_2_3_6_9_10 g1 A1 c1 C1A C1c g2 A2 c2 _ (Lib.hid (bel2M HBC.out hbm)) (Lib.hid (heapB G1.out hbm)) (Lib.hid (F1.out.below hbm (Nat.le_refl _))) C1 (Lib.hid (heapB G2.out hbm)) (Lib.hid (F2.out.below hbm (Nat.le_refl _)))
      rw [hG] at hst
      exact hst
    case j53 =>
      refine step_conv rfl _ 22 29 rfl _ Try.underlying22 Try.underlying29 Try.underlying5 hr rfl (HC2.out) ?_
      intro C2A C2c w' hcs hbm
      have C2 := Lib.hid hcs
      refine hK.out _ _ (by (try dsimp only); exact HK.out _ (bel2M HBC.out hbm)) (fun _ => ?_)
      (try simp only [Act.put, sA, sB, sC])
      refine wpAnyH_norm (fuel' := 4) (listed' := #[true, true, true, true, true, true, false, true, true, true, true, true, true, true, false, false, false]) (by kernel_rfl) (by kernel_rfl) ?_
      have hst := st_2_3_9_10_13 g1 A1 c1 g2 A2 c2 C2A C2c _ (Lib.hid (bel2M HBC.out hbm)) (Lib.hid (heapB G1.out hbm)) (Lib.hid (F1.out.below hbm (Nat.le_refl _))) (Lib.hid (heapB G2.out hbm)) (Lib.hid (F2.out.below hbm (Nat.le_refl _))) C2
      rw [hG] at hst
      exact hst
  have st_6_9_13 : ∀ (C1A : Option Addr) (C1c : Nat) (g2 : Nat) (C2A : Option Addr) (C2c : Nat) (W : World) (HBC : Hid (Below w0.heap.size w0 W)) (C1 : Hid (Bs W (.slice C1A hp.length C1c) hp)) (G2 : Hid (W.heap[g2]? = some (.cells #[.int .i64 hn] 3 (0, 0)))) (C2 : Hid (Bs W (.slice C2A hr.length C2c) hr)), G 6 #[true, true, false, false, true, true, true, true, true, true, false, true, true, true, false, false, false] ⟨#[agH hh hp hn hr, .pointer (some ⟨w.heap.size, 0, none⟩), .string ⟨#[]⟩, .pointer (some ⟨w.heap.size, 0, none⟩), .int .i64 hh, undef, undef, .pointer (some ⟨w.heap.size, 1, none⟩), .string (strB hp), .slice C1A hp.length C1c, .pointer (some ⟨w.heap.size, 2, none⟩), .int .i64 hn, .slice (some ⟨g2, 0, none⟩) 1 1, undef, .pointer (some ⟨w.heap.size, 3, none⟩), .string (strB hr), .slice C2A hr.length C2c, undef, undef], []⟩ W := by
    intro C1A C1c g2 C2A C2c W HBC C1 G2 C2
    rw [hG]
    have hHeld : ((fun W => W.cell? ⟨w.heap.size, 0, none⟩ = some (.int .i64 hh) ∧ W.cell? ⟨w.heap.size, 1, none⟩ = some (.string (strB hp)) ∧ W.cell? ⟨w.heap.size, 2, none⟩ = some (.int .i64 hn) ∧ W.cell? ⟨w.heap.size, 3, none⟩ = some (.string (strB hr)))) W := HK.out _ HBC.out
    refine wpAnyH_ready (rs := [2]) (by kernel_rfl) (by simp) ?_
    refine AllReadyH.cons (o := ?o54) ?g54 (fun K hK => ?j54) AllReadyH.nil
    case g54 => (simp only [gA, gB, gC]; rfl)
    case j54 =>
      refine step_built rfl 84 1 _ rfl #[.int .i64 hh] 3 (fun W => by go_simp) ?_
      intro g1 w' hg hbm hge
      have G1 := Lib.hid hg
      refine hK.out _ _ (by (try dsimp only); exact HK.out _ (bel2M HBC.out hbm)) (fun _ => ?_)
      (try simp only [Act.put, sA, sB, sC])
      refine wpAnyH_norm (fuel' := 5) (listed' := #[true, true, true, false, true, true, true, true, true, true, false, true, true, true, false, false, false]) (by kernel_rfl) (by kernel_rfl) ?_
      have hst := st_2_6_9_13 g1 C1A C1c g2 C2A C2c _ (Lib.hid (bel2M HBC.out hbm)) G1 (Lib.hid (C1.out.below hbm (Nat.le_refl _))) (Lib.hid (heapB G2.out hbm)) (Lib.hid (C2.out.below hbm (Nat.le_refl _)))
      rw [hG] at hst
      exact hst
  have st_2_9_13 : ∀ (g1 : Nat) (g2 : Nat) (C2A : Option Addr) (C2c : Nat) (W : World) (HBC : Hid (Below w0.heap.size w0 W)) (G1 : Hid (W.heap[g1]? = some (.cells #[.int .i64 hh] 3 (0, 0)))) (G2 : Hid (W.heap[g2]? = some (.cells #[.int .i64 hn] 3 (0, 0)))) (C2 : Hid (Bs W (.slice C2A hr.length C2c) hr)), G 6 #[true, true, true, false, true, true, false, true, true, true, false, true, true, true, false, false, false] ⟨#[agH hh hp hn hr, .pointer (some ⟨w.heap.size, 0, none⟩), .string ⟨#[]⟩, .pointer (some ⟨w.heap.size, 0, none⟩), .int .i64 hh, .slice (some ⟨g1, 0, none⟩) 1 1, undef, .pointer (some ⟨w.heap.size, 1, none⟩), .string (strB hp), undef, .pointer (some ⟨w.heap.size, 2, none⟩), .int .i64 hn, .slice (some ⟨g2, 0, none⟩) 1 1, undef, .pointer (some ⟨w.heap.size, 3, none⟩), .string (strB hr), .slice C2A hr.length C2c, undef, undef], []⟩ W := by
    intro g1 g2 C2A C2c W HBC G1 G2 C2
    rw [hG]
    have hHeld : ((fun W => W.cell? ⟨w.heap.size, 0, none⟩ = some (.int .i64 hh) ∧ W.cell? ⟨w.heap.size, 1, none⟩ = some (.string (strB hp)) ∧ W.cell? ⟨w.heap.size, 2, none⟩ = some (.int .i64 hn) ∧ W.cell? ⟨w.heap.size, 3, none⟩ = some (.string (strB hr)))) W := HK.out _ HBC.out
    refine wpAnyH_ready (rs := [3, 6]) (by kernel_rfl) (by simp) ?_
    refine AllReadyH.cons (o := ?o55) ?g55 (fun K hK => ?j55) (AllReadyH.cons (o := ?o56) ?g56 (fun K hK => ?j56) AllReadyH.nil)
    case g55 => (simp only [gA, gB, gC]; rfl)
    case g56 => (simp only [gA, gB, gC]; rfl)
    case j55 =>
      go_simp
      (go_at_call 29; refine (HP.out hh _ _ G1.out).mono ?_)
      rintro e wa ⟨va, rfl, hoa, hbm⟩
      obtain ⟨A1, c1, rfl, -⟩ := (own_bs hoa).open
      have F1 := Lib.hid (own_bs hoa)
      refine hK.out _ _ (by (try dsimp only); exact HK.out _ (bel2M HBC.out hbm)) (fun _ => ?_)
      (try simp only [Act.put, sA, sB, sC])
      refine wpAnyH_norm (fuel' := 5) (listed' := #[true, true, true, true, true, true, false, true, true, true, false, true, true, true, false, false, false]) (by kernel_rfl) (by kernel_rfl) ?_
      have hst := st_2_3_9_13 g1 A1 c1 g2 C2A C2c _ (Lib.hid (bel2M HBC.out hbm)) (Lib.hid (heapB G1.out hbm)) F1 (Lib.hid (heapB G2.out hbm)) (Lib.hid (C2.out.below hbm (Nat.le_refl _)))
      rw [hG] at hst
      exact hst
    case j56 =>
      refine step_conv rfl _ 22 29 rfl _ Try.underlying22 Try.underlying29 Try.underlying5 hp rfl (HC1.out) ?_
      intro C1A C1c w' hcs hbm
      have C1 := Lib.hid hcs
      refine hK.out _ _ (by (try dsimp only); exact HK.out _ (bel2M HBC.out hbm)) (fun _ => ?_)
      (try simp only [Act.put, sA, sB, sC])
      refine wpAnyH_norm (fuel' := 5) (listed' := #[true, true, true, false, true, true, true, true, true, true, false, true, true, true, false, false, false]) (by kernel_rfl) (by kernel_rfl) ?_
      have hst := st_2_6_9_13 g1 C1A C1c g2 C2A C2c _ (Lib.hid (bel2M HBC.out hbm)) (Lib.hid (heapB G1.out hbm)) C1 (Lib.hid (heapB G2.out hbm)) (Lib.hid (C2.out.below hbm (Nat.le_refl _)))
      rw [hG] at hst
      exact hst
  have st_2_6_13 : ∀ (g1 : Nat) (C1A : Option Addr) (C1c : Nat) (C2A : Option Addr) (C2c : Nat) (W : World) (HBC : Hid (Below w0.heap.size w0 W)) (G1 : Hid (W.heap[g1]? = some (.cells #[.int .i64 hh] 3 (0, 0)))) (C1 : Hid (Bs W (.slice C1A hp.length C1c) hp)) (C2 : Hid (Bs W (.slice C2A hr.length C2c) hr)), G 6 #[true, true, true, false, true, true, true, true, true, false, false, true, true, true, false, false, false] ⟨#[agH hh hp hn hr, .pointer (some ⟨w.heap.size, 0, none⟩), .string ⟨#[]⟩, .pointer (some ⟨w.heap.size, 0, none⟩), .int .i64 hh, .slice (some ⟨g1, 0, none⟩) 1 1, undef, .pointer (some ⟨w.heap.size, 1, none⟩), .string (strB hp), .slice C1A hp.length C1c, .pointer (some ⟨w.heap.size, 2, none⟩), .int .i64 hn, undef, undef, .pointer (some ⟨w.heap.size, 3, none⟩), .string (strB hr), .slice C2A hr.length C2c, undef, undef], []⟩ W := by
    intro g1 C1A C1c C2A C2c W HBC G1 C1 C2
    rw [hG]
    have hHeld : ((fun W => W.cell? ⟨w.heap.size, 0, none⟩ = some (.int .i64 hh) ∧ W.cell? ⟨w.heap.size, 1, none⟩ = some (.string (strB hp)) ∧ W.cell? ⟨w.heap.size, 2, none⟩ = some (.int .i64 hn) ∧ W.cell? ⟨w.heap.size, 3, none⟩ = some (.string (strB hr)))) W := HK.out _ HBC.out
    refine wpAnyH_ready (rs := [3, 9]) (by kernel_rfl) (by simp) ?_
    refine AllReadyH.cons (o := ?o57) ?g57 (fun K hK => ?j57) (AllReadyH.cons (o := ?o58) ?g58 (fun K hK => ?j58) AllReadyH.nil)
    case g57 => (simp only [gA, gB, gC]; rfl)
    case g58 => (simp only [gA, gB, gC]; rfl)
    case j57 =>
      go_simp
      (go_at_call 29; refine (HP.out hh _ _ G1.out).mono ?_)
      rintro e wa ⟨va, rfl, hoa, hbm⟩
      obtain ⟨A1, c1, rfl, -⟩ := (own_bs hoa).open
      have F1 := Lib.hid (own_bs hoa)
      refine hK.out _ _ (by (try dsimp only); exact HK.out _ (bel2M HBC.out hbm)) (fun _ => ?_)
      (try simp only [Act.put, sA, sB, sC])
      refine wpAnyH_norm (fuel' := 5) (listed' := #[true, true, true, true, true, true, true, true, true, false, false, true, true, true, false, false, false]) (by kernel_rfl) (by kernel_rfl) ?_
      have hst := st_2_3_6_13 g1 A1 c1 C1A C1c C2A C2c _ (Lib.hid (bel2M HBC.out hbm)) (Lib.hid (heapB G1.out hbm)) F1 (Lib.hid (C1.out.below hbm (Nat.le_refl _))) (Lib.hid (C2.out.below hbm (Nat.le_refl _)))
      rw [hG] at hst
      exact hst
    case j58 =>
      refine step_built rfl 84 1 _ rfl #[.int .i64 hn] 3 (fun W => by go_simp) ?_
      intro g2 w' hg hbm hge
      have G2 := Lib.hid hg
      refine hK.out _ _ (by (try dsimp only); exact HK.out _ (bel2M HBC.out hbm)) (fun _ => ?_)
      (try simp only [Act.put, sA, sB, sC])
      refine wpAnyH_norm (fuel' := 5) (listed' := #[true, true, true, false, true, true, true, true, true, true, false, true, true, true, false, false, false]) (by kernel_rfl) (by kernel_rfl) ?_
      have hst := st_2_6_9_13 g1 C1A C1c g2 C2A C2c _ (Lib.hid (bel2M HBC.out hbm)) (Lib.hid (heapB G1.out hbm)) (Lib.hid (C1.out.below hbm (Nat.le_refl _))) G2 (Lib.hid (C2.out.below hbm (Nat.le_refl _)))
      rw [hG] at hst
      exact hst
  have st_2_3_13 : ∀ (g1 : Nat) (A1 : Option Addr) (c1 : Nat) (C2A : Option Addr) (C2c : Nat) (W : World) (HBC : Hid (Below w0.heap.size w0 W)) (G1 : Hid (W.heap[g1]? = some (.cells #[.int .i64 hh] 3 (0, 0)))) (F1 : Hid (Bs W (.slice A1 (i8B hh).length c1) (i8B hh))) (C2 : Hid (Bs W (.slice C2A hr.length C2c) hr)), G 6 #[true, true, true, true, true, true, false, true, true, false, false, true, true, true, false, false, false] ⟨#[agH hh hp hn hr, .pointer (some ⟨w.heap.size, 0, none⟩), .string ⟨#[]⟩, .pointer (some ⟨w.heap.size, 0, none⟩), .int .i64 hh, .slice (some ⟨g1, 0, none⟩) 1 1, .slice A1 (i8B hh).length c1, .pointer (some ⟨w.heap.size, 1, none⟩), .string (strB hp), undef, .pointer (some ⟨w.heap.size, 2, none⟩), .int .i64 hn, undef, undef, .pointer (some ⟨w.heap.size, 3, none⟩), .string (strB hr), .slice C2A hr.length C2c, undef, undef], []⟩ W := by
    intro g1 A1 c1 C2A C2c W HBC G1 F1 C2
    rw [hG]
    have hHeld : ((fun W => W.cell? ⟨w.heap.size, 0, none⟩ = some (.int .i64 hh) ∧ W.cell? ⟨w.heap.size, 1, none⟩ = some (.string (strB hp)) ∧ W.cell? ⟨w.heap.size, 2, none⟩ = some (.int .i64 hn) ∧ W.cell? ⟨w.heap.size, 3, none⟩ = some (.string (strB hr)))) W := HK.out _ HBC.out
    refine wpAnyH_ready (rs := [6, 9]) (by kernel_rfl) (by simp) ?_
    refine AllReadyH.cons (o := ?o59) ?g59 (fun K hK => ?j59) (AllReadyH.cons (o := ?o60) ?g60 (fun K hK => ?j60) AllReadyH.nil)
    case g59 => (simp only [gA, gB, gC]; rfl)
    case g60 => (simp only [gA, gB, gC]; rfl)
    case j59 =>
      refine step_conv rfl _ 22 29 rfl _ Try.underlying22 Try.underlying29 Try.underlying5 hp rfl (HC1.out) ?_
      intro C1A C1c w' hcs hbm
      have C1 := Lib.hid hcs
      refine hK.out _ _ (by (try dsimp only); exact HK.out _ (bel2M HBC.out hbm)) (fun _ => ?_)
      (try simp only [Act.put, sA, sB, sC])
      refine wpAnyH_norm (fuel' := 5) (listed' := #[true, true, true, true, true, true, true, true, true, false, false, true, true, true, false, false, false]) (by kernel_rfl) (by kernel_rfl) ?_
      have hst := st_2_3_6_13 g1 A1 c1 C1A C1c C2A C2c _ (Lib.hid (bel2M HBC.out hbm)) (Lib.hid (heapB G1.out hbm)) (Lib.hid (F1.out.below hbm (Nat.le_refl _))) C1 (Lib.hid (C2.out.below hbm (Nat.le_refl _)))
      rw [hG] at hst
      exact hst
    case j60 =>
      refine step_built rfl 84 1 _ rfl #[.int .i64 hn] 3 (fun W => by go_simp) ?_
      intro g2 w' hg hbm hge
      have G2 := Lib.hid hg
      refine hK.out _ _ (by (try dsimp only); exact HK.out _ (bel2M HBC.out hbm)) (fun _ => ?_)
      (try simp only [Act.put, sA, sB, sC])
      refine wpAnyH_norm (fuel' := 5) (listed' := #[true, true, true, true, true, true, false, true, true, true, false, true, true, true, false, false, false]) (by kernel_rfl) (by kernel_rfl) ?_
      have hst := st_2_3_9_13 g1 A1 c1 g2 C2A C2c _ (Lib.hid (bel2M HBC.out hbm)) (Lib.hid (heapB G1.out hbm)) (Lib.hid (F1.out.below hbm (Nat.le_refl _))) G2 (Lib.hid (C2.out.below hbm (Nat.le_refl _)))
      rw [hG] at hst
      exact hst
  have st_2_6_9 : ∀ (g1 : Nat) (C1A : Option Addr) (C1c : Nat) (g2 : Nat) (W : World) (HBC : Hid (Below w0.heap.size w0 W)) (G1 : Hid (W.heap[g1]? = some (.cells #[.int .i64 hh] 3 (0, 0)))) (C1 : Hid (Bs W (.slice C1A hp.length C1c) hp)) (G2 : Hid (W.heap[g2]? = some (.cells #[.int .i64 hn] 3 (0, 0)))), G 6 #[true, true, true, false, true, true, true, true, true, true, false, true, true, false, false, false, false] ⟨#[agH hh hp hn hr, .pointer (some ⟨w.heap.size, 0, none⟩), .string ⟨#[]⟩, .pointer (some ⟨w.heap.size, 0, none⟩), .int .i64 hh, .slice (some ⟨g1, 0, none⟩) 1 1, undef, .pointer (some ⟨w.heap.size, 1, none⟩), .string (strB hp), .slice C1A hp.length C1c, .pointer (some ⟨w.heap.size, 2, none⟩), .int .i64 hn, .slice (some ⟨g2, 0, none⟩) 1 1, undef, .pointer (some ⟨w.heap.size, 3, none⟩), .string (strB hr), undef, undef, undef], []⟩ W := by
    intro g1 C1A C1c g2 W HBC G1 C1 G2
    rw [hG]
    have hHeld : ((fun W => W.cell? ⟨w.heap.size, 0, none⟩ = some (.int .i64 hh) ∧ W.cell? ⟨w.heap.size, 1, none⟩ = some (.string (strB hp)) ∧ W.cell? ⟨w.heap.size, 2, none⟩ = some (.int .i64 hn) ∧ W.cell? ⟨w.heap.size, 3, none⟩ = some (.string (strB hr)))) W := HK.out _ HBC.out
    refine wpAnyH_ready (rs := [3, 13]) (by kernel_rfl) (by simp) ?_
    refine AllReadyH.cons (o := ?o61) ?g61 (fun K hK => ?j61) (AllReadyH.cons (o := ?o62) ?g62 (fun K hK => ?j62) AllReadyH.nil)
    case g61 => (simp only [gA, gB, gC]; rfl)
    case g62 => (simp only [gA, gB, gC]; rfl)
    case j61 =>
      go_simp
      (go_at_call 29; refine (HP.out hh _ _ G1.out).mono ?_)
      rintro e wa ⟨va, rfl, hoa, hbm⟩
      obtain ⟨A1, c1, rfl, -⟩ := (own_bs hoa).open
      have F1 := Lib.hid (own_bs hoa)
      refine hK.out _ _ (by (try dsimp only); exact HK.out _ (bel2M HBC.out hbm)) (fun _ => ?_)
      (try simp only [Act.put, sA, sB, sC])
      refine wpAnyH_norm (fuel' := 5) (listed' := #[true, true, true, true, true, true, true, true, true, true, false, true, true, false, false, false, false]) (by kernel_rfl) (by kernel_rfl) ?_
      have hst := st_2_3_6_9 g1 A1 c1 C1A C1c g2 _ (Lib.hid (bel2M HBC.out hbm)) (Lib.hid (heapB G1.out hbm)) F1 (Lib.hid (C1.out.below hbm (Nat.le_refl _))) (Lib.hid (heapB G2.out hbm))
      rw [hG] at hst
      exact hst
    case j62 =>
      refine step_conv rfl _ 22 29 rfl _ Try.underlying22 Try.underlying29 Try.underlying5 hr rfl (HC2.out) ?_
      intro C2A C2c w' hcs hbm
      have C2 := Lib.hid hcs
      refine hK.out _ _ (by (try dsimp only); exact HK.out _ (bel2M HBC.out hbm)) (fun _ => ?_)
      (try simp only [Act.put, sA, sB, sC])
      refine wpAnyH_norm (fuel' := 5) (listed' := #[true, true, true, false, true, true, true, true, true, true, false, true, true, true, false, false, false]) (by kernel_rfl) (by kernel_rfl) ?_
      have hst := st_2_6_9_13 g1 C1A C1c g2 C2A C2c _ (Lib.hid (bel2M HBC.out hbm)) (Lib.hid (heapB G1.out hbm)) (Lib.hid (C1.out.below hbm (Nat.le_refl _))) (Lib.hid (heapB G2.out hbm)) C2
      rw [hG] at hst
      exact hst
  have st_2_3_9 : ∀ (g1 : Nat) (A1 : Option Addr) (c1 : Nat) (g2 : Nat) (W : World) (HBC : Hid (Below w0.heap.size w0 W)) (G1 : Hid (W.heap[g1]? = some (.cells #[.int .i64 hh] 3 (0, 0)))) (F1 : Hid (Bs W (.slice A1 (i8B hh).length c1) (i8B hh))) (G2 : Hid (W.heap[g2]? = some (.cells #[.int .i64 hn] 3 (0, 0)))), G 6 #[true, true, true, true, true, true, false, true, true, true, false, true, true, false, false, false, false] ⟨#[agH hh hp hn hr, .pointer (some ⟨w.heap.size, 0, none⟩), .string ⟨#[]⟩, .pointer (some ⟨w.heap.size, 0, none⟩), .int .i64 hh, .slice (some ⟨g1, 0, none⟩) 1 1, .slice A1 (i8B hh).length c1, .pointer (some ⟨w.heap.size, 1, none⟩), .string (strB hp), undef, .pointer (some ⟨w.heap.size, 2, none⟩), .int .i64 hn, .slice (some ⟨g2, 0, none⟩) 1 1, undef, .pointer (some ⟨w.heap.size, 3, none⟩), .string (strB hr), undef, undef, undef], []⟩ W := by
    intro g1 A1 c1 g2 W HBC G1 F1 G2
    rw [hG]
    have hHeld : ((fun W => W.cell? ⟨w.heap.size, 0, none⟩ = some (.int .i64 hh) ∧ W.cell? ⟨w.heap.size, 1, none⟩ = some (.string (strB hp)) ∧ W.cell? ⟨w.heap.size, 2, none⟩ = some (.int .i64 hn) ∧ W.cell? ⟨w.heap.size, 3, none⟩ = some (.string (strB hr)))) W := HK.out _ HBC.out
    refine wpAnyH_ready (rs := [6, 10, 13]) (by kernel_rfl) (by simp) ?_
    refine AllReadyH.cons (o := ?o63) ?g63 (fun K hK => ?j63) (AllReadyH.cons (o := ?o64) ?g64 (fun K hK => ?j64) (AllReadyH.cons (o := ?o65) ?g65 (fun K hK => ?j65) AllReadyH.nil))
    case g63 => (simp only [gA, gB, gC]; rfl)
    case g64 => (simp only [gA, gB, gC]; rfl)
    case g65 => (simp only [gA, gB, gC]; rfl)
    case j63 =>
      refine step_conv rfl _ 22 29 rfl _ Try.underlying22 Try.underlying29 Try.underlying5 hp rfl (HC1.out) ?_
      intro C1A C1c w' hcs hbm
      have C1 := Lib.hid hcs
      refine hK.out _ _ (by (try dsimp only); exact HK.out _ (bel2M HBC.out hbm)) (fun _ => ?_)
      (try simp only [Act.put, sA, sB, sC])
      refine wpAnyH_norm (fuel' := 5) (listed' := #[true, true, true, true, true, true, true, true, true, true, false, true, true, false, false, false, false]) (by kernel_rfl) (by kernel_rfl) ?_
      have hst := st_2_3_6_9 g1 A1 c1 C1A C1c g2 _ (Lib.hid (bel2M HBC.out hbm)) (Lib.hid (heapB G1.out hbm)) (Lib.hid (F1.out.below hbm (Nat.le_refl _))) C1 (Lib.hid (heapB G2.out hbm))
      rw [hG] at hst
      exact hst
    case j64 =>
      go_simp
      (go_at_call 29; refine (HP.out hn _ _ G2.out).mono ?_)
      rintro e wa ⟨va, rfl, hoa, hbm⟩
      obtain ⟨A2, c2, rfl, -⟩ := (own_bs hoa).open
      have F2 := Lib.hid (own_bs hoa)
      refine hK.out _ _ (by (try dsimp only); exact HK.out _ (bel2M HBC.out hbm)) (fun _ => ?_)
      (try simp only [Act.put, sA, sB, sC])
      refine wpAnyH_norm (fuel' := 5) (listed' := #[true, true, true, true, true, true, false, true, true, true, true, true, true, false, false, false, false]) (by kernel_rfl) (by kernel_rfl) ?_
      have hst := st_2_3_9_10 g1 A1 c1 g2 A2 c2 _ (Lib.hid (bel2M HBC.out hbm)) (Lib.hid (heapB G1.out hbm)) (Lib.hid (F1.out.below hbm (Nat.le_refl _))) (Lib.hid (heapB G2.out hbm)) F2
      rw [hG] at hst
      exact hst
    case j65 =>
      refine step_conv rfl _ 22 29 rfl _ Try.underlying22 Try.underlying29 Try.underlying5 hr rfl (HC2.out) ?_
      intro C2A C2c w' hcs hbm
      have C2 := Lib.hid hcs
      refine hK.out _ _ (by (try dsimp only); exact HK.out _ (bel2M HBC.out hbm)) (fun _ => ?_)
      (try simp only [Act.put, sA, sB, sC])
      refine wpAnyH_norm (fuel' := 5) (listed' := #[true, true, true, true, true, true, false, true, true, true, false, true, true, true, false, false, false]) (by kernel_rfl) (by kernel_rfl) ?_
      have hst := st_2_3_9_13 g1 A1 c1 g2 C2A C2c _ (Lib.hid (bel2M HBC.out hbm)) (Lib.hid (heapB G1.out hbm)) (Lib.hid (F1.out.below hbm (Nat.le_refl _))) (Lib.hid (heapB G2.out hbm)) C2
      rw [hG] at hst
      exact hst
  have st_2_3_6 : ∀ (g1 : Nat) (A1 : Option Addr) (c1 : Nat) (C1A : Option Addr) (C1c : Nat) (W : World) (HBC : Hid (Below w0.heap.size w0 W)) (G1 : Hid (W.heap[g1]? = some (.cells #[.int .i64 hh] 3 (0, 0)))) (F1 : Hid (Bs W (.slice A1 (i8B hh).length c1) (i8B hh))) (C1 : Hid (Bs W (.slice C1A hp.length C1c) hp)), G 6 #[true, true, true, true, true, true, true, true, true, false, false, true, true, false, false, false, false] ⟨#[agH hh hp hn hr, .pointer (some ⟨w.heap.size, 0, none⟩), .string ⟨#[]⟩, .pointer (some ⟨w.heap.size, 0, none⟩), .int .i64 hh, .slice (some ⟨g1, 0, none⟩) 1 1, .slice A1 (i8B hh).length c1, .pointer (some ⟨w.heap.size, 1, none⟩), .string (strB hp), .slice C1A hp.length C1c, .pointer (some ⟨w.heap.size, 2, none⟩), .int .i64 hn, undef, undef, .pointer (some ⟨w.heap.size, 3, none⟩), .string (strB hr), undef, undef, undef], []⟩ W := by
    intro g1 A1 c1 C1A C1c W HBC G1 F1 C1
    rw [hG]
    have hHeld : ((fun W => W.cell? ⟨w.heap.size, 0, none⟩ = some (.int .i64 hh) ∧ W.cell? ⟨w.heap.size, 1, none⟩ = some (.string (strB hp)) ∧ W.cell? ⟨w.heap.size, 2, none⟩ = some (.int .i64 hn) ∧ W.cell? ⟨w.heap.size, 3, none⟩ = some (.string (strB hr)))) W := HK.out _ HBC.out
    refine wpAnyH_ready (rs := [9, 13]) (by kernel_rfl) (by simp) ?_
    refine AllReadyH.cons (o := ?o66) ?g66 (fun K hK => ?j66) (AllReadyH.cons (o := ?o67) ?g67 (fun K hK => ?j67) AllReadyH.nil)
    case g66 => (simp only [gA, gB, gC]; rfl)
    case g67 => (simp only [gA, gB, gC]; rfl)
    case j66 =>
      refine step_built rfl 84 1 _ rfl #[.int .i64 hn] 3 (fun W => by go_simp) ?_
      intro g2 w' hg hbm hge
      have G2 := Lib.hid hg
      refine hK.out _ _ (by (try dsimp only); exact HK.out _ (bel2M HBC.out hbm)) (fun _ => ?_)
      (try simp only [Act.put, sA, sB, sC])
      refine wpAnyH_norm (fuel' := 5) (listed' := #[true, true, true, true, true, true, true, true, true, true, false, true, true, false, false, false, false]) (by kernel_rfl) (by kernel_rfl) ?_
      have hst := st_2_3_6_9 g1 A1 c1 C1A C1c g2 _ (Lib.hid (bel2M HBC.out hbm)) (Lib.hid (heapB G1.out hbm)) (Lib.hid (F1.out.below hbm (Nat.le_refl _))) (Lib.hid (C1.out.below hbm (Nat.le_refl _))) G2
      rw [hG] at hst
      exact hst
    case j67 =>
      refine step_conv rfl _ 22 29 rfl _ Try.underlying22 Try.underlying29 Try.underlying5 hr rfl (HC2.out) ?_
      intro C2A C2c w' hcs hbm
      have C2 := Lib.hid hcs
      refine hK.out _ _ (by (try dsimp only); exact HK.out _ (bel2M HBC.out hbm)) (fun _ => ?_)
      (try simp only [Act.put, sA, sB, sC])
      refine wpAnyH_norm (fuel' := 5) (listed' := #[true, true, true, true, true, true, true, true, true, false, false, true, true, true, false, false, false]) (by kernel_rfl) (by kernel_rfl) ?_
      have hst := st_2_3_6_13 g1 A1 c1 C1A C1c C2A C2c _ (Lib.hid (bel2M HBC.out hbm)) (Lib.hid (heapB G1.out hbm)) (Lib.hid (F1.out.below hbm (Nat.le_refl _))) (Lib.hid (C1.out.below hbm (Nat.le_refl _))) C2
      rw [hG] at hst
      exact hst
  have st_9_13 : ∀ (g2 : Nat) (C2A : Option Addr) (C2c : Nat) (W : World) (HBC : Hid (Below w0.heap.size w0 W)) (G2 : Hid (W.heap[g2]? = some (.cells #[.int .i64 hn] 3 (0, 0)))) (C2 : Hid (Bs W (.slice C2A hr.length C2c) hr)), G 7 #[true, true, false, false, true, true, false, true, true, true, false, true, true, true, false, false, false] ⟨#[agH hh hp hn hr, .pointer (some ⟨w.heap.size, 0, none⟩), .string ⟨#[]⟩, .pointer (some ⟨w.heap.size, 0, none⟩), .int .i64 hh, undef, undef, .pointer (some ⟨w.heap.size, 1, none⟩), .string (strB hp), undef, .pointer (some ⟨w.heap.size, 2, none⟩), .int .i64 hn, .slice (some ⟨g2, 0, none⟩) 1 1, undef, .pointer (some ⟨w.heap.size, 3, none⟩), .string (strB hr), .slice C2A hr.length C2c, undef, undef], []⟩ W := by
    intro g2 C2A C2c W HBC G2 C2
    rw [hG]
    have hHeld : ((fun W => W.cell? ⟨w.heap.size, 0, none⟩ = some (.int .i64 hh) ∧ W.cell? ⟨w.heap.size, 1, none⟩ = some (.string (strB hp)) ∧ W.cell? ⟨w.heap.size, 2, none⟩ = some (.int .i64 hn) ∧ W.cell? ⟨w.heap.size, 3, none⟩ = some (.string (strB hr)))) W := HK.out _ HBC.out
    refine wpAnyH_ready (rs := [2, 6]) (by kernel_rfl) (by simp) ?_
    refine AllReadyH.cons (o := ?o68) ?g68 (fun K hK => ?j68) (AllReadyH.cons (o := ?o69) ?g69 (fun K hK => ?j69) AllReadyH.nil)
    case g68 => (simp only [gA, gB, gC]; rfl)
    case g69 => (simp only [gA, gB, gC]; rfl)
    case j68 =>
      refine step_built rfl 84 1 _ rfl #[.int .i64 hh] 3 (fun W => by go_simp) ?_
      intro g1 w' hg hbm hge
      have G1 := Lib.hid hg
      refine hK.out _ _ (by (try dsimp only); exact HK.out _ (bel2M HBC.out hbm)) (fun _ => ?_)
      (try simp only [Act.put, sA, sB, sC])
      refine wpAnyH_norm (fuel' := 6) (listed' := #[true, true, true, false, true, true, false, true, true, true, false, true, true, true, false, false, false]) (by kernel_rfl) (by kernel_rfl) ?_
      have hst := st_2_9_13 g1 g2 C2A C2c _ (Lib.hid (bel2M HBC.out hbm)) G1 (Lib.hid (heapB G2.out hbm)) (Lib.hid (C2.out.below hbm (Nat.le_refl _)))
      rw [hG] at hst
      exact hst
    case j69 =>
      refine step_conv rfl _ 22 29 rfl _ Try.underlying22 Try.underlying29 Try.underlying5 hp rfl (HC1.out) ?_
      intro C1A C1c w' hcs hbm
      have C1 := Lib.hid hcs
      refine hK.out _ _ (by (try dsimp only); exact HK.out _ (bel2M HBC.out hbm)) (fun _ => ?_)
      (try simp only [Act.put, sA, sB, sC])
      refine wpAnyH_norm (fuel' := 6) (listed' := #[true, true, false, false, true, true, true, true, true, true, false, true, true, true, false, false, false]) (by kernel_rfl) (by kernel_rfl) ?_
      have hst := st_6_9_13 C1A C1c g2 C2A C2c _ (Lib.hid (bel2M HBC.out hbm)) C1 (Lib.hid (heapB G2.out hbm)) (Lib.hid (C2.out.below hbm (Nat.le_refl _)))
      rw [hG] at hst
      exact hst
  have st_6_13 : ∀ (C1A : Option Addr) (C1c : Nat) (C2A : Option Addr) (C2c : Nat) (W : World) (HBC : Hid (Below w0.heap.size w0 W)) (C1 : Hid (Bs W (.slice C1A hp.length C1c) hp)) (C2 : Hid (Bs W (.slice C2A hr.length C2c) hr)), G 7 #[true, true, false, false, true, true, true, true, true, false, false, true, true, true, false, false, false] ⟨#[agH hh hp hn hr, .pointer (some ⟨w.heap.size, 0, none⟩), .string ⟨#[]⟩, .pointer (some ⟨w.heap.size, 0, none⟩), .int .i64 hh, undef, undef, .pointer (some ⟨w.heap.size, 1, none⟩), .string (strB hp), .slice C1A hp.length C1c, .pointer (some ⟨w.heap.size, 2, none⟩), .int .i64 hn, undef, undef, .pointer (some ⟨w.heap.size, 3, none⟩), .string (strB hr), .slice C2A hr.length C2c, undef, undef], []⟩ W := by
    intro C1A C1c C2A C2c W HBC C1 C2
    rw [hG]
    have hHeld : ((fun W => W.cell? ⟨w.heap.size, 0, none⟩ = some (.int .i64 hh) ∧ W.cell? ⟨w.heap.size, 1, none⟩ = some (.string (strB hp)) ∧ W.cell? ⟨w.heap.size, 2, none⟩ = some (.int .i64 hn) ∧ W.cell? ⟨w.heap.size, 3, none⟩ = some (.string (strB hr)))) W := HK.out _ HBC.out
    refine wpAnyH_ready (rs := [2, 9]) (by kernel_rfl) (by simp) ?_
    refine AllReadyH.cons (o := ?o70) ?g70 (fun K hK => ?j70) (AllReadyH.cons (o := ?o71) ?g71 (fun K hK => ?j71) AllReadyH.nil)
    case g70 => (simp only [gA, gB, gC]; rfl)
    case g71 => (simp only [gA, gB, gC]; rfl)
    case j70 =>
      refine step_built rfl 84 1 _ rfl #[.int .i64 hh] 3 (fun W => by go_simp) ?_
      intro g1 w' hg hbm hge
      have G1 := Lib.hid hg
      refine hK.out _ _ (by (try dsimp only); exact HK.out _ (bel2M HBC.out hbm)) (fun _ => ?_)
      (try simp only [Act.put, sA, sB, sC])
      refine wpAnyH_norm (fuel' := 6) (listed' := #[true, true, true, false, true, true, true, true, true, false, false, true, true, true, false, false, false]) (by kernel_rfl) (by kernel_rfl) ?_
      have hst := st_2_6_13 g1 C1A C1c C2A C2c _ (Lib.hid (bel2M HBC.out hbm)) G1 (Lib.hid (C1.out.below hbm (Nat.le_refl _))) (Lib.hid (C2.out.below hbm (Nat.le_refl _)))
      rw [hG] at hst
      exact hst
    case j71 =>
      refine step_built rfl 84 1 _ rfl #[.int .i64 hn] 3 (fun W => by go_simp) ?_
      intro g2 w' hg hbm hge
      have G2 := Lib.hid hg
      refine hK.out _ _ (by (try dsimp only); exact HK.out _ (bel2M HBC.out hbm)) (fun _ => ?_)
      (try simp only [Act.put, sA, sB, sC])
      refine wpAnyH_norm (fuel' := 6) (listed' := #[true, true, false, false, true, true, true, true, true, true, false, true, true, true, false, false, false]) (by kernel_rfl) (by kernel_rfl) ?_
      have hst := st_6_9_13 C1A C1c g2 C2A C2c _ (Lib.hid (bel2M HBC.out hbm)) (Lib.hid (C1.out.below hbm (Nat.le_refl _))) G2 (Lib.hid (C2.out.below hbm (Nat.le_refl _)))
      rw [hG] at hst
      exact hst
  have st_2_13 : ∀ (g1 : Nat) (C2A : Option Addr) (C2c : Nat) (W : World) (HBC : Hid (Below w0.heap.size w0 W)) (G1 : Hid (W.heap[g1]? = some (.cells #[.int .i64 hh] 3 (0, 0)))) (C2 : Hid (Bs W (.slice C2A hr.length C2c) hr)), G 7 #[true, true, true, false, true, true, false, true, true, false, false, true, true, true, false, false, false] ⟨#[agH hh hp hn hr, .pointer (some ⟨w.heap.size, 0, none⟩), .string ⟨#[]⟩, .pointer (some ⟨w.heap.size, 0, none⟩), .int .i64 hh, .slice (some ⟨g1, 0, none⟩) 1 1, undef, .pointer (some ⟨w.heap.size, 1, none⟩), .string (strB hp), undef, .pointer (some ⟨w.heap.size, 2, none⟩), .int .i64 hn, undef, undef, .pointer (some ⟨w.heap.size, 3, none⟩), .string (strB hr), .slice C2A hr.length C2c, undef, undef], []⟩ W := by
    intro g1 C2A C2c W HBC G1 C2
    rw [hG]
    have hHeld : ((fun W => W.cell? ⟨w.heap.size, 0, none⟩ = some (.int .i64 hh) ∧ W.cell? ⟨w.heap.size, 1, none⟩ = some (.string (strB hp)) ∧ W.cell? ⟨w.heap.size, 2, none⟩ = some (.int .i64 hn) ∧ W.cell? ⟨w.heap.size, 3, none⟩ = some (.string (strB hr)))) W := HK.out _ HBC.out
    refine wpAnyH_ready (rs := [3, 6, 9]) (by kernel_rfl) (by simp) ?_
    refine AllReadyH.cons (o := ?o72) ?g72 (fun K hK => ?j72) (AllReadyH.cons (o := ?o73) ?g73 (fun K hK => ?j73) (AllReadyH.cons (o := ?o74) ?g74 (fun K hK => ?j74) AllReadyH.nil))
    case g72 => (simp only [gA, gB, gC]; rfl)
    case g73 => (simp only [gA, gB, gC]; rfl)
    case g74 => (simp only [gA, gB, gC]; rfl)
    case j72 =>
      go_simp
      (go_at_call 29; refine (HP.out hh _ _ G1.out).mono ?_)
      rintro e wa ⟨va, rfl, hoa, hbm⟩
      obtain ⟨A1, c1, rfl, -⟩ := (own_bs hoa).open
      have F1 := Lib.hid (own_bs hoa)
      refine hK.out _ _ (by (try dsimp only); exact HK.out _ (bel2M HBC.out hbm)) (fun _ => ?_)
      (try simp only [Act.put, sA, sB, sC])
      refine wpAnyH_norm (fuel' := 6) (listed' := #[true, true, true, true, true, true, false, true, true, false, false, true, true, true, false, false, false]) (by kernel_rfl) (by kernel_rfl) ?_
      have hst := st_2_3_13 g1 A1 c1 C2A C2c _ (Lib.hid (bel2M HBC.out hbm)) (Lib.hid (heapB G1.out hbm)) F1 (Lib.hid (C2.out.below hbm (Nat.le_refl _)))
      rw [hG] at hst
      exact hst
    case j73 =>
      refine step_conv rfl _ 22 29 rfl _ Try.underlying22 Try.underlying29 Try.underlying5 hp rfl (HC1.out) ?_
      intro C1A C1c w' hcs hbm
      have C1 := Lib.hid hcs
      refine hK.out _ _ (by (try dsimp only); exact HK.out _ (bel2M HBC.out hbm)) (fun _ => ?_)
      (try simp only [Act.put, sA, sB, sC])
      refine wpAnyH_norm (fuel' := 6) (listed' := #[true, true, true, false, true, true, true, true, true, false, false, true, true, true, false, false, false]) (by kernel_rfl) (by kernel_rfl) ?_
      have hst := st_2_6_13 g1 C1A C1c C2A C2c _ (Lib.hid (bel2M HBC.out hbm)) (Lib.hid (heapB G1.out hbm)) C1 (Lib.hid (C2.out.below hbm (Nat.le_refl _)))
      rw [hG] at hst
      exact hst
    case j74 =>
      refine step_built rfl 84 1 _ rfl #[.int .i64 hn] 3 (fun W => by go_simp) ?_
      intro g2 w' hg hbm hge
      have G2 := Lib.hid hg
      refine hK.out _ _ (by (try dsimp only); exact HK.out _ (bel2M HBC.out hbm)) (fun _ => ?_)
      (try simp only [Act.put, sA, sB, sC])
      refine wpAnyH_norm (fuel' := 6) (listed' := #[true, true, true, false, true, true, false, true, true, true, false, true, true, true, false, false, false]) (by kernel_rfl) (by kernel_rfl) ?_
      have hst := st_2_9_13 g1 g2 C2A C2c _ (Lib.hid (bel2M HBC.out hbm)) (Lib.hid (heapB G1.out hbm)) G2 (Lib.hid (C2.out.below hbm (Nat.le_refl _)))
      rw [hG] at hst
      exact hst
  have st_6_9 : ∀ (C1A : Option Addr) (C1c : Nat) (g2 : Nat) (W : World) (HBC : Hid (Below w0.heap.size w0 W)) (C1 : Hid (Bs W (.slice C1A hp.length C1c) hp)) (G2 : Hid (W.heap[g2]? = some (.cells #[.int .i64 hn] 3 (0, 0)))), G 7 #[true, true, false, false, true, true, true, true, true, true, false, true, true, false, false, false, false] ⟨#[agH hh hp hn hr, .pointer (some ⟨w.heap.size, 0, none⟩), .string ⟨#[]⟩, .pointer (some ⟨w.heap.size, 0, none⟩), .int .i64 hh, undef, undef, .pointer (some ⟨w.heap.size, 1, none⟩), .string (strB hp), .slice C1A hp.length C1c, .pointer (some ⟨w.heap.size, 2, none⟩), .int .i64 hn, .slice (some ⟨g2, 0, none⟩) 1 1, undef, .pointer (some ⟨w.heap.size, 3, none⟩), .string (strB hr), undef, undef, undef], []⟩ W := by
    intro C1A C1c g2 W HBC C1 G2
    rw [hG]
    have hHeld : ((fun W => W.cell? ⟨w.heap.size, 0, none⟩ = some (.int .i64 hh) ∧ W.cell? ⟨w.heap.size, 1, none⟩ = some (.string (strB hp)) ∧ W.cell? ⟨w.heap.size, 2, none⟩ = some (.int .i64 hn) ∧ W.cell? ⟨w.heap.size, 3, none⟩ = some (.string (strB hr)))) W := HK.out _ HBC.out
    refine wpAnyH_ready (rs := [2, 13]) (by kernel_rfl) (by simp) ?_
    refine AllReadyH.cons (o := ?o75) ?g75 (fun K hK => ?j75) (AllReadyH.cons (o := ?o76) ?g76 (fun K hK => ?j76) AllReadyH.nil)
    case g75 => (simp only [gA, gB, gC]; rfl)
    case g76 => (simp only [gA, gB, gC]; rfl)
    case j75 =>
      refine step_built rfl 84 1 _ rfl #[.int .i64 hh] 3 (fun W => by go_simp) ?_
      intro g1 w' hg hbm hge
      have G1 := Lib.hid hg
      refine hK.out _ _ (by (try dsimp only); exact HK.out _ (bel2M HBC.out hbm)) (fun _ => ?_)
      (try simp only [Act.put, sA, sB, sC])
      refine wpAnyH_norm (fuel' := 6) (listed' := #[true, true, true, false, true, true, true, true, true, true, false, true, true, false, false, false, false]) (by kernel_rfl) (by kernel_rfl) ?_
      have hst := st_2_6_9 g1 C1A C1c g2 _ (Lib.hid (bel2M HBC.out hbm)) G1 (Lib.hid (C1.out.below hbm (Nat.le_refl _))) (Lib.hid (heapB G2.out hbm))
      rw [hG] at hst
      exact hst
    case j76 =>
      refine step_conv rfl _ 22 29 rfl _ Try.underlying22 Try.underlying29 Try.underlying5 hr rfl (HC2.out) ?_
      intro C2A C2c w' hcs hbm
      have C2 := Lib.hid hcs
      refine hK.out _ _ (by (try dsimp only); exact HK.out _ (bel2M HBC.out hbm)) (fun _ => ?_)
      (try simp only [Act.put, sA, sB, sC])
      refine wpAnyH_norm (fuel' := 6) (listed' := #[true, true, false, false, true, true, true, true, true, true, false, true, true, true, false, false, false]) (by kernel_rfl) (by kernel_rfl) ?_
      have hst := st_6_9_13 C1A C1c g2 C2A C2c _ (Lib.hid (bel2M HBC.out hbm)) (Lib.hid (C1.out.below hbm (Nat.le_refl _))) (Lib.hid (heapB G2.out hbm)) C2
      rw [hG] at hst
      exact hst
  have st_2_9 : ∀ (g1 : Nat) (g2 : Nat) (W : World) (HBC : Hid (Below w0.heap.size w0 W)) (G1 : Hid (W.heap[g1]? = some (.cells #[.int .i64 hh] 3 (0, 0)))) (G2 : Hid (W.heap[g2]? = some (.cells #[.int .i64 hn] 3 (0, 0)))), G 7 #[true, true, true, false, true, true, false, true, true, true, false, true, true, false, false, false, false] ⟨#[agH hh hp hn hr, .pointer (some ⟨w.heap.size, 0, none⟩), .string ⟨#[]⟩, .pointer (some ⟨w.heap.size, 0, none⟩), .int .i64 hh, .slice (some ⟨g1, 0, none⟩) 1 1, undef, .pointer (some ⟨w.heap.size, 1, none⟩), .string (strB hp), undef, .pointer (some ⟨w.heap.size, 2, none⟩), .int .i64 hn, .slice (some ⟨g2, 0, none⟩) 1 1, undef, .pointer (some ⟨w.heap.size, 3, none⟩), .string (strB hr), undef, undef, undef], []⟩ W := by
    intro g1 g2 W HBC G1 G2
    rw [hG]
    have hHeld : ((fun W => W.cell? ⟨w.heap.size, 0, none⟩ = some (.int .i64 hh) ∧ W.cell? ⟨w.heap.size, 1, none⟩ = some (.string (strB hp)) ∧ W.cell? ⟨w.heap.size, 2, none⟩ = some (.int .i64 hn) ∧ W.cell? ⟨w.heap.size, 3, none⟩ = some (.string (strB hr)))) W := HK.out _ HBC.out
    refine wpAnyH_ready (rs := [3, 6, 13]) (by kernel_rfl) (by simp) ?_
    refine AllReadyH.cons (o := ?o77) ?g77 (fun K hK => ?j77) (AllReadyH.cons (o := ?o78) ?g78 (fun K hK => ?j78) (AllReadyH.cons (o := ?o79) ?g79 (fun K hK => ?j79) AllReadyH.nil))
    case g77 => (simp only [gA, gB, gC]; rfl)
    case g78 => (simp only [gA, gB, gC]; rfl)
    case g79 => (simp only [gA, gB, gC]; rfl)
    case j77 =>
      go_simp
      (go_at_call 29; refine (HP.out hh _ _ G1.out).mono ?_)
      rintro e wa ⟨va, rfl, hoa, hbm⟩
      obtain ⟨A1, c1, rfl, -⟩ := (own_bs hoa).open
      have F1 := Lib.hid (own_bs hoa)
      refine hK.out _ _ (by (try dsimp only); exact HK.out _ (bel2M HBC.out hbm)) (fun _ => ?_)
      (try simp only [Act.put, sA, sB, sC])
      refine wpAnyH_norm (fuel' := 6) (listed' := #[true, true, true, true, true, true, false, true, true, true, false, true, true, false, false, false, false]) (by kernel_rfl) (by kernel_rfl) ?_
      have hst := st_2_3_9 g1 A1 c1 g2 _ (Lib.hid (bel2M HBC.out hbm)) (Lib.hid (heapB G1.out hbm)) F1 (Lib.hid (heapB G2.out hbm))
      rw [hG] at hst
      exact hst
    case j78 =>
      refine step_conv rfl _ 22 29 rfl _ Try.underlying22 Try.underlying29 Try.underlying5 hp rfl (HC1.out) ?_
      intro C1A C1c w' hcs hbm
      have C1 := Lib.hid hcs
      refine hK.out _ _ (by (try dsimp only); exact HK.out _ (bel2M HBC.out hbm)) (fun _ => ?_)
      (try simp only [Act.put, sA, sB, sC])
      refine wpAnyH_norm (fuel' := 6) (listed' := #[true, true, true, false, true, true, true, true, true, true, false, true, true, false, false, false, false]) (by kernel_rfl) (by kernel_rfl) ?_
      have hst := st_2_6_9 g1 C1A C1c g2 _ (Lib.hid (bel2M HBC.out hbm)) (Lib.hid (heapB G1.out hbm)) C1 (Lib.hid (heapB G2.out hbm))
      rw [hG] at hst
      exact hst
    case j79 =>
      refine step_conv rfl _ 22 29 rfl _ Try.underlying22 Try.underlying29 Try.underlying5 hr rfl (HC2.out) ?_
      intro C2A C2c w' hcs hbm
      have C2 := Lib.hid hcs
      refine hK.out _ _ (by (try dsimp only); exact HK.out _ (bel2M HBC.out hbm)) (fun _ => ?_)
      (try simp only [Act.put, sA, sB, sC])
      refine wpAnyH_norm (fuel' := 6) (listed' := #[true, true, true, false, true, true, false, true, true, true, false, true, true, true, false, false, false]) (by kernel_rfl) (by kernel_rfl) ?_
      have hst := st_2_9_13 g1 g2 C2A C2c _ (Lib.hid (bel2M HBC.out hbm)) (Lib.hid (heapB G1.out hbm)) (Lib.hid (heapB G2.out hbm)) C2
      rw [hG] at hst
      exact hst
  have st_2_6 : ∀ (g1 : Nat) (C1A : Option Addr) (C1c : Nat) (W : World) (HBC : Hid (Below w0.heap.size w0 W)) (G1 : Hid (W.heap[g1]? = some (.cells #[.int .i64 hh] 3 (0, 0)))) (C1 : Hid (Bs W (.slice C1A hp.length C1c) hp)), G 7 #[true, true, true, false, true, true, true, true, true, false, false, true, true, false, false, false, false] ⟨#[agH hh hp hn hr, .pointer (some ⟨w.heap.size, 0, none⟩), .string ⟨#[]⟩, .pointer (some ⟨w.heap.size, 0, none⟩), .int .i64 hh, .slice (some ⟨g1, 0, none⟩) 1 1, undef, .pointer (some ⟨w.heap.size, 1, none⟩), .string (strB hp), .slice C1A hp.length C1c, .pointer (some ⟨w.heap.size, 2, none⟩), .int .i64 hn, undef, undef, .pointer (some ⟨w.heap.size, 3, none⟩), .string (strB hr), undef, undef, undef], []⟩ W := by
    intro g1 C1A C1c W HBC G1 C1
    rw [hG]
    have hHeld : ((fun W => W.cell? ⟨w.heap.size, 0, none⟩ = some (.int .i64 hh) ∧ W.cell? ⟨w.heap.size, 1, none⟩ = some (.string (strB hp)) ∧ W.cell? ⟨w.heap.size, 2, none⟩ = some (.int .i64 hn) ∧ W.cell? ⟨w.heap.size, 3, none⟩ = some (.string (strB hr)))) W := HK.out _ HBC.out
    refine wpAnyH_ready (rs := [3, 9, 13]) (by kernel_rfl) (by simp) ?_
    refine AllReadyH.cons (o := ?o80) ?g80 (fun K hK => ?j80) (AllReadyH.cons (o := ?o81) ?g81 (fun K hK => ?j81) (AllReadyH.cons (o := ?o82) ?g82 (fun K hK => ?j82) AllReadyH.nil))
    case g80 => (simp only [gA, gB, gC]; rfl)
    case g81 => (simp only [gA, gB, gC]; rfl)
    case g82 => (simp only [gA, gB, gC]; rfl)
    case j80 =>
      go_simp
      (go_at_call 29; refine (HP.out hh _ _ G1.out).mono ?_)
      rintro e wa ⟨va, rfl, hoa, hbm⟩
      obtain ⟨A1, c1, rfl, -⟩ := (own_bs hoa).open
      have F1 := Lib.hid (own_bs hoa)
      refine hK.out _ _ (by (try dsimp only); exact HK.out _ (bel2M HBC.out hbm)) (fun _ => ?_)
      (try simp only [Act.put, sA, sB, sC])
      refine wpAnyH_norm (fuel' := 6) (listed' := #[true, true, true, true, true, true, true, true, true, false, false, true, true, false, false, false, false]) (by kernel_rfl) (by kernel_rfl) ?_
      have hst := st_2_3_6 g1 A1 c1 C1A C1c _ (Lib.hid (bel2M HBC.out hbm)) (Lib.hid (heapB G1.out hbm)) F1 (Lib.hid (C1.out.below hbm (Nat.le_refl _)))
      rw [hG] at hst
      exact hst
    case j81 =>
      refine step_built rfl 84 1 _ rfl #[.int .i64 hn] 3 (fun W => by go_simp) ?_
      intro g2 w' hg hbm hge
      have G2 := Lib.hid hg
      refine hK.out _ _ (by (try dsimp only); exact HK.out _ (bel2M HBC.out hbm)) (fun _ => ?_)
      (try simp only [Act.put, sA, sB, sC])
      refine wpAnyH_norm (fuel' := 6) (listed' := #[true, true, true, false, true, true, true, true, true, true, false, true, true, false, false, false, false]) (by kernel_rfl) (by kernel_rfl) ?_
      have hst := st_2_6_9 g1 C1A C1c g2 _ (Lib.hid (bel2M HBC.out hbm)) (Lib.hid (heapB G1.out hbm)) (Lib.hid (C1.out.below hbm (Nat.le_refl _))) G2
      rw [hG] at hst
      exact hst
    case j82 =>
      refine step_conv rfl _ 22 29 rfl _ Try.underlying22 Try.underlying29 Try.underlying5 hr rfl (HC2.out) ?_
      intro C2A C2c w' hcs hbm
      have C2 := Lib.hid hcs
      refine hK.out _ _ (by (try dsimp only); exact HK.out _ (bel2M HBC.out hbm)) (fun _ => ?_)
      (try simp only [Act.put, sA, sB, sC])
      refine wpAnyH_norm (fuel' := 6) (listed' := #[true, true, true, false, true, true, true, true, true, false, false, true, true, true, false, false, false]) (by kernel_rfl) (by kernel_rfl) ?_
      have hst := st_2_6_13 g1 C1A C1c C2A C2c _ (Lib.hid (bel2M HBC.out hbm)) (Lib.hid (heapB G1.out hbm)) (Lib.hid (C1.out.below hbm (Nat.le_refl _))) C2
      rw [hG] at hst
      exact hst
  have st_2_3 : ∀ (g1 : Nat) (A1 : Option Addr) (c1 : Nat) (W : World) (HBC : Hid (Below w0.heap.size w0 W)) (G1 : Hid (W.heap[g1]? = some (.cells #[.int .i64 hh] 3 (0, 0)))) (F1 : Hid (Bs W (.slice A1 (i8B hh).length c1) (i8B hh))), G 7 #[true, true, true, true, true, true, false, true, true, false, false, true, true, false, false, false, false] ⟨#[agH hh hp hn hr, .pointer (some ⟨w.heap.size, 0, none⟩), .string ⟨#[]⟩, .pointer (some ⟨w.heap.size, 0, none⟩), .int .i64 hh, .slice (some ⟨g1, 0, none⟩) 1 1, .slice A1 (i8B hh).length c1, .pointer (some ⟨w.heap.size, 1, none⟩), .string (strB hp), undef, .pointer (some ⟨w.heap.size, 2, none⟩), .int .i64 hn, undef, undef, .pointer (some ⟨w.heap.size, 3, none⟩), .string (strB hr), undef, undef, undef], []⟩ W := by
    intro g1 A1 c1 W HBC G1 F1
    rw [hG]
    have hHeld : ((fun W => W.cell? ⟨w.heap.size, 0, none⟩ = some (.int .i64 hh) ∧ W.cell? ⟨w.heap.size, 1, none⟩ = some (.string (strB hp)) ∧ W.cell? ⟨w.heap.size, 2, none⟩ = some (.int .i64 hn) ∧ W.cell? ⟨w.heap.size, 3, none⟩ = some (.string (strB hr)))) W := HK.out _ HBC.out
    refine wpAnyH_ready (rs := [6, 9, 13]) (by kernel_rfl) (by simp) ?_
    refine AllReadyH.cons (o := ?o83) ?g83 (fun K hK => ?j83) (AllReadyH.cons (o := ?o84) ?g84 (fun K hK => ?j84) (AllReadyH.cons (o := ?o85) ?g85 (fun K hK => ?j85) AllReadyH.nil))
    case g83 => (simp only [gA, gB, gC]; rfl)
    case g84 => (simp only [gA, gB, gC]; rfl)
    case g85 => (simp only [gA, gB, gC]; rfl)
    case j83 =>
      refine step_conv rfl _ 22 29 rfl _ Try.underlying22 Try.underlying29 Try.underlying5 hp rfl (HC1.out) ?_
      intro C1A C1c w' hcs hbm
      have C1 := Lib.hid hcs
      refine hK.out _ _ (by (try dsimp only); exact HK.out _ (bel2M HBC.out hbm)) (fun _ => ?_)
      (try simp only [Act.put, sA, sB, sC])
      refine wpAnyH_norm (fuel' := 6) (listed' := #[true, true, true, true, true, true, true, true, true, false, false, true, true, false, false, false, false]) (by kernel_rfl) (by kernel_rfl) ?_
      have hst := st_2_3_6 g1 A1 c1 C1A C1c _ (Lib.hid (bel2M HBC.out hbm)) (Lib.hid (heapB G1.out hbm)) (Lib.hid (F1.out.below hbm (Nat.le_refl _))) C1
      rw [hG] at hst
      exact hst
    case j84 =>
      refine step_built rfl 84 1 _ rfl #[.int .i64 hn] 3 (fun W => by go_simp) ?_
      intro g2 w' hg hbm hge
      have G2 := Lib.hid hg
      refine hK.out _ _ (by (try dsimp only); exact HK.out _ (bel2M HBC.out hbm)) (fun _ => ?_)
      (try simp only [Act.put, sA, sB, sC])
      refine wpAnyH_norm (fuel' := 6) (listed' := #[true, true, true, true, true, true, false, true, true, true, false, true, true, false, false, false, false]) (by kernel_rfl) (by kernel_rfl) ?_
      have hst := st_2_3_9 g1 A1 c1 g2 _ (Lib.hid (bel2M HBC.out hbm)) (Lib.hid (heapB G1.out hbm)) (Lib.hid (F1.out.below hbm (Nat.le_refl _))) G2
      rw [hG] at hst
      exact hst
    case j85 =>
      refine step_conv rfl _ 22 29 rfl _ Try.underlying22 Try.underlying29 Try.underlying5 hr rfl (HC2.out) ?_
      intro C2A C2c w' hcs hbm
      have C2 := Lib.hid hcs
      refine hK.out _ _ (by (try dsimp only); exact HK.out _ (bel2M HBC.out hbm)) (fun _ => ?_)
      (try simp only [Act.put, sA, sB, sC])
      refine wpAnyH_norm (fuel' := 6) (listed' := #[true, true, true, true, true, true, false, true, true, false, false, true, true, true, false, false, false]) (by kernel_rfl) (by kernel_rfl) ?_
      have hst := st_2_3_13 g1 A1 c1 C2A C2c _ (Lib.hid (bel2M HBC.out hbm)) (Lib.hid (heapB G1.out hbm)) (Lib.hid (F1.out.below hbm (Nat.le_refl _))) C2
      rw [hG] at hst
      exact hst
  have st_13 : ∀ (C2A : Option Addr) (C2c : Nat) (W : World) (HBC : Hid (Below w0.heap.size w0 W)) (C2 : Hid (Bs W (.slice C2A hr.length C2c) hr)), G 8 #[true, true, false, false, true, true, false, true, true, false, false, true, true, true, false, false, false] ⟨#[agH hh hp hn hr, .pointer (some ⟨w.heap.size, 0, none⟩), .string ⟨#[]⟩, .pointer (some ⟨w.heap.size, 0, none⟩), .int .i64 hh, undef, undef, .pointer (some ⟨w.heap.size, 1, none⟩), .string (strB hp), undef, .pointer (some ⟨w.heap.size, 2, none⟩), .int .i64 hn, undef, undef, .pointer (some ⟨w.heap.size, 3, none⟩), .string (strB hr), .slice C2A hr.length C2c, undef, undef], []⟩ W := by
    intro C2A C2c W HBC C2
    rw [hG]
    have hHeld : ((fun W => W.cell? ⟨w.heap.size, 0, none⟩ = some (.int .i64 hh) ∧ W.cell? ⟨w.heap.size, 1, none⟩ = some (.string (strB hp)) ∧ W.cell? ⟨w.heap.size, 2, none⟩ = some (.int .i64 hn) ∧ W.cell? ⟨w.heap.size, 3, none⟩ = some (.string (strB hr)))) W := HK.out _ HBC.out
    refine wpAnyH_ready (rs := [2, 6, 9]) (by kernel_rfl) (by simp) ?_
    refine AllReadyH.cons (o := ?o86) ?g86 (fun K hK => ?j86) (AllReadyH.cons (o := ?o87) ?g87 (fun K hK => ?j87) (AllReadyH.cons (o := ?o88) ?g88 (fun K hK => ?j88) AllReadyH.nil))
    case g86 => (simp only [gA, gB, gC]; rfl)
    case g87 => (simp only [gA, gB, gC]; rfl)
    case g88 => (simp only [gA, gB, gC]; rfl)
    case j86 =>
      refine step_built rfl 84 1 _ rfl #[.int .i64 hh] 3 (fun W => by go_simp) ?_
      intro g1 w' hg hbm hge
      have G1 := Lib.hid hg
      refine hK.out _ _ (by (try dsimp only); exact HK.out _ (bel2M HBC.out hbm)) (fun _ => ?_)
      (try simp only [Act.put, sA, sB, sC])
      refine wpAnyH_norm (fuel' := 7) (listed' := #[true, true, true, false, true, true, false, true, true, false, false, true, true, true, false, false, false]) (by kernel_rfl) (by kernel_rfl) ?_
      have hst := st_2_13 g1 C2A C2c _ (Lib.hid (bel2M HBC.out hbm)) G1 (Lib.hid (C2.out.below hbm (Nat.le_refl _)))
      rw [hG] at hst
      exact hst
    case j87 =>
      refine step_conv rfl _ 22 29 rfl _ Try.underlying22 Try.underlying29 Try.underlying5 hp rfl (HC1.out) ?_
      intro C1A C1c w' hcs hbm
      have C1 := Lib.hid hcs
      refine hK.out _ _ (by (try dsimp only); exact HK.out _ (bel2M HBC.out hbm)) (fun _ => ?_)
      (try simp only [Act.put, sA, sB, sC])
      refine wpAnyH_norm (fuel' := 7) (listed' := #[true, true, false, false, true, true, true, true, true, false, false, true, true, true, false, false, false]) (by kernel_rfl) (by kernel_rfl) ?_
      have hst := st_6_13 C1A C1c C2A C2c _ (Lib.hid (bel2M HBC.out hbm)) C1 (Lib.hid (C2.out.below hbm (Nat.le_refl _)))
      rw [hG] at hst
      exact hst
    case j88 =>
      refine step_built rfl 84 1 _ rfl #[.int .i64 hn] 3 (fun W => by go_simp) ?_
      intro g2 w' hg hbm hge
      have G2 := Lib.hid hg
      refine hK.out _ _ (by (try dsimp only); exact HK.out _ (bel2M HBC.out hbm)) (fun _ => ?_)
      (try simp only [Act.put, sA, sB, sC])
      refine wpAnyH_norm (fuel' := 7) (listed' := #[true, true, false, false, true, true, false, true, true, true, false, true, true, true, false, false, false]) (by kernel_rfl) (by kernel_rfl) ?_
      have hst := st_9_13 g2 C2A C2c _ (Lib.hid (bel2M HBC.out hbm)) G2 (Lib.hid (C2.out.below hbm (Nat.le_refl _)))
      rw [hG] at hst
      exact hst
  have st_9 : ∀ (g2 : Nat) (W : World) (HBC : Hid (Below w0.heap.size w0 W)) (G2 : Hid (W.heap[g2]? = some (.cells #[.int .i64 hn] 3 (0, 0)))), G 8 #[true, true, false, false, true, true, false, true, true, true, false, true, true, false, false, false, false] ⟨#[agH hh hp hn hr, .pointer (some ⟨w.heap.size, 0, none⟩), .string ⟨#[]⟩, .pointer (some ⟨w.heap.size, 0, none⟩), .int .i64 hh, undef, undef, .pointer (some ⟨w.heap.size, 1, none⟩), .string (strB hp), undef, .pointer (some ⟨w.heap.size, 2, none⟩), .int .i64 hn, .slice (some ⟨g2, 0, none⟩) 1 1, undef, .pointer (some ⟨w.heap.size, 3, none⟩), .string (strB hr), undef, undef, undef], []⟩ W := by
    intro g2 W HBC G2
    rw [hG]
    have hHeld : ((fun W => W.cell? ⟨w.heap.size, 0, none⟩ = some (.int .i64 hh) ∧ W.cell? ⟨w.heap.size, 1, none⟩ = some (.string (strB hp)) ∧ W.cell? ⟨w.heap.size, 2, none⟩ = some (.int .i64 hn) ∧ W.cell? ⟨w.heap.size, 3, none⟩ = some (.string (strB hr)))) W := HK.out _ HBC.out
    refine wpAnyH_ready (rs := [2, 6, 13]) (by kernel_rfl) (by simp) ?_
    refine AllReadyH.cons (o := ?o89) ?g89 (fun K hK => ?j89) (AllReadyH.cons (o := ?o90) ?g90 (fun K hK => ?j90) (AllReadyH.cons (o := ?o91) ?g91 (fun K hK => ?j91) AllReadyH.nil))
    case g89 => (simp only [gA, gB, gC]; rfl)
    case g90 => (simp only [gA, gB, gC]; rfl)
    case g91 => (simp only [gA, gB, gC]; rfl)
    case j89 =>
      refine step_built rfl 84 1 _ rfl #[.int .i64 hh] 3 (fun W => by go_simp) ?_
      intro g1 w' hg hbm hge
      have G1 := Lib.hid hg
      refine hK.out _ _ (by (try dsimp only); exact HK.out _ (bel2M HBC.out hbm)) (fun _ => ?_)
      (try simp only [Act.put, sA, sB, sC])
      refine wpAnyH_norm (fuel' := 7) (listed' := #[true, true, true, false, true, true, false, true, true, true, false, true, true, false, false, false, false]) (by kernel_rfl) (by kernel_rfl) ?_
      have hst := st_2_9 g1 g2 _ (Lib.hid (bel2M HBC.out hbm)) G1 (Lib.hid (heapB G2.out hbm))
      rw [hG] at hst
      exact hst
    case j90 =>
      refine step_conv rfl _ 22 29 rfl _ Try.underlying22 Try.underlying29 Try.underlying5 hp rfl (HC1.out) ?_
      intro C1A C1c w' hcs hbm
      have C1 := Lib.hid hcs
      refine hK.out _ _ (by (try dsimp only); exact HK.out _ (bel2M HBC.out hbm)) (fun _ => ?_)
      (try simp only [Act.put, sA, sB, sC])
      refine wpAnyH_norm (fuel' := 7) (listed' := #[true, true, false, false, true, true, true, true, true, true, false, true, true, false, false, false, false]) (by kernel_rfl) (by kernel_rfl) ?_
      have hst := st_6_9 C1A C1c g2 _ (Lib.hid (bel2M HBC.out hbm)) C1 (Lib.hid (heapB G2.out hbm))
      rw [hG] at hst
      exact hst
    case j91 =>
      refine step_conv rfl _ 22 29 rfl _ Try.underlying22 Try.underlying29 Try.underlying5 hr rfl (HC2.out) ?_
      intro C2A C2c w' hcs hbm
      have C2 := Lib.hid hcs
      refine hK.out _ _ (by (try dsimp only); exact HK.out _ (bel2M HBC.out hbm)) (fun _ => ?_)
      (try simp only [Act.put, sA, sB, sC])
      refine wpAnyH_norm (fuel' := 7) (listed' := #[true, true, false, false, true, true, false, true, true, true, false, true, true, true, false, false, false]) (by kernel_rfl) (by kernel_rfl) ?_
      have hst := st_9_13 g2 C2A C2c _ (Lib.hid (bel2M HBC.out hbm)) (Lib.hid (heapB G2.out hbm)) C2
      rw [hG] at hst
      exact hst
  have st_6 : ∀ (C1A : Option Addr) (C1c : Nat) (W : World) (HBC : Hid (Below w0.heap.size w0 W)) (C1 : Hid (Bs W (.slice C1A hp.length C1c) hp)), G 8 #[true, true, false, false, true, true, true, true, true, false, false, true, true, false, false, false, false] ⟨#[agH hh hp hn hr, .pointer (some ⟨w.heap.size, 0, none⟩), .string ⟨#[]⟩, .pointer (some ⟨w.heap.size, 0, none⟩), .int .i64 hh, undef, undef, .pointer (some ⟨w.heap.size, 1, none⟩), .string (strB hp), .slice C1A hp.length C1c, .pointer (some ⟨w.heap.size, 2, none⟩), .int .i64 hn, undef, undef, .pointer (some ⟨w.heap.size, 3, none⟩), .string (strB hr), undef, undef, undef], []⟩ W := by
    intro C1A C1c W HBC C1
    rw [hG]
    have hHeld : ((fun W => W.cell? ⟨w.heap.size, 0, none⟩ = some (.int .i64 hh) ∧ W.cell? ⟨w.heap.size, 1, none⟩ = some (.string (strB hp)) ∧ W.cell? ⟨w.heap.size, 2, none⟩ = some (.int .i64 hn) ∧ W.cell? ⟨w.heap.size, 3, none⟩ = some (.string (strB hr)))) W := HK.out _ HBC.out
    refine wpAnyH_ready (rs := [2, 9, 13]) (by kernel_rfl) (by simp) ?_
    refine AllReadyH.cons (o := ?o92) ?g92 (fun K hK => ?j92) (AllReadyH.cons (o := ?o93) ?g93 (fun K hK => ?j93) (AllReadyH.cons (o := ?o94) ?g94 (fun K hK => ?j94) AllReadyH.nil))
    case g92 => (simp only [gA, gB, gC]; rfl)
    case g93 => (simp only [gA, gB, gC]; rfl)
    case g94 => (simp only [gA, gB, gC]; rfl)
    case j92 =>
      refine step_built rfl 84 1 _ rfl #[.int .i64 hh] 3 (fun W => by go_simp) ?_
      intro g1 w' hg hbm hge
      have G1 := Lib.hid hg
      refine hK.out _ _ (by (try dsimp only); exact HK.out _ (bel2M HBC.out hbm)) (fun _ => ?_)
      (try simp only [Act.put, sA, sB, sC])
      refine wpAnyH_norm (fuel' := 7) (listed' := #[true, true, true, false, true, true, true, true, true, false, false, true, true, false, false, false, false]) (by kernel_rfl) (by kernel_rfl) ?_
      have hst := st_2_6 g1 C1A C1c _ (Lib.hid (bel2M HBC.out hbm)) G1 (Lib.hid (C1.out.below hbm (Nat.le_refl _)))
      rw [hG] at hst
      exact hst
    case j93 =>
      refine step_built rfl 84 1 _ rfl #[.int .i64 hn] 3 (fun W => by go_simp) ?_
      intro g2 w' hg hbm hge
      have G2 := Lib.hid hg
      refine hK.out _ _ (by (try dsimp only); exact HK.out _ (bel2M HBC.out hbm)) (fun _ => ?_)
      (try simp only [Act.put, sA, sB, sC])
      refine wpAnyH_norm (fuel' := 7) (listed' := #[true, true, false, false, true, true, true, true, true, true, false, true, true, false, false, false, false]) (by kernel_rfl) (by kernel_rfl) ?_
      have hst := st_6_9 C1A C1c g2 _ (Lib.hid (bel2M HBC.out hbm)) (Lib.hid (C1.out.below hbm (Nat.le_refl _))) G2
      rw [hG] at hst
      exact hst
    case j94 =>
      refine step_conv rfl _ 22 29 rfl _ Try.underlying22 Try.underlying29 Try.underlying5 hr rfl (HC2.out) ?_
      intro C2A C2c w' hcs hbm
      have C2 := Lib.hid hcs
      refine hK.out _ _ (by (try dsimp only); exact HK.out _ (bel2M HBC.out hbm)) (fun _ => ?_)
      (try simp only [Act.put, sA, sB, sC])
      refine wpAnyH_norm (fuel' := 7) (listed' := #[true, true, false, false, true, true, true, true, true, false, false, true, true, true, false, false, false]) (by kernel_rfl) (by kernel_rfl) ?_
      have hst := st_6_13 C1A C1c C2A C2c _ (Lib.hid (bel2M HBC.out hbm)) (Lib.hid (C1.out.below hbm (Nat.le_refl _))) C2
      rw [hG] at hst
      exact hst
  have st_2 : ∀ (g1 : Nat) (W : World) (HBC : Hid (Below w0.heap.size w0 W)) (G1 : Hid (W.heap[g1]? = some (.cells #[.int .i64 hh] 3 (0, 0)))), G 8 #[true, true, true, false, true, true, false, true, true, false, false, true, true, false, false, false, false] ⟨#[agH hh hp hn hr, .pointer (some ⟨w.heap.size, 0, none⟩), .string ⟨#[]⟩, .pointer (some ⟨w.heap.size, 0, none⟩), .int .i64 hh, .slice (some ⟨g1, 0, none⟩) 1 1, undef, .pointer (some ⟨w.heap.size, 1, none⟩), .string (strB hp), undef, .pointer (some ⟨w.heap.size, 2, none⟩), .int .i64 hn, undef, undef, .pointer (some ⟨w.heap.size, 3, none⟩), .string (strB hr), undef, undef, undef], []⟩ W := by
    intro g1 W HBC G1
    rw [hG]
    have hHeld : ((fun W => W.cell? ⟨w.heap.size, 0, none⟩ = some (.int .i64 hh) ∧ W.cell? ⟨w.heap.size, 1, none⟩ = some (.string (strB hp)) ∧ W.cell? ⟨w.heap.size, 2, none⟩ = some (.int .i64 hn) ∧ W.cell? ⟨w.heap.size, 3, none⟩ = some (.string (strB hr)))) W := HK.out _ HBC.out
    refine wpAnyH_ready (rs := [3, 6, 9, 13]) (by kernel_rfl) (by simp) ?_
    refine AllReadyH.cons (o := ?o95) ?g95 (fun K hK => ?j95) (AllReadyH.cons (o := ?o96) ?g96 (fun K hK => ?j96) (AllReadyH.cons (o := ?o97) ?g97 (fun K hK => ?j97) (AllReadyH.cons (o := ?o98) ?g98 (fun K hK => ?j98) AllReadyH.nil)))
    case g95 => (simp only [gA, gB, gC]; rfl)
    case g96 => (simp only [gA, gB, gC]; rfl)
    case g97 => (simp only [gA, gB, gC]; rfl)
    case g98 => (simp only [gA, gB, gC]; rfl)
    case j95 =>
      go_simp
      (go_at_call 29; refine (HP.out hh _ _ G1.out).mono ?_)
      rintro e wa ⟨va, rfl, hoa, hbm⟩
      obtain ⟨A1, c1, rfl, -⟩ := (own_bs hoa).open
      have F1 := Lib.hid (own_bs hoa)
      refine hK.out _ _ (by (try dsimp only); exact HK.out _ (bel2M HBC.out hbm)) (fun _ => ?_)
      (try simp only [Act.put, sA, sB, sC])
      refine wpAnyH_norm (fuel' := 7) (listed' := #[true, true, true, true, true, true, false, true, true, false, false, true, true, false, false, false, false]) (by kernel_rfl) (by kernel_rfl) ?_
      have hst := st_2_3 g1 A1 c1 _ (Lib.hid (bel2M HBC.out hbm)) (Lib.hid (heapB G1.out hbm)) F1
      rw [hG] at hst
      exact hst
    case j96 =>
      refine step_conv rfl _ 22 29 rfl _ Try.underlying22 Try.underlying29 Try.underlying5 hp rfl (HC1.out) ?_
      intro C1A C1c w' hcs hbm
      have C1 := Lib.hid hcs
      refine hK.out _ _ (by (try dsimp only); exact HK.out _ (bel2M HBC.out hbm)) (fun _ => ?_)
      (try simp only [Act.put, sA, sB, sC])
      refine wpAnyH_norm (fuel' := 7) (listed' := #[true, true, true, false, true, true, true, true, true, false, false, true, true, false, false, false, false]) (by kernel_rfl) (by kernel_rfl) ?_
      have hst := st_2_6 g1 C1A C1c _ (Lib.hid (bel2M HBC.out hbm)) (Lib.hid (heapB G1.out hbm)) C1
      rw [hG] at hst
      exact hst
    case j97 =>
      refine step_built rfl 84 1 _ rfl #[.int .i64 hn] 3 (fun W => by go_simp) ?_
      intro g2 w' hg hbm hge
      have G2 := Lib.hid hg
      refine hK.out _ _ (by (try dsimp only); exact HK.out _ (bel2M HBC.out hbm)) (fun _ => ?_)
      (try simp only [Act.put, sA, sB, sC])
      refine wpAnyH_norm (fuel' := 7) (listed' := #[true, true, true, false, true, true, false, true, true, true, false, true, true, false, false, false, false]) (by kernel_rfl) (by kernel_rfl) ?_
      have hst := st_2_9 g1 g2 _ (Lib.hid (bel2M HBC.out hbm)) (Lib.hid (heapB G1.out hbm)) G2
      rw [hG] at hst
      exact hst
    case j98 =>
      refine step_conv rfl _ 22 29 rfl _ Try.underlying22 Try.underlying29 Try.underlying5 hr rfl (HC2.out) ?_
      intro C2A C2c w' hcs hbm
      have C2 := Lib.hid hcs
      refine hK.out _ _ (by (try dsimp only); exact HK.out _ (bel2M HBC.out hbm)) (fun _ => ?_)
      (try simp only [Act.put, sA, sB, sC])
      refine wpAnyH_norm (fuel' := 7) (listed' := #[true, true, true, false, true, true, false, true, true, false, false, true, true, true, false, false, false]) (by kernel_rfl) (by kernel_rfl) ?_
      have hst := st_2_13 g1 C2A C2c _ (Lib.hid (bel2M HBC.out hbm)) (Lib.hid (heapB G1.out hbm)) C2
      rw [hG] at hst
      exact hst
  have st : ∀  (W : World) (HBC : Hid (Below w0.heap.size w0 W)) , G 9 #[true, true, false, false, true, true, false, true, true, false, false, true, true, false, false, false, false] ⟨#[agH hh hp hn hr, .pointer (some ⟨w.heap.size, 0, none⟩), .string ⟨#[]⟩, .pointer (some ⟨w.heap.size, 0, none⟩), .int .i64 hh, undef, undef, .pointer (some ⟨w.heap.size, 1, none⟩), .string (strB hp), undef, .pointer (some ⟨w.heap.size, 2, none⟩), .int .i64 hn, undef, undef, .pointer (some ⟨w.heap.size, 3, none⟩), .string (strB hr), undef, undef, undef], []⟩ W := by
    intro  W HBC 
    rw [hG]
    have hHeld : ((fun W => W.cell? ⟨w.heap.size, 0, none⟩ = some (.int .i64 hh) ∧ W.cell? ⟨w.heap.size, 1, none⟩ = some (.string (strB hp)) ∧ W.cell? ⟨w.heap.size, 2, none⟩ = some (.int .i64 hn) ∧ W.cell? ⟨w.heap.size, 3, none⟩ = some (.string (strB hr)))) W := HK.out _ HBC.out
    refine wpAnyH_ready (rs := [2, 6, 9, 13]) (by kernel_rfl) (by simp) ?_
    refine AllReadyH.cons (o := ?o99) ?g99 (fun K hK => ?j99) (AllReadyH.cons (o := ?o100) ?g100 (fun K hK => ?j100) (AllReadyH.cons (o := ?o101) ?g101 (fun K hK => ?j101) (AllReadyH.cons (o := ?o102) ?g102 (fun K hK => ?j102) AllReadyH.nil)))
    case g99 => (simp only [gA, gB, gC]; rfl)
    case g100 => (simp only [gA, gB, gC]; rfl)
    case g101 => (simp only [gA, gB, gC]; rfl)
    case g102 => (simp only [gA, gB, gC]; rfl)
    case j99 =>
      refine step_built rfl 84 1 _ rfl #[.int .i64 hh] 3 (fun W => by go_simp) ?_
      intro g1 w' hg hbm hge
      have G1 := Lib.hid hg
      refine hK.out _ _ (by (try dsimp only); exact HK.out _ (bel2M HBC.out hbm)) (fun _ => ?_)
      (try simp only [Act.put, sA, sB, sC])
      refine wpAnyH_norm (fuel' := 8) (listed' := #[true, true, true, false, true, true, false, true, true, false, false, true, true, false, false, false, false]) (by kernel_rfl) (by kernel_rfl) ?_
      have hst := st_2 g1 _ (Lib.hid (bel2M HBC.out hbm)) G1
      rw [hG] at hst
      exact hst
    case j100 =>
      refine step_conv rfl _ 22 29 rfl _ Try.underlying22 Try.underlying29 Try.underlying5 hp rfl (HC1.out) ?_
      intro C1A C1c w' hcs hbm
      have C1 := Lib.hid hcs
      refine hK.out _ _ (by (try dsimp only); exact HK.out _ (bel2M HBC.out hbm)) (fun _ => ?_)
      (try simp only [Act.put, sA, sB, sC])
      refine wpAnyH_norm (fuel' := 8) (listed' := #[true, true, false, false, true, true, true, true, true, false, false, true, true, false, false, false, false]) (by kernel_rfl) (by kernel_rfl) ?_
      have hst := st_6 C1A C1c _ (Lib.hid (bel2M HBC.out hbm)) C1
      rw [hG] at hst
      exact hst
    case j101 =>
      refine step_built rfl 84 1 _ rfl #[.int .i64 hn] 3 (fun W => by go_simp) ?_
      intro g2 w' hg hbm hge
      have G2 := Lib.hid hg
      refine hK.out _ _ (by (try dsimp only); exact HK.out _ (bel2M HBC.out hbm)) (fun _ => ?_)
      (try simp only [Act.put, sA, sB, sC])
      refine wpAnyH_norm (fuel' := 8) (listed' := #[true, true, false, false, true, true, false, true, true, true, false, true, true, false, false, false, false]) (by kernel_rfl) (by kernel_rfl) ?_
      have hst := st_9 g2 _ (Lib.hid (bel2M HBC.out hbm)) G2
      rw [hG] at hst
      exact hst
    case j102 =>
      refine step_conv rfl _ 22 29 rfl _ Try.underlying22 Try.underlying29 Try.underlying5 hr rfl (HC2.out) ?_
      intro C2A C2c w' hcs hbm
      have C2 := Lib.hid hcs
      refine hK.out _ _ (by (try dsimp only); exact HK.out _ (bel2M HBC.out hbm)) (fun _ => ?_)
      (try simp only [Act.put, sA, sB, sC])
      refine wpAnyH_norm (fuel' := 8) (listed' := #[true, true, false, false, true, true, false, true, true, false, false, true, true, true, false, false, false]) (by kernel_rfl) (by kernel_rfl) ?_
      have hst := st_13 C2A C2c _ (Lib.hid (bel2M HBC.out hbm)) C2
      rw [hG] at hst
      exact hst
  exact st _ (Lib.hid (HBC.out))

def proveB (b : Blk) (i : Int) : List (Bool × List UInt8) × Int := if checkB b = 0 then pathT (leavesB b) i else ([], checkB b)
set_option maxHeartbeats 1000000 in
theorem bProve_any (b : Blk) (A : Option Addr) (c : Nat) (D : Option Addr) (d : Nat) (i : Int) (w : World) (h : BlkK w b A c D d) (hf : FewB b) : Calls Try.prog 19 #[agB b A c D d, .int .i64 i] w (PathX (proveB b i) w) := by
  have x1 := heap_alloc_new w (.cells #[.int .i64 b.h, .string (strB b.prev), .slice A b.reqs.length c, .slice D b.ress.length d] 26)
  have HB0 := Lib.hid (alloc1B w (.cells #[.int .i64 b.h, .string (strB b.prev), .slice A b.reqs.length c, .slice D b.ress.length d] 26))
  have HX := Lib.hid x1
  have HC := Lib.hid (fun W => bCheck_any b A c D d W (by have := hf.q; unfold maxLen; omega) (by have := hf.r; unfold maxLen; omega))
  have HL := Lib.hid (fun W (hb : Below w.heap.size w W) => bLeaves_any b A c D d W (h.below hb) hf)
  have hs := hf.sum
  have HP := Lib.hid (fun v W (hv : Bss W v (leavesB b)) => Path_all (leavesB b) (by omega) (by omega) v i W hv)
  clear x1 h hf hs
  unfold proveB
  generalize leavesB b = ls at *
  by_cases hc : checkB b = 0
  · rw [if_pos hc]
    rw [hc] at HC
    generalize pathT ls i = r at *
    obtain ⟨pl, x⟩ := r
    clear hc
    go_enter Try.func19, Try.ntmps19
    go_wp2_with (first
      | (go_at_call 14; refine (HC.out _).mono ?_; rintro e w1 ⟨rfl, hb1⟩; have HB1 := Lib.hid (bel2M HB0.out hb1); have hx1 := heapB HX.out hb1; have c0 := rowCell hx1 0 _ rfl; have c1 := rowCell hx1 1 _ rfl; have c2 := rowCell hx1 2 _ rfl; have c3 := rowCell hx1 3 _ rfl; clear hb1 hx1)
      | (go_at_call 32; refine (HL.out _ HB1.out).mono ?_; rintro e w2 ⟨v2, rfl, hv2, hb2⟩; have HV2 := Lib.hid hv2; have HB2 := Lib.hid (bel2M HB1.out hb2); clear hv2 hb2)
      | (go_at_call 38; refine (HP.out _ _ HV2.out).mono ?_; rintro e w3 ⟨PA, pc, rfl, hk3, hb3⟩; have HK3 := Lib.hid hk3; have HB3 := Lib.hid (bel2M HB2.out hb3); clear hk3 hb3))
    go_ret2
    exact ⟨PA, pc, rfl, HK3.out, HB3.out⟩
  · rw [if_neg hc]
    have hn : (checkB b != 0) = true := by simpa using hc
    generalize checkB b = x at *
    clear hc
    go_enter Try.func19, Try.ntmps19
    go_wp2_with (first
      | (go_at_call 14; refine (HC.out _).mono ?_; rintro e w1 ⟨rfl, hb1⟩; have HB1 := Lib.hid (bel2M HB0.out hb1); clear hb1))
    go_ret2
    exact ⟨none, 0, rfl, RowM.none _ _ _, HB1.out⟩
set_option maxHeartbeats 1000000 in
theorem bIncl_any (hh : Int) (hp : List UInt8) (hn : Int) (hr : List UInt8) (i : Int) (e : Int × List UInt8) (bv : Value) (r : Int × Int) (pl : List (Bool × List UInt8)) (PA : Option Addr) (pc : Nat) (w : World) (h1 : hn ≤ 9223372036854775807) (hb : Bs w bv e.2) (hl : e.2.length ≤ 500) (hpk : PthK w PA pc pl) (hpb : PB pl) :
    Calls Try.prog 22 #[agH hh hp hn hr, .int .i64 i, agE e.1 bv, agRs r, .slice PA pl.length pc] w (ChkP (checkT hr (leafB e r) i hn pl) w) := by
  obtain ⟨A, c, hv, -⟩ := hb.open
  subst hv
  have HLF := Lib.hid (fun W (h : Below w.heap.size w W) => bLeaf_any e r _ W (hb.below h (Nat.le_refl _)) (by omega))
  have HCK := Lib.hid (fun v W (h : Below w.heap.size w W) (hv : Bs W v (leafB e r)) => mCheck_any hr (leafB e r) v i hn h1 pl PA pc W hv (by rw [leafB_length]; omega) (hpk.below h) hpb)
  obtain ⟨s, l⟩ := e
  obtain ⟨rc, rs⟩ := r
  simp only at HLF HCK ⊢
  obtain ⟨x1, x2, x3⟩ := box2B w #[.int .i64 hh, .string (strB hp), .int .i64 hn, .string (strB hr)] #[.int .i64 s, .slice A l.length c] 37 32
  have y1 := heapB x1 (alloc1B _ (.cells #[.int .i64 rc, .int .i64 rs] 35))
  have y2 := heapB x2 (alloc1B _ (.cells #[.int .i64 rc, .int .i64 rs] 35))
  have y3 := heap_alloc_new ((w.alloc (.cells #[.int .i64 hh, .string (strB hp), .int .i64 hn, .string (strB hr)] 37)).alloc (.cells #[.int .i64 s, .slice A l.length c] 32)) (.cells #[.int .i64 rc, .int .i64 rs] 35)
  rw [show ((w.alloc (.cells #[.int .i64 hh, .string (strB hp), .int .i64 hn, .string (strB hr)] 37)).alloc (.cells #[.int .i64 s, .slice A l.length c] 32)).heap.size = w.heap.size + 1 + 1 by simp] at y3
  have y4 := bel2M x3 (alloc1B _ (.cells #[.int .i64 rc, .int .i64 rs] 35))
  clear x1 x2 x3 hb hl hpk hpb
  generalize checkT hr (leafB (s, l) (rc, rs)) i hn pl = x at *
  generalize leafB (s, l) (rc, rs) = lf at *
  go_enter Try.func22, Try.ntmps22
  go_wp2
  generalize hw0 : ((w.alloc (.cells #[.int .i64 hh, .string (strB hp), .int .i64 hn, .string (strB hr)] 37)).alloc (.cells #[.int .i64 s, .slice A l.length c] 32)).alloc (.cells #[.int .i64 rc, .int .i64 rs] 35) = w0 at *
  clear hw0
  have HB0 := Lib.hid y4
  have HK := Lib.hid (show ∀ W, Below w0.heap.size w0 W → ((fun W => W.cell? ⟨w.heap.size, 2, none⟩ = some (.int .i64 hn) ∧ W.cell? ⟨w.heap.size, 3, none⟩ = some (.string (strB hr)) ∧ W.cell? ⟨w.heap.size + 1, 0, none⟩ = some (.int .i64 s) ∧ W.cell? ⟨w.heap.size + 1, 1, none⟩ = some (.slice A l.length c) ∧ W.cell? ⟨w.heap.size + 1 + 1, 0, none⟩ = some (.int .i64 rc) ∧ W.cell? ⟨w.heap.size + 1 + 1, 1, none⟩ = some (.int .i64 rs))) W from fun W h => ⟨cellB (rowCell y1 2 _ rfl) h, cellB (rowCell y1 3 _ rfl) h, cellB (rowCell y2 0 _ rfl) h, cellB (rowCell y2 1 _ rfl) h, cellB (rowCell y3 0 _ rfl) h, cellB (rowCell y3 1 _ rfl) h⟩)
  have HDR := Lib.hid (show Below w0.heap.size w0 w0.drew from (Below.refl _ _).drew)
  clear y1 y2 y3 y4
  go_region_held3 ((fun W => W.cell? ⟨w.heap.size, 2, none⟩ = some (.int .i64 hn) ∧ W.cell? ⟨w.heap.size, 3, none⟩ = some (.string (strB hr)) ∧ W.cell? ⟨w.heap.size + 1, 0, none⟩ = some (.int .i64 s) ∧ W.cell? ⟨w.heap.size + 1, 1, none⟩ = some (.slice A l.length c) ∧ W.cell? ⟨w.heap.size + 1 + 1, 0, none⟩ = some (.int .i64 rc) ∧ W.cell? ⟨w.heap.size + 1 + 1, 1, none⟩ = some (.int .i64 rs))) (first | exact HK.out _ HDR.out | exact HK.out _ HB1.out | exact HK.out _ HB2.out) (first
    | (go_at_call 10; refine (HLF.out _ (bel2M HB0.out HDR.out)).mono ?_; rintro e w1 ⟨v1, rfl, ho1, hb1⟩; have HO1 := Lib.hid (own_bs ho1); have HB1 := Lib.hid (bel2M HDR.out hb1); clear ho1 hb1)
    | (go_at_call 40; refine (HCK.out _ _ (bel2M HB0.out HB1.out) HO1.out).mono ?_; rintro e w2 ⟨rfl, hb2⟩; have HB2 := Lib.hid (bel2M HB1.out hb2); clear hb2))
  go_wp2
  go_ret
  exact ⟨rfl, bel2M HB0.out HB2.out⟩
set_option maxHeartbeats 1000000 in
theorem rbProve_any (b : Blk) (A : Option Addr) (c : Nat) (D : Option Addr) (d : Nat) (i : Int) (w : World) (h : BlkK w b A c D d) (hf : FewB b) : Calls Try.prog 20 #[agB b A c D d, .int .i64 i] w (PathX (proveB b i) w) := by
  have x1 := heap_alloc_new w (.cells #[.int .i64 b.h, .string (strB b.prev), .slice A b.reqs.length c, .slice D b.ress.length d] 26)
  have HB0 := Lib.hid (alloc1B w (.cells #[.int .i64 b.h, .string (strB b.prev), .slice A b.reqs.length c, .slice D b.ress.length d] 26))
  have HX := Lib.hid x1
  have HC := Lib.hid (fun W => rbCheck_any b A c D d W (by have := hf.q; unfold maxLen; omega) (by have := hf.r; unfold maxLen; omega))
  have HL := Lib.hid (fun W (hb : Below w.heap.size w W) => rbLeaves_any b A c D d W (h.below hb) hf)
  have hs := hf.sum
  have HP := Lib.hid (fun v W (hv : Bss W v (leavesB b)) => rPath_all (leavesB b) (by omega) (by omega) v i W hv)
  clear x1 h hf hs
  unfold proveB
  generalize leavesB b = ls at *
  by_cases hc : checkB b = 0
  · rw [if_pos hc]
    rw [hc] at HC
    generalize pathT ls i = r at *
    obtain ⟨pl, x⟩ := r
    clear hc
    go_enter Try.func20, Try.ntmps20
    go_wp2_with (first
      | (go_at_call 15; refine (HC.out _).mono ?_; rintro e w1 ⟨rfl, hb1⟩; have HB1 := Lib.hid (bel2M HB0.out hb1); have hx1 := heapB HX.out hb1; have c0 := rowCell hx1 0 _ rfl; have c1 := rowCell hx1 1 _ rfl; have c2 := rowCell hx1 2 _ rfl; have c3 := rowCell hx1 3 _ rfl; clear hb1 hx1)
      | (go_at_call 34; refine (HL.out _ HB1.out).mono ?_; rintro e w2 ⟨v2, rfl, hv2, hb2⟩; have HV2 := Lib.hid hv2; have HB2 := Lib.hid (bel2M HB1.out hb2); clear hv2 hb2)
      | (go_at_call 39; refine (HP.out _ _ HV2.out).mono ?_; rintro e w3 ⟨PA, pc, rfl, hk3, hb3⟩; have HK3 := Lib.hid hk3; have HB3 := Lib.hid (bel2M HB2.out hb3); clear hk3 hb3))
    go_ret2
    exact ⟨PA, pc, rfl, HK3.out, HB3.out⟩
  · rw [if_neg hc]
    have hn : (checkB b != 0) = true := by simpa using hc
    generalize checkB b = x at *
    clear hc
    go_enter Try.func20, Try.ntmps20
    go_wp2_with (first
      | (go_at_call 15; refine (HC.out _).mono ?_; rintro e w1 ⟨rfl, hb1⟩; have HB1 := Lib.hid (bel2M HB0.out hb1); clear hb1))
    go_ret2
    exact ⟨none, 0, rfl, RowM.none _ _ _, HB1.out⟩
set_option maxHeartbeats 1000000 in
theorem rbIncl_any (hh : Int) (hp : List UInt8) (hn : Int) (hr : List UInt8) (i : Int) (e : Int × List UInt8) (bv : Value) (r : Int × Int) (pl : List (Bool × List UInt8)) (PA : Option Addr) (pc : Nat) (w : World) (h1 : hn ≤ 9223372036854775807) (hb : Bs w bv e.2) (hl : e.2.length ≤ 500) (hpk : PthK w PA pc pl) (hpb : PB pl) :
    Calls Try.prog 24 #[agH hh hp hn hr, .int .i64 i, agE e.1 bv, agRs r, .slice PA pl.length pc] w (ChkP (checkT hr (leafB e r) i hn pl) w) := by
  obtain ⟨A, c, hv, -⟩ := hb.open
  subst hv
  have HLF := Lib.hid (fun W (h : Below w.heap.size w W) => rbLeaf_any e r _ W (hb.below h (Nat.le_refl _)) (by omega))
  have HCK := Lib.hid (fun v W (h : Below w.heap.size w W) (hv : Bs W v (leafB e r)) => rmCheck_any hr (leafB e r) v i hn h1 pl PA pc W hv (by rw [leafB_length]; omega) (hpk.below h) hpb)
  obtain ⟨s, l⟩ := e
  obtain ⟨rc, rs⟩ := r
  simp only at HLF HCK ⊢
  obtain ⟨x1, x2, x3⟩ := box2B w #[.int .i64 hh, .string (strB hp), .int .i64 hn, .string (strB hr)] #[.int .i64 s, .slice A l.length c] 37 32
  have y1 := heapB x1 (alloc1B _ (.cells #[.int .i64 rc, .int .i64 rs] 35))
  have y2 := heapB x2 (alloc1B _ (.cells #[.int .i64 rc, .int .i64 rs] 35))
  have y3 := heap_alloc_new ((w.alloc (.cells #[.int .i64 hh, .string (strB hp), .int .i64 hn, .string (strB hr)] 37)).alloc (.cells #[.int .i64 s, .slice A l.length c] 32)) (.cells #[.int .i64 rc, .int .i64 rs] 35)
  rw [show ((w.alloc (.cells #[.int .i64 hh, .string (strB hp), .int .i64 hn, .string (strB hr)] 37)).alloc (.cells #[.int .i64 s, .slice A l.length c] 32)).heap.size = w.heap.size + 1 + 1 by simp] at y3
  have y4 := bel2M x3 (alloc1B _ (.cells #[.int .i64 rc, .int .i64 rs] 35))
  clear x1 x2 x3 hb hl hpk hpb
  generalize checkT hr (leafB (s, l) (rc, rs)) i hn pl = x at *
  generalize leafB (s, l) (rc, rs) = lf at *
  go_enter Try.func24, Try.ntmps24
  go_wp2
  generalize hw0 : ((w.alloc (.cells #[.int .i64 hh, .string (strB hp), .int .i64 hn, .string (strB hr)] 37)).alloc (.cells #[.int .i64 s, .slice A l.length c] 32)).alloc (.cells #[.int .i64 rc, .int .i64 rs] 35) = w0 at *
  clear hw0
  have HB0 := Lib.hid y4
  have HK := Lib.hid (show ∀ W, Below w0.heap.size w0 W → ((fun W => W.cell? ⟨w.heap.size, 2, none⟩ = some (.int .i64 hn) ∧ W.cell? ⟨w.heap.size, 3, none⟩ = some (.string (strB hr)) ∧ W.cell? ⟨w.heap.size + 1, 0, none⟩ = some (.int .i64 s) ∧ W.cell? ⟨w.heap.size + 1, 1, none⟩ = some (.slice A l.length c) ∧ W.cell? ⟨w.heap.size + 1 + 1, 0, none⟩ = some (.int .i64 rc) ∧ W.cell? ⟨w.heap.size + 1 + 1, 1, none⟩ = some (.int .i64 rs))) W from fun W h => ⟨cellB (rowCell y1 2 _ rfl) h, cellB (rowCell y1 3 _ rfl) h, cellB (rowCell y2 0 _ rfl) h, cellB (rowCell y2 1 _ rfl) h, cellB (rowCell y3 0 _ rfl) h, cellB (rowCell y3 1 _ rfl) h⟩)
  have HDR := Lib.hid (show Below w0.heap.size w0 w0.drew from (Below.refl _ _).drew)
  clear y1 y2 y3 y4
  go_region_held3 ((fun W => W.cell? ⟨w.heap.size, 2, none⟩ = some (.int .i64 hn) ∧ W.cell? ⟨w.heap.size, 3, none⟩ = some (.string (strB hr)) ∧ W.cell? ⟨w.heap.size + 1, 0, none⟩ = some (.int .i64 s) ∧ W.cell? ⟨w.heap.size + 1, 1, none⟩ = some (.slice A l.length c) ∧ W.cell? ⟨w.heap.size + 1 + 1, 0, none⟩ = some (.int .i64 rc) ∧ W.cell? ⟨w.heap.size + 1 + 1, 1, none⟩ = some (.int .i64 rs))) (first | exact HK.out _ HDR.out | exact HK.out _ HB1.out | exact HK.out _ HB2.out) (first
    | (go_at_call 11; refine (HLF.out _ (bel2M HB0.out HDR.out)).mono ?_; rintro e w1 ⟨v1, rfl, ho1, hb1⟩; have HO1 := Lib.hid (own_bs ho1); have HB1 := Lib.hid (bel2M HDR.out hb1); clear ho1 hb1)
    | (go_at_call 41; refine (HCK.out _ _ (bel2M HB0.out HB1.out) HO1.out).mono ?_; rintro e w2 ⟨rfl, hb2⟩; have HB2 := Lib.hid (bel2M HB1.out hb2); clear hb2))
  go_wp2
  go_ret
  exact ⟨rfl, bel2M HB0.out HB2.out⟩

def putB (b : Blk) : List UInt8 := if checkB b = 0 then i8B b.h ++ (partB b.prev ++ (be 4 b.reqs.length ++ (leavesB b).flatten)) else []
def int8F (rest : List UInt8) (e : Int) : Int × List UInt8 × Int := (wrap64 ((stepF 8 alInt rest e).1 : Int), (stepF 8 alInt rest e).2)
def itemF (rest : List UInt8) (e : Int) : ((Int × List UInt8) × (Int × Int)) × List UInt8 × Int :=
  let a := int8F rest e
  let b := bytesF 1099511627776 a.2.1 a.2.2
  let c := int8F b.2.1 b.2.2
  let d := int8F c.2.1 c.2.2
  (((a.1, b.1), (c.1, d.1)), d.2)
def itemsF : Nat → List UInt8 → Int → List ((Int × List UInt8) × (Int × Int)) × List UInt8 × Int
  | 0, rest, e => ([], rest, e)
  | n + 1, rest, e => let a := itemF rest e
    let l := itemsF n a.2.1 a.2.2
    (a.1 :: l.1, l.2)
def readB (rest : List UInt8) (e : Int) : Blk × List UInt8 × Int :=
  let a := int8F rest e
  let b := bytesF 1099511627776 a.2.1 a.2.2
  let n := stepF 4 (alCount 4) b.2.1 b.2.2
  let l := itemsF n.1 n.2.1 n.2.2
  (⟨a.1, b.1, l.1.map (·.1), l.1.map (·.2)⟩, l.2.1, endE l.2.1 l.2.2)
def zeroB : Blk := ⟨0, [], [], []⟩
def gotB (x : List UInt8) : Prop := (readB x 0).2.2 = 0 ∧ checkB (readB x 0).1 = 0
instance (x : List UInt8) : Decidable (gotB x) := inferInstanceAs (Decidable (_ ∧ _))
/- forth -/
/- back -/

theorem sum_flat : ∀ ls : List (List UInt8), ls.flatten.length ≤ sumT ls
  | [] => by simp [sumT]
  | l :: ls => by
    have := sum_flat ls
    unfold sumT at *
    simp only [List.flatten_cons, List.length_append, List.map_cons, List.sum_cons]
    omega
set_option maxHeartbeats 4000000 in
theorem bPut_any (b : Blk) (A : Option Addr) (c : Nat) (D : Option Addr) (d : Nat) (w : World) (h : BlkK w b A c D d) (hf : FewB b) : Calls Try.prog 27 #[agB b A c D d] w (Puts w (putB b)) := by
  obtain ⟨i0, hi, hz0, hz1, hz2⟩ := info_parts u8info
  have x1 := heap_alloc_new w (.cells #[.int .i64 b.h, .string (strB b.prev), .slice A b.reqs.length c, .slice D b.ress.length d] 26)
  have HB0 := Lib.hid (alloc1B w (.cells #[.int .i64 b.h, .string (strB b.prev), .slice A b.reqs.length c, .slice D b.ress.length d] 26))
  have HX := Lib.hid x1
  have HC := Lib.hid (fun W => bCheck_any b A c D d W (by have := hf.q; unfold maxLen; omega) (by have := hf.r; unfold maxLen; omega))
  have HL := Lib.hid (fun W (hb : Below w.heap.size w W) => bLeaves_any b A c D d W (h.below hb) hf)
  have hs := hf.sum
  have hfl := sum_flat (leavesB b)
  have HCC := Lib.hid (fun u W (hu : Bss W u (leavesB b)) => Concat_any u (leavesB b) W hu (by omega))
  have hp := hf.p
  have HC1 := Lib.hid (show b.prev.length ≤ maxLen by unfold maxLen; omega)
  by_cases hc : checkB b = 0
  case neg =>
    have hn : (checkB b != 0) = true := by simpa using hc
    have hpn : putB b = [] := if_neg hc
    rw [hpn]
    generalize checkB b = x at *
    clear hc h hf hs hfl hpn x1
    go_enter Try.func27, Try.ntmps27
    go_wp2_with (first
      | (go_at_call 14; refine (HC.out _).mono ?_; rintro e w1 ⟨rfl, hb1⟩; have HB1 := Lib.hid (bel2M HB0.out hb1); clear hb1))
    go_ret
    exact ⟨_, rfl, World.ownsRow_nil _ _ _ _, HB1.out⟩
  have hq4 := (checkB_zero hc).2.2.2
  rw [hc] at HC
  have hput : putB b = ((i8B b.h ++ partB b.prev) ++ be 4 b.reqs.length) ++ (leavesB b).flatten := by unfold putB; rw [if_pos hc]; simp only [List.append_assoc]
  have HP := Lib.hid (fun W k hk => putInt1_any b.h W 3 k hk)
  have HPB := Lib.hid (fun u v W (hu : Bs W u (i8B b.h)) (hv : Bs W v b.prev) => show Calls Try.prog 28 #[u, v] W (Puts W (i8B b.h ++ partB b.prev)) from by
    have := PutBytes_any u v (i8B b.h) b.prev W hu hv (by rw [i8B_length]; omega) (by omega)
    simpa [partB] using this)
  have HPC := Lib.hid (fun u W (hu : Bs W u (i8B b.h ++ partB b.prev)) => show Calls Try.prog 51 #[u, .int .i64 b.reqs.length] W (Puts W ((i8B b.h ++ partB b.prev) ++ be 4 b.reqs.length)) from by
    have h := PutCount_any u _ b.reqs.length W hu (by simp [i8B_length, partB_length]; omega) (by omega) (by omega)
    rwa [show (capC (b.reqs.length : Int)).toNat = b.reqs.length by unfold capC; omega] at h)
  have hle : ((i8B b.h ++ partB b.prev) ++ be 4 b.reqs.length).length + ((leavesB b).flatten.map bc).length ≤ maxLen ∧ (((i8B b.h ++ partB b.prev) ++ be 4 b.reqs.length).length + ((leavesB b).flatten.map bc).length) * 1 ≤ 140737488355328 := by
    simp only [List.length_append, i8B_length, partB_length, be_length, List.length_map]
    unfold maxLen
    omega
  have HLE := Lib.hid hle
  have HEND := Lib.hid hput
  clear hc h hf hs hfl hq4 hle hp x1
  generalize putB b = res at *
  clear hput
  generalize leavesB b = ls at *
  generalize ls.flatten = fl at *
  generalize i8B b.h ++ partB b.prev ++ be 4 b.reqs.length = l3 at *
  generalize i8B b.h ++ partB b.prev = l2 at *
  generalize i8B b.h = l1 at *
  go_enter Try.func27, Try.ntmps27
  go_wp2_with (first
    | (go_at_call 14; refine (HC.out _).mono ?_; rintro e w1 ⟨rfl, hb1⟩; have HB1 := Lib.hid (bel2M HB0.out hb1); have HX1 := Lib.hid (heapB HX.out hb1); clear hb1))
  have HK := Lib.hid (show ∀ W, Below w1.heap.size w1 W → (fun W => W.cell? ⟨w.heap.size, 0, none⟩ = some (.int .i64 b.h) ∧ W.cell? ⟨w.heap.size, 1, none⟩ = some (.string (strB b.prev))) W from fun W h => ⟨cellB (rowCell HX1.out 0 _ rfl) h, cellB (rowCell HX1.out 1 _ rfl) h⟩)
  have HBC := Lib.hid (show Below w1.heap.size w1 w1.drew from (Below.refl _ _).drew)
  refine wp_region_held_drew (S := (fun W => W.cell? ⟨w.heap.size, 0, none⟩ = some (.int .i64 b.h) ∧ W.cell? ⟨w.heap.size, 1, none⟩ = some (.string (strB b.prev)))) (by kernel_rfl) (HK.out _ HBC.out) (fun hHeld => ?_)
  refine tk 0 ?_
  (try simp only [Act.put, sA, sB, sC])
  refine tk 1 ?_
  (try simp only [Act.put, sA, sB, sC])
  refine tk 4 ?_
  (try simp only [Act.put, sA, sB, sC])
  refine tk 5 ?_
  (try simp only [Act.put, sA, sB, sC])
  refine wpAnyH_norm (fuel' := 5) (listed' := #[true, true, false, false, true, true, false, false, false]) (by kernel_rfl) (by kernel_rfl) ?_
  refine wpAnyH_name (fun G hG => ?_)
  clear hHeld
  have st_2_3_6_7 : ∀ (g1 : Nat) (A1 : Option Addr) (c1 : Nat) (C1A : Option Addr) (C1c : Nat) (A2 : Option Addr) (c2 : Nat) (W : World) (HBC : Hid (Below w1.heap.size w1 W)) (G1 : Hid (W.heap[g1]? = some (.cells #[.int .i64 b.h] 3 (0, 0)))) (F1 : Hid (Bs W (.slice A1 l1.length c1) l1)) (C1 : Hid (Bs W (.slice C1A b.prev.length C1c) b.prev)) (F2 : Hid (W.ownsRow w.heap.size 5 1 (.slice A2 l2.length c2) l2.length (l2.map bc))), G 1 #[true, true, true, true, true, true, true, true, false] ⟨#[agB b A c D d, .pointer (some ⟨w.heap.size, 0, none⟩), .slice none 0 0, undef, agB b A c D d, .int .i64 0, .bool false, .pointer (some ⟨w.heap.size, 0, none⟩), .int .i64 b.h, .slice (some ⟨g1, 0, none⟩) 1 1, .slice A1 l1.length c1, .pointer (some ⟨w.heap.size, 1, none⟩), .string (strB b.prev), .slice C1A b.prev.length C1c, .slice A2 l2.length c2, undef, undef, undef, undef, undef, undef, undef, undef, undef, undef], []⟩ W := by
    intro g1 A1 c1 C1A C1c A2 c2 W HBC G1 F1 C1 F2
    rw [hG]
    have hHeld : ((fun W => W.cell? ⟨w.heap.size, 0, none⟩ = some (.int .i64 b.h) ∧ W.cell? ⟨w.heap.size, 1, none⟩ = some (.string (strB b.prev)))) W := HK.out _ HBC.out
    refine wpAnyH_ready (rs := [8]) (by kernel_rfl) (by simp) ?_
    refine AllReadyH.cons (o := ?o5) ?g5 (fun K hK => ?j5) AllReadyH.nil
    case g5 => (simp only [gA, gB, gC]; rfl)
    case j5 =>
      go_simp
      refine hK.out _ _ (by (try dsimp only); exact hHeld) (fun _ => ?_)
      (try simp only [Act.put, sA, sB, sC])
      refine wpAnyH_done (by kernel_rfl) ?_ _
      have hx0 := heapB HX1.out HBC.out
      have e2 := rowCell hx0 2 _ rfl
      clear hx0
      go_wp2_with (first
        | (go_at_call 51; refine (HPC.out _ _ (own_bs F2.out)).mono ?_; rintro e w3 ⟨v3, rfl, ho3, hb3⟩; obtain ⟨A3, c3, rfl, -⟩ := (own_bs ho3).open; have HB3 := Lib.hid (bel2M (bel2M HB1.out HBC.out) hb3); have HO3 := Lib.hid (own_mono ho3 (bel2M HB1.out HBC.out).size); have hxx := heapB (heapB HX1.out HBC.out) hb3; have d0 := rowCell hxx 0 _ rfl; have d1 := rowCell hxx 1 _ rfl; have d2 := rowCell hxx 2 _ rfl; have d3 := rowCell hxx 3 _ rfl; clear ho3 hb3 hxx)
        | (go_at_call 32; refine (HL.out _ HB3.out).mono ?_; rintro e w4 ⟨v4, rfl, hv4, hb4⟩; have HV4 := Lib.hid hv4; have HB4 := Lib.hid (bel2M HB3.out hb4); have HO4 := Lib.hid (own_belowM HO3.out hb4); clear hv4 hb4)
        | (go_at_call 52; refine (HCC.out _ _ HV4.out).mono ?_; rintro e w5 ⟨v5, rfl, ho5, hb5⟩; have HB5 := Lib.hid (bel2M HB4.out hb5); have HO5 := Lib.hid (own_belowM HO4.out hb5); have HV5 := Lib.hid (own_bs ho5); clear ho5 hb5)
        | (at_builtin; refine wpList_append_rd _ rfl _ _ 29 rfl w.heap.size 5 i0 (.int .u8 0) 1 Try.underlying29 hi hz0 hz1 hz2 rfl _ _ _ rfl HO5.out _ _ rfl HV5.out (bc_one _) HLE.out.1 HLE.out.2 HB5.out.size ?_; intro v6 w6 hown6 hgr6; have HB6 := Lib.hid (HB5.out.grown hgr6 HB5.out.size (fun k hk => (HO5.out.lt k hk).1)); rw [← List.map_append, List.length_map, ← List.length_append, ← HEND.out] at hown6))
      go_ret
      exact ⟨_, rfl, hown6, HB6.out⟩
  have st_2_3_6 : ∀ (g1 : Nat) (A1 : Option Addr) (c1 : Nat) (C1A : Option Addr) (C1c : Nat) (W : World) (HBC : Hid (Below w1.heap.size w1 W)) (G1 : Hid (W.heap[g1]? = some (.cells #[.int .i64 b.h] 3 (0, 0)))) (F1 : Hid (Bs W (.slice A1 l1.length c1) l1)) (C1 : Hid (Bs W (.slice C1A b.prev.length C1c) b.prev)), G 2 #[true, true, true, true, true, true, true, false, false] ⟨#[agB b A c D d, .pointer (some ⟨w.heap.size, 0, none⟩), .slice none 0 0, undef, agB b A c D d, .int .i64 0, .bool false, .pointer (some ⟨w.heap.size, 0, none⟩), .int .i64 b.h, .slice (some ⟨g1, 0, none⟩) 1 1, .slice A1 l1.length c1, .pointer (some ⟨w.heap.size, 1, none⟩), .string (strB b.prev), .slice C1A b.prev.length C1c, undef, undef, undef, undef, undef, undef, undef, undef, undef, undef, undef], []⟩ W := by
    intro g1 A1 c1 C1A C1c W HBC G1 F1 C1
    rw [hG]
    have hHeld : ((fun W => W.cell? ⟨w.heap.size, 0, none⟩ = some (.int .i64 b.h) ∧ W.cell? ⟨w.heap.size, 1, none⟩ = some (.string (strB b.prev)))) W := HK.out _ HBC.out
    refine wpAnyH_ready (rs := [7]) (by kernel_rfl) (by simp) ?_
    refine AllReadyH.cons (o := ?o6) ?g6 (fun K hK => ?j6) AllReadyH.nil
    case g6 => (simp only [gA, gB, gC]; rfl)
    case j6 =>
      go_simp
      (go_at_call 28; refine (HPB.out _ _ _ F1.out C1.out).mono ?_)
      rintro e wa ⟨va, rfl, hoa, hbm⟩
      obtain ⟨A2, c2, rfl, -⟩ := (own_bs hoa).open
      have F2 := Lib.hid (own_mono hoa (bel2M HB1.out HBC.out).size)
      refine hK.out _ _ (by (try dsimp only); exact HK.out _ (bel2M HBC.out hbm)) (fun _ => ?_)
      (try simp only [Act.put, sA, sB, sC])
      refine wpAnyH_norm (fuel' := 1) (listed' := #[true, true, true, true, true, true, true, true, false]) (by kernel_rfl) (by kernel_rfl) ?_
      have hst := st_2_3_6_7 g1 A1 c1 C1A C1c A2 c2 _ (Lib.hid (bel2M HBC.out hbm)) (Lib.hid (heapB G1.out hbm)) (Lib.hid (F1.out.below hbm (Nat.le_refl _))) (Lib.hid (C1.out.below hbm (Nat.le_refl _))) F2
      rw [hG] at hst
      exact hst
  have st_2_6 : ∀ (g1 : Nat) (C1A : Option Addr) (C1c : Nat) (W : World) (HBC : Hid (Below w1.heap.size w1 W)) (G1 : Hid (W.heap[g1]? = some (.cells #[.int .i64 b.h] 3 (0, 0)))) (C1 : Hid (Bs W (.slice C1A b.prev.length C1c) b.prev)), G 3 #[true, true, true, false, true, true, true, false, false] ⟨#[agB b A c D d, .pointer (some ⟨w.heap.size, 0, none⟩), .slice none 0 0, undef, agB b A c D d, .int .i64 0, .bool false, .pointer (some ⟨w.heap.size, 0, none⟩), .int .i64 b.h, .slice (some ⟨g1, 0, none⟩) 1 1, undef, .pointer (some ⟨w.heap.size, 1, none⟩), .string (strB b.prev), .slice C1A b.prev.length C1c, undef, undef, undef, undef, undef, undef, undef, undef, undef, undef, undef], []⟩ W := by
    intro g1 C1A C1c W HBC G1 C1
    rw [hG]
    have hHeld : ((fun W => W.cell? ⟨w.heap.size, 0, none⟩ = some (.int .i64 b.h) ∧ W.cell? ⟨w.heap.size, 1, none⟩ = some (.string (strB b.prev)))) W := HK.out _ HBC.out
    refine wpAnyH_ready (rs := [3]) (by kernel_rfl) (by simp) ?_
    refine AllReadyH.cons (o := ?o7) ?g7 (fun K hK => ?j7) AllReadyH.nil
    case g7 => (simp only [gA, gB, gC]; rfl)
    case j7 =>
      go_simp
      (go_at_call 29; refine (HP.out _ _ G1.out).mono ?_)
      rintro e wa ⟨va, rfl, hoa, hbm⟩
      obtain ⟨A1, c1, rfl, -⟩ := (own_bs hoa).open
      have F1 := Lib.hid (own_bs hoa)
      refine hK.out _ _ (by (try dsimp only); exact HK.out _ (bel2M HBC.out hbm)) (fun _ => ?_)
      (try simp only [Act.put, sA, sB, sC])
      refine wpAnyH_norm (fuel' := 2) (listed' := #[true, true, true, true, true, true, true, false, false]) (by kernel_rfl) (by kernel_rfl) ?_
      have hst := st_2_3_6 g1 A1 c1 C1A C1c _ (Lib.hid (bel2M HBC.out hbm)) (Lib.hid (heapB G1.out hbm)) F1 (Lib.hid (C1.out.below hbm (Nat.le_refl _)))
      rw [hG] at hst
      exact hst
  have st_2_3 : ∀ (g1 : Nat) (A1 : Option Addr) (c1 : Nat) (W : World) (HBC : Hid (Below w1.heap.size w1 W)) (G1 : Hid (W.heap[g1]? = some (.cells #[.int .i64 b.h] 3 (0, 0)))) (F1 : Hid (Bs W (.slice A1 l1.length c1) l1)), G 3 #[true, true, true, true, true, true, false, false, false] ⟨#[agB b A c D d, .pointer (some ⟨w.heap.size, 0, none⟩), .slice none 0 0, undef, agB b A c D d, .int .i64 0, .bool false, .pointer (some ⟨w.heap.size, 0, none⟩), .int .i64 b.h, .slice (some ⟨g1, 0, none⟩) 1 1, .slice A1 l1.length c1, .pointer (some ⟨w.heap.size, 1, none⟩), .string (strB b.prev), undef, undef, undef, undef, undef, undef, undef, undef, undef, undef, undef, undef], []⟩ W := by
    intro g1 A1 c1 W HBC G1 F1
    rw [hG]
    have hHeld : ((fun W => W.cell? ⟨w.heap.size, 0, none⟩ = some (.int .i64 b.h) ∧ W.cell? ⟨w.heap.size, 1, none⟩ = some (.string (strB b.prev)))) W := HK.out _ HBC.out
    refine wpAnyH_ready (rs := [6]) (by kernel_rfl) (by simp) ?_
    refine AllReadyH.cons (o := ?o8) ?g8 (fun K hK => ?j8) AllReadyH.nil
    case g8 => (simp only [gA, gB, gC]; rfl)
    case j8 =>
      refine step_conv rfl _ 22 29 rfl _ Try.underlying22 Try.underlying29 Try.underlying5 b.prev rfl (HC1.out) ?_
      intro C1A C1c w' hcs hbm
      have C1 := Lib.hid hcs
      refine hK.out _ _ (by (try dsimp only); exact HK.out _ (bel2M HBC.out hbm)) (fun _ => ?_)
      (try simp only [Act.put, sA, sB, sC])
      refine wpAnyH_norm (fuel' := 2) (listed' := #[true, true, true, true, true, true, true, false, false]) (by kernel_rfl) (by kernel_rfl) ?_
      have hst := st_2_3_6 g1 A1 c1 C1A C1c _ (Lib.hid (bel2M HBC.out hbm)) (Lib.hid (heapB G1.out hbm)) (Lib.hid (F1.out.below hbm (Nat.le_refl _))) C1
      rw [hG] at hst
      exact hst
  have st_6 : ∀ (C1A : Option Addr) (C1c : Nat) (W : World) (HBC : Hid (Below w1.heap.size w1 W)) (C1 : Hid (Bs W (.slice C1A b.prev.length C1c) b.prev)), G 4 #[true, true, false, false, true, true, true, false, false] ⟨#[agB b A c D d, .pointer (some ⟨w.heap.size, 0, none⟩), .slice none 0 0, undef, agB b A c D d, .int .i64 0, .bool false, .pointer (some ⟨w.heap.size, 0, none⟩), .int .i64 b.h, undef, undef, .pointer (some ⟨w.heap.size, 1, none⟩), .string (strB b.prev), .slice C1A b.prev.length C1c, undef, undef, undef, undef, undef, undef, undef, undef, undef, undef, undef], []⟩ W := by
    intro C1A C1c W HBC C1
    rw [hG]
    have hHeld : ((fun W => W.cell? ⟨w.heap.size, 0, none⟩ = some (.int .i64 b.h) ∧ W.cell? ⟨w.heap.size, 1, none⟩ = some (.string (strB b.prev)))) W := HK.out _ HBC.out
    refine wpAnyH_ready (rs := [2]) (by kernel_rfl) (by simp) ?_
    refine AllReadyH.cons (o := ?o9) ?g9 (fun K hK => ?j9) AllReadyH.nil
    case g9 => (simp only [gA, gB, gC]; rfl)
    case j9 =>
      refine step_built rfl 84 1 _ rfl #[.int .i64 b.h] 3 (fun W => by go_simp) ?_
      intro g1 w' hg hbm hge
      have G1 := Lib.hid hg
      refine hK.out _ _ (by (try dsimp only); exact HK.out _ (bel2M HBC.out hbm)) (fun _ => ?_)
      (try simp only [Act.put, sA, sB, sC])
      refine wpAnyH_norm (fuel' := 3) (listed' := #[true, true, true, false, true, true, true, false, false]) (by kernel_rfl) (by kernel_rfl) ?_
      have hst := st_2_6 g1 C1A C1c _ (Lib.hid (bel2M HBC.out hbm)) G1 (Lib.hid (C1.out.below hbm (Nat.le_refl _)))
      rw [hG] at hst
      exact hst
  have st_2 : ∀ (g1 : Nat) (W : World) (HBC : Hid (Below w1.heap.size w1 W)) (G1 : Hid (W.heap[g1]? = some (.cells #[.int .i64 b.h] 3 (0, 0)))), G 4 #[true, true, true, false, true, true, false, false, false] ⟨#[agB b A c D d, .pointer (some ⟨w.heap.size, 0, none⟩), .slice none 0 0, undef, agB b A c D d, .int .i64 0, .bool false, .pointer (some ⟨w.heap.size, 0, none⟩), .int .i64 b.h, .slice (some ⟨g1, 0, none⟩) 1 1, undef, .pointer (some ⟨w.heap.size, 1, none⟩), .string (strB b.prev), undef, undef, undef, undef, undef, undef, undef, undef, undef, undef, undef, undef], []⟩ W := by
    intro g1 W HBC G1
    rw [hG]
    have hHeld : ((fun W => W.cell? ⟨w.heap.size, 0, none⟩ = some (.int .i64 b.h) ∧ W.cell? ⟨w.heap.size, 1, none⟩ = some (.string (strB b.prev)))) W := HK.out _ HBC.out
    refine wpAnyH_ready (rs := [3, 6]) (by kernel_rfl) (by simp) ?_
    refine AllReadyH.cons (o := ?o10) ?g10 (fun K hK => ?j10) (AllReadyH.cons (o := ?o11) ?g11 (fun K hK => ?j11) AllReadyH.nil)
    case g10 => (simp only [gA, gB, gC]; rfl)
    case g11 => (simp only [gA, gB, gC]; rfl)
    case j10 =>
      go_simp
      (go_at_call 29; refine (HP.out _ _ G1.out).mono ?_)
      rintro e wa ⟨va, rfl, hoa, hbm⟩
      obtain ⟨A1, c1, rfl, -⟩ := (own_bs hoa).open
      have F1 := Lib.hid (own_bs hoa)
      refine hK.out _ _ (by (try dsimp only); exact HK.out _ (bel2M HBC.out hbm)) (fun _ => ?_)
      (try simp only [Act.put, sA, sB, sC])
      refine wpAnyH_norm (fuel' := 3) (listed' := #[true, true, true, true, true, true, false, false, false]) (by kernel_rfl) (by kernel_rfl) ?_
      have hst := st_2_3 g1 A1 c1 _ (Lib.hid (bel2M HBC.out hbm)) (Lib.hid (heapB G1.out hbm)) F1
      rw [hG] at hst
      exact hst
    case j11 =>
      refine step_conv rfl _ 22 29 rfl _ Try.underlying22 Try.underlying29 Try.underlying5 b.prev rfl (HC1.out) ?_
      intro C1A C1c w' hcs hbm
      have C1 := Lib.hid hcs
      refine hK.out _ _ (by (try dsimp only); exact HK.out _ (bel2M HBC.out hbm)) (fun _ => ?_)
      (try simp only [Act.put, sA, sB, sC])
      refine wpAnyH_norm (fuel' := 3) (listed' := #[true, true, true, false, true, true, true, false, false]) (by kernel_rfl) (by kernel_rfl) ?_
      have hst := st_2_6 g1 C1A C1c _ (Lib.hid (bel2M HBC.out hbm)) (Lib.hid (heapB G1.out hbm)) C1
      rw [hG] at hst
      exact hst
  have st : ∀  (W : World) (HBC : Hid (Below w1.heap.size w1 W)) , G 5 #[true, true, false, false, true, true, false, false, false] ⟨#[agB b A c D d, .pointer (some ⟨w.heap.size, 0, none⟩), .slice none 0 0, undef, agB b A c D d, .int .i64 0, .bool false, .pointer (some ⟨w.heap.size, 0, none⟩), .int .i64 b.h, undef, undef, .pointer (some ⟨w.heap.size, 1, none⟩), .string (strB b.prev), undef, undef, undef, undef, undef, undef, undef, undef, undef, undef, undef, undef], []⟩ W := by
    intro  W HBC 
    rw [hG]
    have hHeld : ((fun W => W.cell? ⟨w.heap.size, 0, none⟩ = some (.int .i64 b.h) ∧ W.cell? ⟨w.heap.size, 1, none⟩ = some (.string (strB b.prev)))) W := HK.out _ HBC.out
    refine wpAnyH_ready (rs := [2, 6]) (by kernel_rfl) (by simp) ?_
    refine AllReadyH.cons (o := ?o12) ?g12 (fun K hK => ?j12) (AllReadyH.cons (o := ?o13) ?g13 (fun K hK => ?j13) AllReadyH.nil)
    case g12 => (simp only [gA, gB, gC]; rfl)
    case g13 => (simp only [gA, gB, gC]; rfl)
    case j12 =>
      refine step_built rfl 84 1 _ rfl #[.int .i64 b.h] 3 (fun W => by go_simp) ?_
      intro g1 w' hg hbm hge
      have G1 := Lib.hid hg
      refine hK.out _ _ (by (try dsimp only); exact HK.out _ (bel2M HBC.out hbm)) (fun _ => ?_)
      (try simp only [Act.put, sA, sB, sC])
      refine wpAnyH_norm (fuel' := 4) (listed' := #[true, true, true, false, true, true, false, false, false]) (by kernel_rfl) (by kernel_rfl) ?_
      have hst := st_2 g1 _ (Lib.hid (bel2M HBC.out hbm)) G1
      rw [hG] at hst
      exact hst
    case j13 =>
      refine step_conv rfl _ 22 29 rfl _ Try.underlying22 Try.underlying29 Try.underlying5 b.prev rfl (HC1.out) ?_
      intro C1A C1c w' hcs hbm
      have C1 := Lib.hid hcs
      refine hK.out _ _ (by (try dsimp only); exact HK.out _ (bel2M HBC.out hbm)) (fun _ => ?_)
      (try simp only [Act.put, sA, sB, sC])
      refine wpAnyH_norm (fuel' := 4) (listed' := #[true, true, false, false, true, true, true, false, false]) (by kernel_rfl) (by kernel_rfl) ?_
      have hst := st_6 C1A C1c _ (Lib.hid (bel2M HBC.out hbm)) C1
      rw [hG] at hst
      exact hst
  exact st _ (Lib.hid (HBC.out))

def blkA : Blk := ⟨1, [], [(1000, [120])], [(0, 2)]⟩
theorem blkA_check : checkB blkA = 0 := by decide
theorem blkA_leaves : leavesB blkA = [leafB (1000, [120]) (0, 2)] := rfl
theorem blkA_few : FewB blkA := ⟨by decide, by decide, by decide, by intro e he; simp [blkA] at he; subst he; decide⟩
theorem blkA_prove : proveB blkA 0 = ([], 0) := by
  unfold proveB
  rw [if_pos blkA_check, blkA_leaves]
  unfold pathT
  rw [if_pos ⟨Int.le_refl _, by simp⟩, show ((0 : Int).toNat) = 0 from rfl, stepsT_one (by simp)]
theorem blkA_incl : checkT (rootB blkA) (leafB (1000, [120]) (0, 2)) 0 ((leavesB blkA).length : Nat) [] = 0 := by
  have h := checkT_at (root := rootB blkA) (leaf := leafB (1000, [120]) (0, 2)) (a := 0) (b := (leavesB blkA).length) (p := []) (by decide)
  refine h.trans (if_pos ⟨?_, ?_⟩)
  · rw [show (leavesB blkA).length = 1 from rfl, sidesN_one (by decide)]; rfl
  · unfold rootB; rw [blkA_leaves, rootT_one]; rfl
theorem blkA_put : 20 < (putB blkA).length := by
  unfold putB
  rw [if_pos blkA_check, blkA_leaves]
  simp [i8B_length, partB_length, be_length, leafB_length]
  omega
theorem dig_ne (h : Int) (p : List UInt8) (n : Int) (r : List UInt8) : (strB (digB h p n r)).toList.isEmpty = false := by
  have hl : (digB h p n r).length ≠ 0 := by unfold digB; rw [encT_length]; omega
  rw [strB_list]
  rcases hd : digB h p n r with _ | ⟨a, t⟩
  · rw [hd] at hl; exact absurd rfl hl
  · rfl
def awB (w : World) : World := ((((w.alloc (.cells #[.int .u8 120] 5 (1, 2))).alloc (.cells #[.int .i64 1000, .slice (some ⟨w.heap.size, 0, none⟩) 1 1] 32)).alloc (.cells #[.int .i64 1000, .slice (some ⟨w.heap.size, 0, none⟩) 1 1] 32)).alloc (.cells #[.int .i64 0, .int .i64 2] 35)).alloc (.cells #[.int .i64 1, .string ⟨#[]⟩, .slice (some ⟨w.heap.size + 1 + 1, 0, none⟩) 1 1, .slice (some ⟨w.heap.size + 1 + 1 + 1, 0, none⟩) 1 1] 26)
theorem awB_at (w : World) : Below w.heap.size w (awB w) ∧ Bs (awB w) (.slice (some ⟨w.heap.size, 0, none⟩) 1 1) [120] ∧ (awB w).heap[w.heap.size + 1]? = some (.cells #[.int .i64 1000, .slice (some ⟨w.heap.size, 0, none⟩) 1 1] 32 (0, 0)) ∧ (awB w).heap[w.heap.size + 1 + 1]? = some (.cells #[.int .i64 1000, .slice (some ⟨w.heap.size, 0, none⟩) 1 1] 32 (0, 0)) ∧
    (awB w).heap[w.heap.size + 1 + 1 + 1]? = some (.cells #[.int .i64 0, .int .i64 2] 35 (0, 0)) ∧ (awB w).heap[w.heap.size + 1 + 1 + 1 + 1]? = some (.cells #[.int .i64 1, .string ⟨#[]⟩, .slice (some ⟨w.heap.size + 1 + 1, 0, none⟩) 1 1, .slice (some ⟨w.heap.size + 1 + 1 + 1, 0, none⟩) 1 1] 26 (0, 0)) := by
  unfold awB
  have b0 : Bs (w.alloc (.cells #[.int .u8 120] 5 (1, 2))) (.slice (some ⟨w.heap.size, 0, none⟩) 1 1) [120] := Bs.lit w [120] (by simp) (by simp) _ _ rfl rfl _ rfl (1, 2)
  have k1 := alloc1B w (.cells #[.int .u8 120] 5 (1, 2))
  have s1 : (w.alloc (.cells #[.int .u8 120] 5 (1, 2))).heap.size = w.heap.size + 1 := World.size_alloc _ _
  generalize w.alloc (.cells #[.int .u8 120] 5 (1, 2)) = w1 at *
  have h2 := heap_alloc_new w1 (.cells #[.int .i64 1000, .slice (some ⟨w.heap.size, 0, none⟩) 1 1] 32)
  have k2 := alloc1B w1 (.cells #[.int .i64 1000, .slice (some ⟨w.heap.size, 0, none⟩) 1 1] 32)
  have s2 : (w1.alloc (.cells #[.int .i64 1000, .slice (some ⟨w.heap.size, 0, none⟩) 1 1] 32)).heap.size = w.heap.size + 1 + 1 := by rw [World.size_alloc, s1]
  rw [s1] at h2
  generalize w1.alloc (.cells #[.int .i64 1000, .slice (some ⟨w.heap.size, 0, none⟩) 1 1] 32) = w2 at *
  have h3 := heap_alloc_new w2 (.cells #[.int .i64 1000, .slice (some ⟨w.heap.size, 0, none⟩) 1 1] 32)
  have k3 := alloc1B w2 (.cells #[.int .i64 1000, .slice (some ⟨w.heap.size, 0, none⟩) 1 1] 32)
  have s3 : (w2.alloc (.cells #[.int .i64 1000, .slice (some ⟨w.heap.size, 0, none⟩) 1 1] 32)).heap.size = w.heap.size + 1 + 1 + 1 := by rw [World.size_alloc, s2]
  rw [s2] at h3
  generalize w2.alloc (.cells #[.int .i64 1000, .slice (some ⟨w.heap.size, 0, none⟩) 1 1] 32) = w3 at *
  have h4 := heap_alloc_new w3 (.cells #[.int .i64 0, .int .i64 2] 35)
  have k4 := alloc1B w3 (.cells #[.int .i64 0, .int .i64 2] 35)
  have s4 : (w3.alloc (.cells #[.int .i64 0, .int .i64 2] 35)).heap.size = w.heap.size + 1 + 1 + 1 + 1 := by rw [World.size_alloc, s3]
  rw [s3] at h4
  generalize w3.alloc (.cells #[.int .i64 0, .int .i64 2] 35) = w4 at *
  have h5 := heap_alloc_new w4 (.cells #[.int .i64 1, .string ⟨#[]⟩, .slice (some ⟨w.heap.size + 1 + 1, 0, none⟩) 1 1, .slice (some ⟨w.heap.size + 1 + 1 + 1, 0, none⟩) 1 1] 26)
  have k5 := alloc1B w4 (.cells #[.int .i64 1, .string ⟨#[]⟩, .slice (some ⟨w.heap.size + 1 + 1, 0, none⟩) 1 1, .slice (some ⟨w.heap.size + 1 + 1 + 1, 0, none⟩) 1 1] 26)
  rw [s4] at h5
  exact ⟨bel2M (bel2M (bel2M (bel2M k1 k2) k3) k4) k5, b0.below (bel2M (bel2M (bel2M k2 k3) k4) k5) (Nat.le_refl _), heapB h2 (bel2M (bel2M k3 k4) k5), heapB h3 (bel2M k4 k5), heapB h4 k5, h5⟩
theorem awB_blk (w : World) : BlkK (awB w) blkA (some ⟨w.heap.size + 1 + 1, 0, none⟩) 1 (some ⟨w.heap.size + 1 + 1 + 1, 0, none⟩) 1 := by
  obtain ⟨-, h1, -, h3, h4, -⟩ := awB_at w
  refine ⟨⟨Nat.le_refl _, by unfold maxLen; decide, (fun h => by cases h), fun j hj => ?_⟩, ⟨Nat.le_refl _, by unfold maxLen; decide, (fun h => by cases h), fun j hj => ?_⟩⟩
  · obtain rfl : j = 0 := by simp [blkA] at hj; omega
    exact ⟨_, rfl, (Array.getElem?_eq_some_iff.1 h3).1, rowCell h3 0 _ rfl, _, rowCell h3 1 _ rfl, h1⟩
  · obtain rfl : j = 0 := by simp [blkA] at hj; omega
    exact ⟨_, rfl, (Array.getElem?_eq_some_iff.1 h4).1, rowCell h4 0 _ rfl, rowCell h4 1 _ rfl⟩
set_option maxHeartbeats 2000000 in
theorem awake10_any (w : World) : Calls Try.prog 18 #[] w (Yes w) := by
  have hcv : ∀ (w : World) (C : Array Value) (n c b : Nat), b = w.heap.size → (convert 29 29 (.slice (some ⟨b, 0, none⟩) n c)).run Try.prog (w.alloc (.cells C 5)) = .ok (.slice (some ⟨b, 0, none⟩) n c) (w.alloc (.cells C 5 (C.size, C.size + 1))) := by
    intro w C n c b hb
    subst hb
    exact Lib.run_convert_bytes_const (P := Try.prog) w 29 5 C n c Try.underlying29 Try.underlying5
  obtain ⟨hb, hbs, h1, h2, h3, h4⟩ := awB_at w
  have hk := awB_blk w
  have HPV := Lib.hid (show Calls Try.prog 19 #[.agg #[.int .i64 1, .string ⟨#[]⟩, .slice (some ⟨w.heap.size + 1 + 1, 0, none⟩) 1 1, .slice (some ⟨w.heap.size + 1 + 1 + 1, 0, none⟩) 1 1], .int .i64 0] (awB w) (PathX ([], 0) (awB w)) from blkA_prove ▸ bProve_any blkA _ 1 _ 1 0 (awB w) hk blkA_few)
  have HHD := Lib.hid (fun W (h : Below (awB w).heap.size (awB w) W) => show Calls Try.prog 12 #[.agg #[.int .i64 1, .string ⟨#[]⟩, .slice (some ⟨w.heap.size + 1 + 1, 0, none⟩) 1 1, .slice (some ⟨w.heap.size + 1 + 1 + 1, 0, none⟩) 1 1]] W (HdP blkA W) from bHeader_any blkA _ 1 _ 1 W (hk.below h) blkA_few)
  have HPT := Lib.hid (fun W (h : Below (awB w).heap.size (awB w) W) => show Calls Try.prog 27 #[.agg #[.int .i64 1, .string ⟨#[]⟩, .slice (some ⟨w.heap.size + 1 + 1, 0, none⟩) 1 1, .slice (some ⟨w.heap.size + 1 + 1 + 1, 0, none⟩) 1 1]] W (Puts W (putB blkA)) from bPut_any blkA _ 1 _ 1 W (hk.below h) blkA_few)
  have HC1 := Lib.hid (fun W => show Calls Try.prog 14 #[.agg #[.int .i64 0, .string ⟨#[]⟩, .slice none 0 0, .slice none 0 0]] W (ChkP 100 W) from bCheck_any zeroB none 0 none 0 W (by decide) (by decide))
  have HC2 := Lib.hid (fun g W => show Calls Try.prog 14 #[.agg #[.int .i64 1, .string ⟨#[]⟩, .slice (some ⟨g, 0, none⟩) 1 1, .slice none 0 0]] W (ChkP 102 W) from bCheck_any ⟨1, [], [(1000, [120])], []⟩ (some ⟨g, 0, none⟩) 1 none 0 W (by decide) (by decide))
  have HIN := Lib.hid (fun PA pc W (h : Below (awB w).heap.size (awB w) W) (hp : PthK W PA pc []) => show Calls Try.prog 22 #[agH 1 [] ((leavesB blkA).length : Nat) (rootB blkA), .int .i64 0, .agg #[.int .i64 1000, .slice (some ⟨w.heap.size, 0, none⟩) 1 1], .agg #[.int .i64 0, .int .i64 2], .slice PA 0 pc] W (ChkP 0 W) from blkA_incl ▸ bIncl_any 1 [] ((leavesB blkA).length : Nat) (rootB blkA) 0 (1000, [120]) _ (0, 2) [] PA pc W (by decide) (hbs.below h (Nat.le_refl _)) (by decide) hp ⟨by simp, by intro s hs; simp at hs⟩)
  have HDG := Lib.hid (fun W => bDigest_any 1 [] ((leavesB blkA).length : Nat) (rootB blkA) W (by simp) (by have := blkA_few.root; omega))
  have hdn := dig_ne 1 [] ((leavesB blkA).length : Nat) (rootB blkA)
  have hpl := blkA_put
  have hpl2 : (20 : Int) < ((putB blkA).length : Int) := by omega
  have HB := Lib.hid hb
  have HX1 := Lib.hid h1
  have HX4 := Lib.hid h4
  unfold HdP at HHD
  clear hb hbs h1 h2 h3 h4 hk hpl
  rw [show blkA.h = 1 from rfl, show blkA.prev = [] from rfl] at HHD
  generalize digB 1 [] ((leavesB blkA).length : Nat) (rootB blkA) = dg at *
  generalize putB blkA = pb at *
  generalize rootB blkA = rt at *
  generalize (leavesB blkA).length = n at *
  have HW0 := Lib.hid (show awB w = ((((w.alloc (.cells #[.int .u8 120] 5 (1, 2))).alloc (.cells #[.int .i64 1000, .slice (some ⟨w.heap.size, 0, none⟩) 1 1] 32)).alloc (.cells #[.int .i64 1000, .slice (some ⟨w.heap.size, 0, none⟩) 1 1] 32)).alloc (.cells #[.int .i64 0, .int .i64 2] 35)).alloc (.cells #[.int .i64 1, .string ⟨#[]⟩, .slice (some ⟨w.heap.size + 1 + 1, 0, none⟩) 1 1, .slice (some ⟨w.heap.size + 1 + 1 + 1, 0, none⟩) 1 1] 26) from rfl)
  generalize hw0 : awB w = w0 at *
  clear hw0
  go_enter Try.func18, Try.ntmps18
  go_wp2_with (go_at_call 19; rw [← HW0.out]; refine HPV.out.mono ?_; rintro e w1 ⟨PA, pc, rfl, hpk, hb1⟩; have HPK := Lib.hid hpk; have HB1 := Lib.hid hb1; clear hpk hb1)
  have HK := Lib.hid (show ∀ W, Below w0.heap.size w0 W → (fun W => W.cell? ⟨w.heap.size + 1, 0, none⟩ = some (.int .i64 1000) ∧ W.cell? ⟨w.heap.size + 1, 1, none⟩ = some (.slice (some ⟨w.heap.size, 0, none⟩) 1 1) ∧ W.cell? ⟨w.heap.size + 1 + 1 + 1 + 1, 0, none⟩ = some (.int .i64 1) ∧ W.cell? ⟨w.heap.size + 1 + 1 + 1 + 1, 1, none⟩ = some (.string ⟨#[]⟩) ∧ W.cell? ⟨w.heap.size + 1 + 1 + 1 + 1, 2, none⟩ = some (.slice (some ⟨w.heap.size + 1 + 1, 0, none⟩) 1 1) ∧ W.cell? ⟨w.heap.size + 1 + 1 + 1 + 1, 3, none⟩ = some (.slice (some ⟨w.heap.size + 1 + 1 + 1, 0, none⟩) 1 1)) W from fun W h => ⟨cellB (rowCell HX1.out 0 _ rfl) h, cellB (rowCell HX1.out 1 _ rfl) h, cellB (rowCell HX4.out 0 _ rfl) h, cellB (rowCell HX4.out 1 _ rfl) h, cellB (rowCell HX4.out 2 _ rfl) h, cellB (rowCell HX4.out 3 _ rfl) h⟩)
  have HBC := Lib.hid (show Below w0.heap.size w0 w1.drew from HB1.out.drew)
  have HP0 := Lib.hid (show PthK w1.drew PA pc [] from HPK.out)
  clear HX1 HX4 HPV HPK
  go_region_held3 (fun W => W.cell? ⟨w.heap.size + 1, 0, none⟩ = some (.int .i64 1000) ∧ W.cell? ⟨w.heap.size + 1, 1, none⟩ = some (.slice (some ⟨w.heap.size, 0, none⟩) 1 1) ∧ W.cell? ⟨w.heap.size + 1 + 1 + 1 + 1, 0, none⟩ = some (.int .i64 1) ∧ W.cell? ⟨w.heap.size + 1 + 1 + 1 + 1, 1, none⟩ = some (.string ⟨#[]⟩) ∧ W.cell? ⟨w.heap.size + 1 + 1 + 1 + 1, 2, none⟩ = some (.slice (some ⟨w.heap.size + 1 + 1, 0, none⟩) 1 1) ∧ W.cell? ⟨w.heap.size + 1 + 1 + 1 + 1, 3, none⟩ = some (.slice (some ⟨w.heap.size + 1 + 1 + 1, 0, none⟩) 1 1)) (first | exact HK.out _ HBC.out | exact HK.out _ (bel2M HBC.out (alloc1B _ _))) (first
    | (go_at_call_of 14 ([Value.agg #[.int .i64 0, .string ⟨#[]⟩, .slice none 0 0, .slice none 0 0]]); refine (HC1.out _).mono ?_; rintro e wx ⟨rfl, hbm⟩; (try replace HP0 := Lib.hid (PthK.below HP0.out hbm)); replace HBC := Lib.hid (bel2M HBC.out hbm); clear hbm)
    | (go_at_call 14; refine (HC2.out _ _).mono ?_; rintro e wx ⟨rfl, hbm⟩; replace HP0 := Lib.hid (PthK.below (PthK.below HP0.out (alloc1B _ _)) hbm); replace HBC := Lib.hid (bel2M (bel2M HBC.out (alloc1B _ _)) hbm); clear hbm)
    | (go_at_call 12; refine (HHD.out _ HBC.out).mono ?_; rintro e wx ⟨rfl, hbm⟩; (try replace HP0 := Lib.hid (PthK.below HP0.out hbm)); replace HBC := Lib.hid (bel2M HBC.out hbm); clear hbm)
    | (go_at_call 22; refine (HIN.out _ _ _ HBC.out HP0.out).mono ?_; rintro e wx ⟨rfl, hbm⟩; (try replace HP0 := Lib.hid (PthK.below HP0.out hbm)); replace HBC := Lib.hid (bel2M HBC.out hbm); clear hbm)
    | (go_at_call 27; refine (HPT.out _ HBC.out).mono ?_; rintro e wx ⟨vx, rfl, hox, hbm⟩; obtain ⟨Ax, cx, rfl, -⟩ := (own_bs hox).open; clear hox; replace HBC := Lib.hid (bel2M HBC.out hbm); clear hbm)
    | (go_at_call 16; refine (HDG.out _).mono ?_; rintro e wx ⟨rfl, hbm⟩; replace HBC := Lib.hid (bel2M HBC.out hbm); clear hbm))
  go_wp2
  go_ret
  exact ⟨rfl, bel2M HB.out HBC.out⟩

theorem step_alloc {P : Program} {w : World} {ops : Array Oper} {o : Oper} {a : Act} {K : Act → World → Prop} {Q : Exit → Act → World → Prop} {E : Prop}
    (hgd : o.guard = none) (t : TypeId) (ho : o.op = .alloc t) (cs : Array Value) (e : TypeId)
    (hrun : ∀ W, (Instr.alloc t true (.tuple #[])).run P W = .ok (.pointer (some ⟨W.heap.size, 0, none⟩)) (W.alloc (.cells cs e)))
    (h : ∀ g w', w'.heap[g]? = some (.cells cs e (0, 0)) → Below w.heap.size w w' → w.heap.size ≤ g → K (a.put o.dst (.pointer (some ⟨g, 0, none⟩))) w') :
    if Region.wanted o (yielded ops a.tmps) = true then Oper.wp P o a w K Q else E := by
  have hw : Region.wanted o (yielded ops a.tmps) = true := by simp [Region.wanted, hgd]
  rw [if_pos hw]
  unfold Oper.wp execOp
  simp only [ho, hrun, Sem.run_bind, Sem.run_pure, Result.andThen_ok]
  exact h _ _ (heap_alloc_new w _) ((Below.refl _ _).alloc (Nat.le_refl _) _) (Nat.le_refl _)
theorem step_store {w : World} {ops : Array Oper} {o : Oper} {a : Act} {K : Act → World → Prop} {Q : Exit → Act → World → Prop} {E : Prop}
    (hgd : o.guard = none) (ty : TypeId) (x y : Operand) (ho : o.op = .store ty x y)
    (b : Nat) (cells cur : Array Value) (hx : a.eval x = .pointer (some ⟨b, 0, none⟩)) (hy : a.eval y = .agg cells)
    (hh : w.heap[b]? = some (.cells cur ty (0, 0))) (hs : cur.size = cells.size) (hi : (Try.prog.info? ty).map (·.size) = some cells.size) (h1 : ∀ u ∈ cells.toList, u.oneCell' = true)
    (h : ∀ w', w'.heap[b]? = some (.cells cells ty (0, 0)) → Only b w w' → K (a.put o.dst undef) w') :
    if Region.wanted o (yielded ops a.tmps) = true then Oper.wp Try.prog o a w K Q else E := by
  have hw : Region.wanted o (yielded ops a.tmps) = true := by simp [Region.wanted, hgd]
  rw [if_pos hw]
  exact wp_store_row ty x y ho b cells cur hx hy hh hs hi (by rw [Array.all_eq_true']; exact fun u hu => h1 u (by simpa using hu)) (h _ (setRow_heap w b cur cells ty (0, 0) hh) (only_setRow w b cells))
theorem onlyHeap {w w' : World} {b g : Nat} {o : Obj} (h : Only b w w') (hg : w.heap[g]? = some o) (hne : g ≠ b) : w'.heap[g]? = some o := (h.block g (Array.getElem?_eq_some_iff.1 hg).1 (by intro e; injection e with e; exact hne e)).trans hg
theorem onlyCell {w w' : World} {b : Nat} {p : Addr} {x : Value} (h : Only b w w') (hp : w.cell? p = some x) (hne : p.block ≠ b) : w'.cell? p = some x := (World.cell?_of_block (h.block p.block (World.block_lt_of_cell? _ _ hp) (by intro e; injection e with e; exact hne e))).trans hp
theorem onlyBelow {a w w' : World} {b B : Nat} (h : Below B a w) (ho : Only b w w') (hb : B ≤ b) (hB : B ≤ a.heap.size) : Below B a w' := h.trans (Only.to_below ho (Nat.le_trans hB h.size) hb)

end Go.Proofs.Ytoedjlknhhddfaa
