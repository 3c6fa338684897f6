/- sk: HLaw3 HArgs (made by shake.py). -/
import Derived.Deep.CutRange
import Derived.Test.YticfnjihjpgneaaGreatsj
namespace Go.Proofs.YticfnjihjpgneaaGreat
open Go.RowKit
set_option linter.unusedVariables false
set_option linter.unusedSimpArgs false
set_option maxRecDepth 20000

def CertsP (N g bm g2 : Nat) (f c v s p p2 : Int) (vs us : List Vt) (T : Nat → Prop) (w : World) (sa sb : Value) (wx : World) : Prop :=
  ∃ bk bl BA bc RA rc xs BB bd RB rd ys T' K0 K9 L0 L9, sa = .pointer (some ⟨bk, 0, none⟩) ∧ sb = .pointer (some ⟨bl, 0, none⟩) ∧ Bth wx N g bm g2 f c (mdL f c v s p2 (mdL f c v s p [] vs) us) T' ∧ Turn T bm w wx T' ∧
    Held T' bm wx bk #[.int .i64 (mdP f p v), .slice BA (encD (mdPre v s)).length bc, .slice RA xs.length rc] 38 ∧ Held T' bm wx bl #[.int .i64 (mdP f p2 v), .slice BB (encD (mdPre v s)).length bd, .slice RB ys.length rd] 38 ∧
    HeldW T' bm K0 K9 wx (.slice BA (encD (mdPre v s)).length bc) (encD (mdPre v s)) ∧ OwnR T' bm K0 K9 wx (.slice RA xs.length rc) xs (vs.map (mdV v s)) ∧ HeldW T' bm L0 L9 wx (.slice BB (encD (mdPre v s)).length bd) (encD (mdPre v s)) ∧ OwnR T' bm L0 L9 wx (.slice RB ys.length rd) ys (us.map (mdV v s)) ∧
    bk ≠ bl ∧ (bk < K0 ∨ K9 ≤ bk) ∧ (bk < L0 ∨ L9 ≤ bk) ∧ (bl < K0 ∨ K9 ≤ bl) ∧ (bl < L0 ∨ L9 ≤ bl) ∧ K9 ≤ L0 ∧ w.heap.size ≤ bk ∧ w.heap.size ≤ bl ∧ K9 ≤ wx.heap.size ∧ L9 ≤ wx.heap.size ∧ w.heap.size ≤ K9
theorem size_of {W : World} {N g bm g2 : Nat} {f c : Int} {L : List (Int × List UInt8)} {T : Nat → Prop} (h : Bth W N g bm g2 f c L T) : ∃ B, W.heap.size = B := ⟨_, rfl⟩
theorem one_fin {f c v s p pr : Int} {vs : List Vt} {L es2 : List (Int × List UInt8)} {b5 : List UInt8} (hf : 0 ≤ f) (hv : 0 ≤ v ∧ v < 1073741824) (hs : 0 < s ∧ s < 1073741824) (hpr : primE f v = pr)
    (h1 : (prepA ⟨f, c, L⟩ ((mdP f p v, encD (mdPre v s)), vs.map (mdV v s))).2 = 0) (h2 : (prepA ⟨f, c, L⟩ ((pr, b5), es2)).2 = 0) (both : List Int) (hb : pr ∈ both) (hc : ∀ x, x ∈ (vs.map (mdV v s)).map (·.1) → x ∈ es2.map (·.1) → x ∈ both) : f < cntP f both := by
  have hp : repB f pr = true := by rw [← hpr]; exact rep_prim hf hv.1
  have he : mdP f p v = pr := by
    obtain ⟨a1, -⟩ := prep_yes (K := ⟨f, c, L⟩) hf h1
    obtain ⟨-, b2, -, -, b5, -⟩ := pre_yes a1
    have hd := (dec_encD (mdPre_ok hv hs) (mdM2 v s) b2).1
    have b5 : mdP f p v = primE f (decM (encD (mdPre v s))).1.v := b5
    rw [hd] at b5
    rw [b5, ← hpr]
    rfl
  exact one_yes (K := ⟨f, c, L⟩) hf h1 h2 hp he rfl ⟨hb, hc⟩
theorem frozen_box {w : World} {b : Nat} {cs : Array Value} {t : TypeId} (h : w.heap[b]? = some (.cells cs t (0, 0))) (j : Nat) : w.frozen? ⟨b, j, none⟩ = false := by simp [World.frozen?, h]
set_option maxHeartbeats 8000000 in
theorem CertOne_any (F C v s p : Int) (A : Option Addr) (cc : Nat) (vs : List Vt) (v2 s2 p2 : Int) (D : Option Addr) (dd : Nat) (us : List Vt) (w : World) (hvs : VtK w A cc vs) (hus : VtK w D dd us) (hp : ok64 p) (hp2 : ok64 p2) (hok : ∀ x ∈ vs, ok64 x.s) (hok2 : ∀ x ∈ us, ok64 x.s) : Calls Tryz.prog 3 #[.agg #[.int .i64 F, .int .i64 C], .agg #[.int .i64 v, .int .i64 s, .int .i64 p, .slice A vs.length cc], .agg #[.int .i64 v2, .int .i64 s2, .int .i64 p2, .slice D us.length dd]] w (AskB true w) := by
  obtain ⟨x1, x2, x3⟩ := box2B w #[.int .i64 F, .int .i64 C] #[.int .i64 v, .int .i64 s, .int .i64 p, .slice A vs.length cc] 23 26
  have x4 := heapB x1 (alloc1B _ (.cells #[.int .i64 v2, .int .i64 s2, .int .i64 p2, .slice D us.length dd] 26))
  have x5 := heapB x2 (alloc1B _ (.cells #[.int .i64 v2, .int .i64 s2, .int .i64 p2, .slice D us.length dd] 26))
  have x6 := bel2M x3 (alloc1B _ (.cells #[.int .i64 v2, .int .i64 s2, .int .i64 p2, .slice D us.length dd] 26))
  have x7 := heap_alloc_new ((w.alloc (.cells #[.int .i64 F, .int .i64 C] 23)).alloc (.cells #[.int .i64 v, .int .i64 s, .int .i64 p, .slice A vs.length cc] 26)) (.cells #[.int .i64 v2, .int .i64 s2, .int .i64 p2, .slice D us.length dd] 26)
  have hz : ((w.alloc (.cells #[.int .i64 F, .int .i64 C] 23)).alloc (.cells #[.int .i64 v, .int .i64 s, .int .i64 p, .slice A vs.length cc] 26)).heap.size = w.heap.size + 2 := by simp
  rw [hz] at x7
  clear x1 x2 x3 hz
  have HBN1 := Lib.hid (fun W => bounds_any v s p A vs.length cc W)
  have HBN2 := Lib.hid (fun W => bounds_any v2 s2 p2 D us.length dd W)
  have HAW := Lib.hid (fun W => awake13_any W)
  have HVS := Lib.hid hvs
  have HUS := Lib.hid hus
  have HP := Lib.hid hp
  have HP2 := Lib.hid hp2
  have HOK := Lib.hid hok
  have HOK2 := Lib.hid hok2
  clear hvs hus hp hp2 hok hok2
  rcases hb : bndC v s vs.length with _ | _
  · rw [hb] at HBN1
    clear hb
    go_enter Tryz.func3, Tryz.ntmps3
    go_upto_region 1 with fail
    generalize hw0 : ((w.alloc _).alloc _).alloc _ = w0 at *
    have HS0 := Lib.hid x4
    have HC0 := Lib.hid x5
    have HD0 := Lib.hid x7
    have HB0 := Lib.hid x6
    clear x4 x5 x6 x7 hw0
    have s0 := rowCell HS0.out 0 (.int .i64 F) rfl
    have s1 := rowCell HS0.out 1 (.int .i64 C) rfl
    have c0 := rowCell HC0.out 0 (.int .i64 v) rfl
    have c1 := rowCell HC0.out 1 (.int .i64 s) rfl
    have c2 := rowCell HC0.out 2 (.int .i64 p) rfl
    have c3 := rowCell HC0.out 3 (.slice A vs.length cc) rfl
    have d0 := rowCell HD0.out 0 (.int .i64 v2) rfl
    have d1 := rowCell HD0.out 1 (.int .i64 s2) rfl
    have d2 := rowCell HD0.out 2 (.int .i64 p2) rfl
    have d3 := rowCell HD0.out 3 (.slice D us.length dd) rfl
    go_wp2_with (first
      | (go_at_call_of 12 (Value.int .i64 v); refine (HBN1.out _).mono ?_; rintro e w1 ⟨rfl, hb⟩; have HB0 := Lib.hid (bel2M HB0.out hb); have HS0 := Lib.hid (heapB HS0.out hb); have HC0 := Lib.hid (heapB HC0.out hb); have HD0 := Lib.hid (heapB HD0.out hb); clear s0 s1 c0 c1 c2 c3 d0 d1 d2 d3; have s0 := rowCell HS0.out 0 (.int .i64 F) rfl; have s1 := rowCell HS0.out 1 (.int .i64 C) rfl; have c0 := rowCell HC0.out 0 (.int .i64 v) rfl; have c1 := rowCell HC0.out 1 (.int .i64 s) rfl; have c2 := rowCell HC0.out 2 (.int .i64 p) rfl; have c3 := rowCell HC0.out 3 (.slice A vs.length cc) rfl; have d0 := rowCell HD0.out 0 (.int .i64 v2) rfl; have d1 := rowCell HD0.out 1 (.int .i64 s2) rfl; have d2 := rowCell HD0.out 2 (.int .i64 p2) rfl; have d3 := rowCell HD0.out 3 (.slice D us.length dd) rfl; clear hb)
      | (go_at_call_of 12 (Value.int .i64 v2); refine (HBN2.out _).mono ?_; rintro e w2 ⟨rfl, hb⟩; have HB0 := Lib.hid (bel2M HB0.out hb); have HS0 := Lib.hid (heapB HS0.out hb); have HC0 := Lib.hid (heapB HC0.out hb); have HD0 := Lib.hid (heapB HD0.out hb); clear s0 s1 c0 c1 c2 c3 d0 d1 d2 d3; have s0 := rowCell HS0.out 0 (.int .i64 F) rfl; have s1 := rowCell HS0.out 1 (.int .i64 C) rfl; have c0 := rowCell HC0.out 0 (.int .i64 v) rfl; have c1 := rowCell HC0.out 1 (.int .i64 s) rfl; have c2 := rowCell HC0.out 2 (.int .i64 p) rfl; have c3 := rowCell HC0.out 3 (.slice A vs.length cc) rfl; have d0 := rowCell HD0.out 0 (.int .i64 v2) rfl; have d1 := rowCell HD0.out 1 (.int .i64 s2) rfl; have d2 := rowCell HD0.out 2 (.int .i64 p2) rfl; have d3 := rowCell HD0.out 3 (.slice D us.length dd) rfl; clear hb)
      | (go_at_call 13; refine (HAW.out _).mono ?_; rintro e wz ⟨rfl, hb⟩; have HB0 := Lib.hid (bel2M HB0.out hb); clear hb))
    go_ret
    exact ⟨rfl, HB0.out⟩
  rw [hb] at HBN1
  have HBI := Lib.hid (bnd_iff hb)
  clear hb
  rcases hb : bndC v2 s2 us.length with _ | _
  · rw [hb] at HBN2
    clear hb
    go_enter Tryz.func3, Tryz.ntmps3
    go_upto_region 1 with fail
    generalize hw0 : ((w.alloc _).alloc _).alloc _ = w0 at *
    have HS0 := Lib.hid x4
    have HC0 := Lib.hid x5
    have HD0 := Lib.hid x7
    have HB0 := Lib.hid x6
    clear x4 x5 x6 x7 hw0
    have s0 := rowCell HS0.out 0 (.int .i64 F) rfl
    have s1 := rowCell HS0.out 1 (.int .i64 C) rfl
    have c0 := rowCell HC0.out 0 (.int .i64 v) rfl
    have c1 := rowCell HC0.out 1 (.int .i64 s) rfl
    have c2 := rowCell HC0.out 2 (.int .i64 p) rfl
    have c3 := rowCell HC0.out 3 (.slice A vs.length cc) rfl
    have d0 := rowCell HD0.out 0 (.int .i64 v2) rfl
    have d1 := rowCell HD0.out 1 (.int .i64 s2) rfl
    have d2 := rowCell HD0.out 2 (.int .i64 p2) rfl
    have d3 := rowCell HD0.out 3 (.slice D us.length dd) rfl
    go_wp2_with (first
      | (go_at_call_of 12 (Value.int .i64 v); refine (HBN1.out _).mono ?_; rintro e w1 ⟨rfl, hb⟩; have HB0 := Lib.hid (bel2M HB0.out hb); have HS0 := Lib.hid (heapB HS0.out hb); have HC0 := Lib.hid (heapB HC0.out hb); have HD0 := Lib.hid (heapB HD0.out hb); clear s0 s1 c0 c1 c2 c3 d0 d1 d2 d3; have s0 := rowCell HS0.out 0 (.int .i64 F) rfl; have s1 := rowCell HS0.out 1 (.int .i64 C) rfl; have c0 := rowCell HC0.out 0 (.int .i64 v) rfl; have c1 := rowCell HC0.out 1 (.int .i64 s) rfl; have c2 := rowCell HC0.out 2 (.int .i64 p) rfl; have c3 := rowCell HC0.out 3 (.slice A vs.length cc) rfl; have d0 := rowCell HD0.out 0 (.int .i64 v2) rfl; have d1 := rowCell HD0.out 1 (.int .i64 s2) rfl; have d2 := rowCell HD0.out 2 (.int .i64 p2) rfl; have d3 := rowCell HD0.out 3 (.slice D us.length dd) rfl; clear hb)
      | (go_at_call_of 12 (Value.int .i64 v2); refine (HBN2.out _).mono ?_; rintro e w2 ⟨rfl, hb⟩; have HB0 := Lib.hid (bel2M HB0.out hb); have HS0 := Lib.hid (heapB HS0.out hb); have HC0 := Lib.hid (heapB HC0.out hb); have HD0 := Lib.hid (heapB HD0.out hb); clear s0 s1 c0 c1 c2 c3 d0 d1 d2 d3; have s0 := rowCell HS0.out 0 (.int .i64 F) rfl; have s1 := rowCell HS0.out 1 (.int .i64 C) rfl; have c0 := rowCell HC0.out 0 (.int .i64 v) rfl; have c1 := rowCell HC0.out 1 (.int .i64 s) rfl; have c2 := rowCell HC0.out 2 (.int .i64 p) rfl; have c3 := rowCell HC0.out 3 (.slice A vs.length cc) rfl; have d0 := rowCell HD0.out 0 (.int .i64 v2) rfl; have d1 := rowCell HD0.out 1 (.int .i64 s2) rfl; have d2 := rowCell HD0.out 2 (.int .i64 p2) rfl; have d3 := rowCell HD0.out 3 (.slice D us.length dd) rfl; clear hb)
      | (go_at_call 13; refine (HAW.out _).mono ?_; rintro e wz ⟨rfl, hb⟩; have HB0 := Lib.hid (bel2M HB0.out hb); clear hb))
    go_ret
    exact ⟨rfl, HB0.out⟩
  rw [hb] at HBN2
  have HBI2 := Lib.hid (bnd_iff hb)
  clear hb
  go_enter Tryz.func3, Tryz.ntmps3
  go_upto_region 1 with fail
  generalize hw0 : ((w.alloc _).alloc _).alloc _ = w0 at *
  have HS0 := Lib.hid x4
  have HC0 := Lib.hid x5
  have HD0 := Lib.hid x7
  have HB0 := Lib.hid x6
  clear x4 x5 x6 x7 hw0
  have s0 := rowCell HS0.out 0 (.int .i64 F) rfl
  have s1 := rowCell HS0.out 1 (.int .i64 C) rfl
  have c0 := rowCell HC0.out 0 (.int .i64 v) rfl
  have c1 := rowCell HC0.out 1 (.int .i64 s) rfl
  have c2 := rowCell HC0.out 2 (.int .i64 p) rfl
  have c3 := rowCell HC0.out 3 (.slice A vs.length cc) rfl
  have d0 := rowCell HD0.out 0 (.int .i64 v2) rfl
  have d1 := rowCell HD0.out 1 (.int .i64 s2) rfl
  have d2 := rowCell HD0.out 2 (.int .i64 p2) rfl
  have d3 := rowCell HD0.out 3 (.slice D us.length dd) rfl
  go_upto_region 4 with (first
    | (go_at_call_of 12 (Value.int .i64 v); refine (HBN1.out _).mono ?_; rintro e w1 ⟨rfl, hb⟩; have HB0 := Lib.hid (bel2M HB0.out hb); have HS0 := Lib.hid (heapB HS0.out hb); have HC0 := Lib.hid (heapB HC0.out hb); have HD0 := Lib.hid (heapB HD0.out hb); clear s0 s1 c0 c1 c2 c3 d0 d1 d2 d3; have s0 := rowCell HS0.out 0 (.int .i64 F) rfl; have s1 := rowCell HS0.out 1 (.int .i64 C) rfl; have c0 := rowCell HC0.out 0 (.int .i64 v) rfl; have c1 := rowCell HC0.out 1 (.int .i64 s) rfl; have c2 := rowCell HC0.out 2 (.int .i64 p) rfl; have c3 := rowCell HC0.out 3 (.slice A vs.length cc) rfl; have d0 := rowCell HD0.out 0 (.int .i64 v2) rfl; have d1 := rowCell HD0.out 1 (.int .i64 s2) rfl; have d2 := rowCell HD0.out 2 (.int .i64 p2) rfl; have d3 := rowCell HD0.out 3 (.slice D us.length dd) rfl; clear hb)
    | (go_at_call_of 12 (Value.int .i64 v2); refine (HBN2.out _).mono ?_; rintro e w2 ⟨rfl, hb⟩; have HB0 := Lib.hid (bel2M HB0.out hb); have HS0 := Lib.hid (heapB HS0.out hb); have HC0 := Lib.hid (heapB HC0.out hb); have HD0 := Lib.hid (heapB HD0.out hb); clear s0 s1 c0 c1 c2 c3 d0 d1 d2 d3; have s0 := rowCell HS0.out 0 (.int .i64 F) rfl; have s1 := rowCell HS0.out 1 (.int .i64 C) rfl; have c0 := rowCell HC0.out 0 (.int .i64 v) rfl; have c1 := rowCell HC0.out 1 (.int .i64 s) rfl; have c2 := rowCell HC0.out 2 (.int .i64 p) rfl; have c3 := rowCell HC0.out 3 (.slice A vs.length cc) rfl; have d0 := rowCell HD0.out 0 (.int .i64 v2) rfl; have d1 := rowCell HD0.out 1 (.int .i64 s2) rfl; have d2 := rowCell HD0.out 2 (.int .i64 p2) rfl; have d3 := rowCell HD0.out 3 (.slice D us.length dd) rfl; clear hb)
    | (go_at_call 14; go_loud (refine (begun_any F C _).mono ?_; rintro e wB ⟨g, bm, g2, T, rfl, hbt, hbb⟩; have HBT := Lib.hid hbt; have HSL := Lib.hid (show w.heap.size + 2 < w2.heap.size from (Array.getElem?_eq_some_iff.1 HD0.out).1); have HLB := Lib.hid HB0.out; have HNB := Lib.hid (show w2.heap.size ≤ wB.heap.size from hbb.size); have HB0 := Lib.hid (bel2M HB0.out hbb); have HC0 := Lib.hid (heapB HC0.out hbb); have HD0 := Lib.hid (heapB HD0.out hbb); clear s0 s1 c0 c1 c2 c3 d0 d1 d2 d3 hbt hbb)))
  have HX := Lib.hid (Held.new (cs := #[.pointer (some ⟨g, 0, none⟩), .pointer (some ⟨g2, 0, none⟩)]) (t := 31) HBT.out)
  have HBT := Lib.hid (HBT.out.below (alloc1B wB (.cells #[.pointer (some ⟨g, 0, none⟩), .pointer (some ⟨g2, 0, none⟩)] 31)))
  have HB0 := Lib.hid (bel2M HB0.out (alloc1B wB (.cells #[.pointer (some ⟨g, 0, none⟩), .pointer (some ⟨g2, 0, none⟩)] 31)))
  have HC0 := Lib.hid (heapB HC0.out (alloc1B wB (.cells #[.pointer (some ⟨g, 0, none⟩), .pointer (some ⟨g2, 0, none⟩)] 31)))
  have HD0 := Lib.hid (heapB HD0.out (alloc1B wB (.cells #[.pointer (some ⟨g, 0, none⟩), .pointer (some ⟨g2, 0, none⟩)] 31)))
  have HCZ := Lib.hid (show (wB.alloc (.cells #[.pointer (some ⟨g, 0, none⟩), .pointer (some ⟨g2, 0, none⟩)] 31)).heap.size = wB.heap.size + 1 from by simp)
  generalize hwn : wB.alloc _ = wC at *
  clear hwn
  have hgb : g ≠ w.heap.size + 2 := by
    rintro rfl
    have h1 := HBT.out.au.1.1
    rw [HD0.out] at h1
    simp at h1
  have hdr : Below wC.heap.size wC wC.drew := (Below.refl _ _).drew
  have HGB := Lib.hid hgb
  have HTN := Lib.hid (show Turn T bm wC wC.drew T from Turn.below hdr)
  have HX := Lib.hid (HX.out.below hdr)
  have HBT := Lib.hid (HBT.out.below hdr)
  have HB0 := Lib.hid (bel2M HB0.out hdr)
  have HC0 := Lib.hid (heapB HC0.out hdr)
  have HD0 := Lib.hid (heapB HD0.out hdr)
  have HCS := Lib.hid (show wC.drew.heap.size = wC.heap.size from rfl)
  clear hdr hgb
  go_upto_region 4 with fail
  refine wp_region_held_drew (S := (fun W => W.cell? ⟨w.heap.size + 1, 0, none⟩ = some (.int .i64 v) ∧ W.cell? ⟨w.heap.size + 1, 1, none⟩ = some (.int .i64 s))) (by kernel_rfl) (⟨rowCell HC0.out 0 _ rfl, rowCell HC0.out 1 _ rfl⟩) (fun hHeld => ?_)
  generalize wC.drew = wd at *
  have HDa := Lib.hid (show (wd.setCell ⟨w.heap.size + 2, 0, none⟩ (.int .i64 v)).heap[w.heap.size + 2]? = some (.cells #[.int .i64 v, .int .i64 s2, .int .i64 p2, .slice D us.length dd] 26 (0, 0)) from set_at HD0.out 0 _)
  have d0 := rowCell HD0.out 0 (.int .i64 v2) rfl
  have d1 := rowCell HDa.out 1 (.int .i64 s2) rfl
  have f0 : wd.frozen? ⟨w.heap.size + 2, 0, none⟩ = false := frozen_box HD0.out 0
  have f1 : (wd.setCell ⟨w.heap.size + 2, 0, none⟩ (.int .i64 v)).frozen? ⟨w.heap.size + 2, 1, none⟩ = false := frozen_box HDa.out 1
  have hoa : Only (w.heap.size + 2) wd (wd.setCell ⟨w.heap.size + 2, 0, none⟩ (.int .i64 v)) := (Only.refl _ _).set 0 _
  have hob : Only (w.heap.size + 2) wd ((wd.setCell ⟨w.heap.size + 2, 0, none⟩ (.int .i64 v)).setCell ⟨w.heap.size + 2, 1, none⟩ (.int .i64 s)) := hoa.set 1 _
  have HOA := Lib.hid hoa
  have HOB := Lib.hid hob
  clear hoa hob
  refine tk 0 ?_
  (try simp only [Act.put, sA, sB, sC])
  refine tk 1 ?_
  (try simp only [Act.put, sA, sB, sC])
  refine tk 2 ?_
  (try simp only [Act.put, sA, sB, sC])
  refine tk 3 ?_
  (try simp only [Act.put, sA, sB, sC])
  refine tk 4 ?_
  (try simp only [Act.put, sA, sB, sC])
  refine wpAnyH_ready (rs := [5]) (by kernel_rfl) (by simp) ?_
  refine AllReadyH.cons (o := ?o6) ?g6 (fun K hK => ?j6) AllReadyH.nil
  case g6 => (simp only [gA, gB, gC]; rfl)
  go_simp
  refine hK.out _ _ ?_ (fun hHeld => ?_)
  · (try dsimp only); exact ⟨rowCell (onlyHeap HOA.out HC0.out (by omega)) 0 _ rfl, rowCell (onlyHeap HOA.out HC0.out (by omega)) 1 _ rfl⟩
  clear hK K
  (try simp only [Act.put, sA, sB, sC])
  refine tk 6 ?_
  (try simp only [Act.put, sA, sB, sC])
  refine wpAnyH_ready (rs := [7]) (by kernel_rfl) (by simp) ?_
  refine AllReadyH.cons (o := ?o8) ?g8 (fun K hK => ?j8) AllReadyH.nil
  case g8 => (simp only [gA, gB, gC]; rfl)
  go_simp
  refine hK.out _ _ ?_ (fun hHeld => ?_)
  · (try dsimp only); exact ⟨rowCell (onlyHeap HOB.out HC0.out (by omega)) 0 _ rfl, rowCell (onlyHeap HOB.out HC0.out (by omega)) 1 _ rfl⟩
  clear hK K
  (try simp only [Act.put, sA, sB, sC])
  refine wpAnyH_done (by kernel_rfl) ?_ _
  have HD0 := Lib.hid (show _ = some (Obj.cells #[.int .i64 v, .int .i64 s, .int .i64 p2, .slice D us.length dd] 26 (0, 0)) from set_at HDa.out 1 (.int .i64 s))
  have HC0 := Lib.hid (onlyHeap HOB.out HC0.out (by omega))
  have hsl := HSL.out
  have hnb := HNB.out
  have HX := Lib.hid (HX.out.only HOB.out (by omega))
  have HBT := Lib.hid (HBT.out.only HOB.out (fun h => by have := HBT.out.lo.2 _ h; omega) HGB.out.symm (by have := HBT.out.lo.1; omega))
  have HBe := Lib.hid (onlyBelow HB0.out HOB.out (by omega) (Nat.le_refl _))
  clear HTN hsl hnb HDa HOA HB0 d0 d1 f0 f1
  generalize (wd.setCell _ _).setCell _ _ = wE at *
  clear HOB
  have hnw : w.heap.size + 2 < w2.heap.size := HSL.out
  have HNw := Lib.hid (show w.heap.size ≤ w2.heap.size from by omega)
  have HBD := Lib.hid (show wB.heap.size < wE.heap.size ∧ w.heap.size + 2 < wB.heap.size ∧ g < wE.heap.size from ⟨HX.out.lt, by have := HNB.out; omega, HBT.out.au.1.lt⟩)
  have HOF := Lib.hid (fun k (hk : k < w2.heap.size) => show offT T bm k from fun h => h.elim (fun h => by have := HBT.out.lo.2 k h; omega) (fun h => by have := HBT.out.lo.1; omega))
  have HKS := Lib.hid (show ∀ (W : World) (T9 : Nat → Prop), Held T9 bm W wB.heap.size #[.pointer (some ⟨g, 0, none⟩), .pointer (some ⟨g2, 0, none⟩)] 31 → Held T9 bm W (w.heap.size + 1) #[.int .i64 v, .int .i64 s, .int .i64 p, .slice A vs.length cc] 26 → Held T9 bm W (w.heap.size + 2) #[.int .i64 v, .int .i64 s, .int .i64 p2, .slice D us.length dd] 26 → (fun W => W.cell? ⟨wB.heap.size, 0, none⟩ = some (.pointer (some ⟨g, 0, none⟩)) ∧ W.cell? ⟨wB.heap.size, 1, none⟩ = some (.pointer (some ⟨g2, 0, none⟩)) ∧ W.cell? ⟨w.heap.size + 1, 0, none⟩ = some (.int .i64 v) ∧ W.cell? ⟨w.heap.size + 1, 1, none⟩ = some (.int .i64 s) ∧ W.cell? ⟨w.heap.size + 1, 2, none⟩ = some (.int .i64 p) ∧ W.cell? ⟨w.heap.size + 1, 3, none⟩ = some (.slice A vs.length cc) ∧ W.cell? ⟨w.heap.size + 2, 0, none⟩ = some (.int .i64 v) ∧ W.cell? ⟨w.heap.size + 2, 1, none⟩ = some (.int .i64 s) ∧ W.cell? ⟨w.heap.size + 2, 2, none⟩ = some (.int .i64 p2) ∧ W.cell? ⟨w.heap.size + 2, 3, none⟩ = some (.slice D us.length dd)) W from fun W T9 h h2 h3 => ⟨rowCell h.at_ 0 _ rfl, rowCell h.at_ 1 _ rfl, rowCell h2.at_ 0 _ rfl, rowCell h2.at_ 1 _ rfl, rowCell h2.at_ 2 _ rfl, rowCell h2.at_ 3 _ rfl, rowCell h3.at_ 0 _ rfl, rowCell h3.at_ 1 _ rfl, rowCell h3.at_ 2 _ rfl, rowCell h3.at_ 3 _ rfl⟩)
  clear hnw
  go_upto_region 5 with fail
  go_cut [8, 9] from 36 to 42 (fun sa sb wx => CertsP w2.heap.size g bm g2 (clF F) (clC C) v s p p2 vs us T wE sa sb wx)
  case first =>
    have hdr : Below wE.heap.size wE wE.drew := (Below.refl _ _).drew
    have HBn := Lib.hid (HBT.out.below hdr)
    have HTn := Lib.hid (show Turn T bm wE wE.drew T from Turn.below hdr)
    have HXn := Lib.hid (HX.out.below hdr)
    have HCn := Lib.hid (show Held T bm wE.drew (w.heap.size + 1) #[.int .i64 v, .int .i64 s, .int .i64 p, .slice A vs.length cc] 26 from ⟨heapB HC0.out hdr, HOF.out _ (by have := HSL.out; omega)⟩)
    have HDn := Lib.hid (show Held T bm wE.drew (w.heap.size + 2) #[.int .i64 v, .int .i64 s, .int .i64 p2, .slice D us.length dd] 26 from ⟨heapB HD0.out hdr, HOF.out _ (by have := HSL.out; omega)⟩)
    clear hdr
    refine wp_region_held_drew (S := (fun W => W.cell? ⟨wB.heap.size, 0, none⟩ = some (.pointer (some ⟨g, 0, none⟩)) ∧ W.cell? ⟨wB.heap.size, 1, none⟩ = some (.pointer (some ⟨g2, 0, none⟩)) ∧ W.cell? ⟨w.heap.size + 1, 0, none⟩ = some (.int .i64 v) ∧ W.cell? ⟨w.heap.size + 1, 1, none⟩ = some (.int .i64 s) ∧ W.cell? ⟨w.heap.size + 1, 2, none⟩ = some (.int .i64 p) ∧ W.cell? ⟨w.heap.size + 1, 3, none⟩ = some (.slice A vs.length cc) ∧ W.cell? ⟨w.heap.size + 2, 0, none⟩ = some (.int .i64 v) ∧ W.cell? ⟨w.heap.size + 2, 1, none⟩ = some (.int .i64 s) ∧ W.cell? ⟨w.heap.size + 2, 2, none⟩ = some (.int .i64 p2) ∧ W.cell? ⟨w.heap.size + 2, 3, none⟩ = some (.slice D us.length dd))) (by kernel_rfl) (HKS.out _ _ HXn.out HCn.out HDn.out) (fun hHeld => ?_)
    refine tk 0 ?_
    (try simp only [Act.put, sA, sB, sC])
    refine tk 1 ?_
    (try simp only [Act.put, sA, sB, sC])
    refine tk 3 ?_
    (try simp only [Act.put, sA, sB, sC])
    refine tk 4 ?_
    (try simp only [Act.put, sA, sB, sC])
    refine wpAnyH_ready (rs := [2, 6, 7]) (by kernel_rfl) (by simp) ?_
    refine AllReadyH.cons (o := ?o13) ?g13 (fun K hK => ?j13) (AllReadyH.cons (o := ?o14) ?g14 (fun K hK => ?j14) (AllReadyH.cons (o := ?o15) ?g15 (fun K hK => ?j15) AllReadyH.nil))
    case g13 => (simp only [gA, gB, gC]; rfl)
    case g14 => (simp only [gA, gB, gC]; rfl)
    case g15 => (simp only [gA, gB, gC]; rfl)
    ·
     go_simp
     obtain ⟨B01, hB0⟩ := size_of HBn.out
     (go_at_call_of 15 (Value.int .i64 p); go_loud (refine (made_any w2.heap.size g bm g2 (clF F) (clC C) [] _ v s p vs A cc _ HBn.out (fun W' hW => HVS.out.below (HBe.out.trans (((HTn.out.lowB HBT.out).trans hW).mono HNw.out))) ⟨HBI.out.1, HBI.out.2.1⟩ ⟨HBI.out.2.2.1, HBI.out.2.2.2.1⟩ HBI.out.2.2.2.2 HP.out HOK.out (Nat.zero_le _)).mono ?_))
     intro e w51 hm
     obtain ⟨bv, row, x1, T5, rfl, h1, h2, hb, ht⟩ := made_new hm
     obtain ⟨BA1, bc1, rfl, -⟩ := h1.h.bs.open
     obtain ⟨RA1, rc1, rfl⟩ := own_slice h2.own
     rw [hB0] at h1 h2
     have HXn := Lib.hid (HXn.out.turn ht)
     have HCn := Lib.hid (HCn.out.turn ht)
     have HDn := Lib.hid (HDn.out.turn ht)
     have HTn := Lib.hid (HTn.out.trans ht)
     have HBn := Lib.hid hb
     have HV1 := Lib.hid h1
     have HR1 := Lib.hid h2
     have HS1 := Lib.hid (Nat.le_refl w51.heap.size)
     clear hm h1 h2 hb ht hB0
     have HKW := Lib.hid HTn.out.off.size
     refine hK.out _ _ ?_ (fun hHeld => ?_)
     · (try dsimp only); exact HKS.out _ _ HXn.out HCn.out HDn.out
     clear hK K
     (try simp only [Act.put, sA, sB, sC])
     refine wpAnyH_ready (rs := [5, 6, 7]) (by kernel_rfl) (by simp) ?_
     refine AllReadyH.cons (o := ?o16) ?g16 (fun K hK => ?j16) (AllReadyH.cons (o := ?o17) ?g17 (fun K hK => ?j17) (AllReadyH.cons (o := ?o18) ?g18 (fun K hK => ?j18) AllReadyH.nil))
     case g16 => (simp only [gA, gB, gC]; rfl)
     case g17 => (simp only [gA, gB, gC]; rfl)
     case g18 => (simp only [gA, gB, gC]; rfl)
     ·
      go_simp
      obtain ⟨B02, hB0⟩ := size_of HBn.out
      (go_at_call_of 15 (Value.int .i64 p2); go_loud (refine (made_any w2.heap.size g bm g2 (clF F) (clC C) (mdL (clF F) (clC C) v s p [] vs) _ v s p2 us D dd _ HBn.out (fun W' hW => HUS.out.below (HBe.out.trans (((HTn.out.lowB HBT.out).trans hW).mono HNw.out))) ⟨HBI.out.1, HBI.out.2.1⟩ ⟨HBI.out.2.2.1, HBI.out.2.2.2.1⟩ HBI2.out.2.2.2.2 HP2.out HOK2.out (by have := mdL_len (clF F) (clC C) v s p [] vs; have := HBI.out.2.2.2.2; simp only [List.length_nil] at *; omega)).mono ?_))
      intro e w52 hm
      obtain ⟨bv, row, x2, T5, rfl, h1, h2, hb, ht⟩ := made_new hm
      obtain ⟨BA2, bc2, rfl, -⟩ := h1.h.bs.open
      obtain ⟨RA2, rc2, rfl⟩ := own_slice h2.own
      rw [hB0] at h1 h2
      have HKL := Lib.hid (show w51.heap.size ≤ B02 from hB0 ▸ HS1.out)
      have HXn := Lib.hid (HXn.out.turn ht)
      have HCn := Lib.hid (HCn.out.turn ht)
      have HDn := Lib.hid (HDn.out.turn ht)
      have HV1 := Lib.hid (HV1.out.turn ht)
      have HR1 := Lib.hid (HR1.out.turn ht)
      have HS1 := Lib.hid (Nat.le_trans HS1.out ht.off.size)
      have HTn := Lib.hid (HTn.out.trans ht)
      have HBn := Lib.hid hb
      have HV2 := Lib.hid h1
      have HR2 := Lib.hid h2
      have HS2 := Lib.hid (Nat.le_refl w52.heap.size)
      clear hm h1 h2 hb ht hB0
      refine hK.out _ _ ?_ (fun hHeld => ?_)
      · (try dsimp only); exact HKS.out _ _ HXn.out HCn.out HDn.out
      clear hK K
      (try simp only [Act.put, sA, sB, sC])
      refine wpAnyH_ready (rs := [6, 7]) (by kernel_rfl) (by simp) ?_
      refine AllReadyH.cons (o := ?o19) ?g19 (fun K hK => ?j19) (AllReadyH.cons (o := ?o20) ?g20 (fun K hK => ?j20) AllReadyH.nil)
      case g19 => (simp only [gA, gB, gC]; rfl)
      case g20 => (simp only [gA, gB, gC]; rfl)
      ·
       refine step_alloc rfl 38 rfl #[.int .i64 0, .slice none 0 0, .slice none 0 0] 38 (fun W => by go_simp) ?_
       intro bk vk hz hbk hge
       have HZo := Lib.hid (HBn.out.fresh hge)
       have HGk := Lib.hid (Nat.le_trans HTn.out.off.size hge)
       have Hck1 := Lib.hid (show bk < B01 ∨ w51.heap.size ≤ bk from .inr (Nat.le_trans HS1.out hge))
       have Hck2 := Lib.hid (show bk < B02 ∨ w52.heap.size ≤ bk from .inr (Nat.le_trans HS2.out hge))
       have HXn := Lib.hid (HXn.out.below hbk)
       have HCn := Lib.hid (HCn.out.below hbk)
       have HDn := Lib.hid (HDn.out.below hbk)
       have HV1 := Lib.hid (HV1.out.below hbk)
       have HR1 := Lib.hid (HR1.out.below hbk)
       have HV2 := Lib.hid (HV2.out.below hbk)
       have HR2 := Lib.hid (HR2.out.below hbk)
       have HS1 := Lib.hid (Nat.le_trans HS1.out hbk.size)
       have HS2 := Lib.hid (Nat.le_trans HS2.out hbk.size)
       have HTn := Lib.hid (HTn.out.trans (Turn.below hbk))
       have HBn := Lib.hid (HBn.out.below hbk)
       have HZk := Lib.hid (show Held _ bm vk bk #[.int .i64 0, .slice none 0 0, .slice none 0 0] 38 from ⟨hz, HZo.out⟩)
       clear hz hbk hge HZo
       refine hK.out _ _ ?_ (fun hHeld => ?_)
       · (try dsimp only); exact HKS.out _ _ HXn.out HCn.out HDn.out
       clear hK K
       (try simp only [Act.put, sA, sB, sC])
       refine wpAnyH_ready (rs := [7]) (by kernel_rfl) (by simp) ?_
       refine AllReadyH.cons (o := ?o21) ?g21 (fun K hK => ?j21) AllReadyH.nil
       case g21 => (simp only [gA, gB, gC]; rfl)
       refine step_alloc rfl 38 rfl #[.int .i64 0, .slice none 0 0, .slice none 0 0] 38 (fun W => by go_simp) ?_
       intro bl vl hz hbk hge
       have HZo := Lib.hid (HBn.out.fresh hge)
       have HGl := Lib.hid (Nat.le_trans HTn.out.off.size hge)
       have Hcl1 := Lib.hid (show bl < B01 ∨ w51.heap.size ≤ bl from .inr (Nat.le_trans HS1.out hge))
       have Hcl2 := Lib.hid (show bl < B02 ∨ w52.heap.size ≤ bl from .inr (Nat.le_trans HS2.out hge))
       have HNE := Lib.hid (show bk ≠ bl from by have := HZk.out.lt; omega)
       have HXn := Lib.hid (HXn.out.below hbk)
       have HCn := Lib.hid (HCn.out.below hbk)
       have HDn := Lib.hid (HDn.out.below hbk)
       have HZk := Lib.hid (HZk.out.below hbk)
       have HV1 := Lib.hid (HV1.out.below hbk)
       have HR1 := Lib.hid (HR1.out.below hbk)
       have HV2 := Lib.hid (HV2.out.below hbk)
       have HR2 := Lib.hid (HR2.out.below hbk)
       have HS1 := Lib.hid (Nat.le_trans HS1.out hbk.size)
       have HS2 := Lib.hid (Nat.le_trans HS2.out hbk.size)
       have HTn := Lib.hid (HTn.out.trans (Turn.below hbk))
       have HBn := Lib.hid (HBn.out.below hbk)
       have HZl := Lib.hid (show Held _ bm vl bl #[.int .i64 0, .slice none 0 0, .slice none 0 0] 38 from ⟨hz, HZo.out⟩)
       clear hz hbk hge HZo
       refine hK.out _ _ ?_ (fun hHeld => ?_)
       · (try dsimp only); exact HKS.out _ _ HXn.out HCn.out HDn.out
       clear hK K
       (try simp only [Act.put, sA, sB, sC])
       refine wpAnyH_ready (rs := [8]) (by kernel_rfl) (by simp) ?_
       refine AllReadyH.cons (o := ?o22) ?g22 (fun K hK => ?j22) AllReadyH.nil
       case g22 => (simp only [gA, gB, gC]; rfl)
       refine step_store rfl 38 (.tmp 8) (.tmp 38) rfl bk #[.int .i64 (mdP (clF F) p v), .slice BA1 (encD (mdPre v s)).length bc1, .slice RA1 x1.length rc1] #[.int .i64 0, .slice none 0 0, .slice none 0 0] rfl rfl HZk.out.at_ rfl (by kernel_rfl) (by intro u hu; simp only [List.mem_cons, List.not_mem_nil, or_false] at hu; rcases hu with rfl | rfl | rfl <;> rfl) ?_
       intro uk hz ho
       have hbd := HBD.out
       have hge := HGk.out
       have hne := HNE.out
       have HXn := Lib.hid (HXn.out.only ho (by omega))
       have HCn := Lib.hid (HCn.out.only ho (by omega))
       have HDn := Lib.hid (HDn.out.only ho (by omega))
       have HZl := Lib.hid (HZl.out.only ho (by omega))
       have HV1 := Lib.hid (HV1.out.only ho Hck1.out)
       have HR1 := Lib.hid (HR1.out.only ho Hck1.out)
       have HS1 := Lib.hid (Nat.le_trans HS1.out ho.size)
       have HV2 := Lib.hid (HV2.out.only ho Hck2.out)
       have HR2 := Lib.hid (HR2.out.only ho Hck2.out)
       have HS2 := Lib.hid (Nat.le_trans HS2.out ho.size)
       have HTn := Lib.hid (HTn.out.only ho hge)
       have HBn := Lib.hid (HBn.out.only ho (fun h => HZk.out.off (.inl h)) (by omega) (fun h => HZk.out.off (.inr h)))
       have HZk := Lib.hid (show Held _ bm uk bk #[.int .i64 (mdP (clF F) p v), .slice BA1 (encD (mdPre v s)).length bc1, .slice RA1 x1.length rc1] 38 from ⟨hz, HZk.out.off⟩)
       clear hz ho hbd hge hne
       refine hK.out _ _ ?_ (fun hHeld => ?_)
       · (try dsimp only); exact HKS.out _ _ HXn.out HCn.out HDn.out
       clear hK K
       (try simp only [Act.put, sA, sB, sC])
       refine wpAnyH_ready (rs := [9]) (by kernel_rfl) (by simp) ?_
       refine AllReadyH.cons (o := ?o23) ?g23 (fun K hK => ?j23) AllReadyH.nil
       case g23 => (simp only [gA, gB, gC]; rfl)
       refine step_store rfl 38 (.tmp 9) (.tmp 41) rfl bl #[.int .i64 (mdP (clF F) p2 v), .slice BA2 (encD (mdPre v s)).length bc2, .slice RA2 x2.length rc2] #[.int .i64 0, .slice none 0 0, .slice none 0 0] rfl rfl HZl.out.at_ rfl (by kernel_rfl) (by intro u hu; simp only [List.mem_cons, List.not_mem_nil, or_false] at hu; rcases hu with rfl | rfl | rfl <;> rfl) ?_
       intro ul hz ho
       have hbd := HBD.out
       have hge := HGl.out
       have hne := HNE.out
       have HXn := Lib.hid (HXn.out.only ho (by omega))
       have HCn := Lib.hid (HCn.out.only ho (by omega))
       have HDn := Lib.hid (HDn.out.only ho (by omega))
       have HZk := Lib.hid (HZk.out.only ho (by omega))
       have HV1 := Lib.hid (HV1.out.only ho Hcl1.out)
       have HR1 := Lib.hid (HR1.out.only ho Hcl1.out)
       have HS1 := Lib.hid (Nat.le_trans HS1.out ho.size)
       have HV2 := Lib.hid (HV2.out.only ho Hcl2.out)
       have HR2 := Lib.hid (HR2.out.only ho Hcl2.out)
       have HS2 := Lib.hid (Nat.le_trans HS2.out ho.size)
       have HTn := Lib.hid (HTn.out.only ho hge)
       have HBn := Lib.hid (HBn.out.only ho (fun h => HZl.out.off (.inl h)) (by omega) (fun h => HZl.out.off (.inr h)))
       have HZl := Lib.hid (show Held _ bm ul bl #[.int .i64 (mdP (clF F) p2 v), .slice BA2 (encD (mdPre v s)).length bc2, .slice RA2 x2.length rc2] 38 from ⟨hz, HZl.out.off⟩)
       clear hz ho hbd hge hne
       refine hK.out _ _ ?_ (fun hHeld => ?_)
       · (try dsimp only); exact HKS.out _ _ HXn.out HCn.out HDn.out
       clear hK K
       (try simp only [Act.put, sA, sB, sC])
       refine wpAnyH_done (by kernel_rfl) ?_ _
       go_wp2_with fail
       go_meet
       exact ⟨bk, bl, BA1, bc1, RA1, rc1, x1, BA2, bc2, RA2, rc2, x2, _, _, _, _, _, rfl, rfl, HBn.out, HTn.out, HZk.out, HZl.out, HV1.out, HR1.out, HV2.out, HR2.out, HNE.out, Hck1.out, Hck2.out, Hcl1.out, Hcl2.out, HKL.out, HGk.out, HGl.out, HS1.out, HS2.out, HKW.out⟩
      ·
       refine step_alloc rfl 38 rfl #[.int .i64 0, .slice none 0 0, .slice none 0 0] 38 (fun W => by go_simp) ?_
       intro bl vl hz hbk hge
       have HZo := Lib.hid (HBn.out.fresh hge)
       have HGl := Lib.hid (Nat.le_trans HTn.out.off.size hge)
       have Hcl1 := Lib.hid (show bl < B01 ∨ w51.heap.size ≤ bl from .inr (Nat.le_trans HS1.out hge))
       have Hcl2 := Lib.hid (show bl < B02 ∨ w52.heap.size ≤ bl from .inr (Nat.le_trans HS2.out hge))
       have HXn := Lib.hid (HXn.out.below hbk)
       have HCn := Lib.hid (HCn.out.below hbk)
       have HDn := Lib.hid (HDn.out.below hbk)
       have HV1 := Lib.hid (HV1.out.below hbk)
       have HR1 := Lib.hid (HR1.out.below hbk)
       have HV2 := Lib.hid (HV2.out.below hbk)
       have HR2 := Lib.hid (HR2.out.below hbk)
       have HS1 := Lib.hid (Nat.le_trans HS1.out hbk.size)
       have HS2 := Lib.hid (Nat.le_trans HS2.out hbk.size)
       have HTn := Lib.hid (HTn.out.trans (Turn.below hbk))
       have HBn := Lib.hid (HBn.out.below hbk)
       have HZl := Lib.hid (show Held _ bm vl bl #[.int .i64 0, .slice none 0 0, .slice none 0 0] 38 from ⟨hz, HZo.out⟩)
       clear hz hbk hge HZo
       refine hK.out _ _ ?_ (fun hHeld => ?_)
       · (try dsimp only); exact HKS.out _ _ HXn.out HCn.out HDn.out
       clear hK K
       (try simp only [Act.put, sA, sB, sC])
       refine wpAnyH_ready (rs := [6]) (by kernel_rfl) (by simp) ?_
       refine AllReadyH.cons (o := ?o24) ?g24 (fun K hK => ?j24) AllReadyH.nil
       case g24 => (simp only [gA, gB, gC]; rfl)
       refine step_alloc rfl 38 rfl #[.int .i64 0, .slice none 0 0, .slice none 0 0] 38 (fun W => by go_simp) ?_
       intro bk vk hz hbk hge
       have HZo := Lib.hid (HBn.out.fresh hge)
       have HGk := Lib.hid (Nat.le_trans HTn.out.off.size hge)
       have Hck1 := Lib.hid (show bk < B01 ∨ w51.heap.size ≤ bk from .inr (Nat.le_trans HS1.out hge))
       have Hck2 := Lib.hid (show bk < B02 ∨ w52.heap.size ≤ bk from .inr (Nat.le_trans HS2.out hge))
       have HNE := Lib.hid (show bk ≠ bl from by have := HZl.out.lt; omega)
       have HXn := Lib.hid (HXn.out.below hbk)
       have HCn := Lib.hid (HCn.out.below hbk)
       have HDn := Lib.hid (HDn.out.below hbk)
       have HZl := Lib.hid (HZl.out.below hbk)
       have HV1 := Lib.hid (HV1.out.below hbk)
       have HR1 := Lib.hid (HR1.out.below hbk)
       have HV2 := Lib.hid (HV2.out.below hbk)
       have HR2 := Lib.hid (HR2.out.below hbk)
       have HS1 := Lib.hid (Nat.le_trans HS1.out hbk.size)
       have HS2 := Lib.hid (Nat.le_trans HS2.out hbk.size)
       have HTn := Lib.hid (HTn.out.trans (Turn.below hbk))
       have HBn := Lib.hid (HBn.out.below hbk)
       have HZk := Lib.hid (show Held _ bm vk bk #[.int .i64 0, .slice none 0 0, .slice none 0 0] 38 from ⟨hz, HZo.out⟩)
       clear hz hbk hge HZo
       refine hK.out _ _ ?_ (fun hHeld => ?_)
       · (try dsimp only); exact HKS.out _ _ HXn.out HCn.out HDn.out
       clear hK K
       (try simp only [Act.put, sA, sB, sC])
       refine wpAnyH_ready (rs := [8]) (by kernel_rfl) (by simp) ?_
       refine AllReadyH.cons (o := ?o25) ?g25 (fun K hK => ?j25) AllReadyH.nil
       case g25 => (simp only [gA, gB, gC]; rfl)
       refine step_store rfl 38 (.tmp 8) (.tmp 38) rfl bk #[.int .i64 (mdP (clF F) p v), .slice BA1 (encD (mdPre v s)).length bc1, .slice RA1 x1.length rc1] #[.int .i64 0, .slice none 0 0, .slice none 0 0] rfl rfl HZk.out.at_ rfl (by kernel_rfl) (by intro u hu; simp only [List.mem_cons, List.not_mem_nil, or_false] at hu; rcases hu with rfl | rfl | rfl <;> rfl) ?_
       intro uk hz ho
       have hbd := HBD.out
       have hge := HGk.out
       have hne := HNE.out
       have HXn := Lib.hid (HXn.out.only ho (by omega))
       have HCn := Lib.hid (HCn.out.only ho (by omega))
       have HDn := Lib.hid (HDn.out.only ho (by omega))
       have HZl := Lib.hid (HZl.out.only ho (by omega))
       have HV1 := Lib.hid (HV1.out.only ho Hck1.out)
       have HR1 := Lib.hid (HR1.out.only ho Hck1.out)
       have HS1 := Lib.hid (Nat.le_trans HS1.out ho.size)
       have HV2 := Lib.hid (HV2.out.only ho Hck2.out)
       have HR2 := Lib.hid (HR2.out.only ho Hck2.out)
       have HS2 := Lib.hid (Nat.le_trans HS2.out ho.size)
       have HTn := Lib.hid (HTn.out.only ho hge)
       have HBn := Lib.hid (HBn.out.only ho (fun h => HZk.out.off (.inl h)) (by omega) (fun h => HZk.out.off (.inr h)))
       have HZk := Lib.hid (show Held _ bm uk bk #[.int .i64 (mdP (clF F) p v), .slice BA1 (encD (mdPre v s)).length bc1, .slice RA1 x1.length rc1] 38 from ⟨hz, HZk.out.off⟩)
       clear hz ho hbd hge hne
       refine hK.out _ _ ?_ (fun hHeld => ?_)
       · (try dsimp only); exact HKS.out _ _ HXn.out HCn.out HDn.out
       clear hK K
       (try simp only [Act.put, sA, sB, sC])
       refine wpAnyH_ready (rs := [9]) (by kernel_rfl) (by simp) ?_
       refine AllReadyH.cons (o := ?o26) ?g26 (fun K hK => ?j26) AllReadyH.nil
       case g26 => (simp only [gA, gB, gC]; rfl)
       refine step_store rfl 38 (.tmp 9) (.tmp 41) rfl bl #[.int .i64 (mdP (clF F) p2 v), .slice BA2 (encD (mdPre v s)).length bc2, .slice RA2 x2.length rc2] #[.int .i64 0, .slice none 0 0, .slice none 0 0] rfl rfl HZl.out.at_ rfl (by kernel_rfl) (by intro u hu; simp only [List.mem_cons, List.not_mem_nil, or_false] at hu; rcases hu with rfl | rfl | rfl <;> rfl) ?_
       intro ul hz ho
       have hbd := HBD.out
       have hge := HGl.out
       have hne := HNE.out
       have HXn := Lib.hid (HXn.out.only ho (by omega))
       have HCn := Lib.hid (HCn.out.only ho (by omega))
       have HDn := Lib.hid (HDn.out.only ho (by omega))
       have HZk := Lib.hid (HZk.out.only ho (by omega))
       have HV1 := Lib.hid (HV1.out.only ho Hcl1.out)
       have HR1 := Lib.hid (HR1.out.only ho Hcl1.out)
       have HS1 := Lib.hid (Nat.le_trans HS1.out ho.size)
       have HV2 := Lib.hid (HV2.out.only ho Hcl2.out)
       have HR2 := Lib.hid (HR2.out.only ho Hcl2.out)
       have HS2 := Lib.hid (Nat.le_trans HS2.out ho.size)
       have HTn := Lib.hid (HTn.out.only ho hge)
       have HBn := Lib.hid (HBn.out.only ho (fun h => HZl.out.off (.inl h)) (by omega) (fun h => HZl.out.off (.inr h)))
       have HZl := Lib.hid (show Held _ bm ul bl #[.int .i64 (mdP (clF F) p2 v), .slice BA2 (encD (mdPre v s)).length bc2, .slice RA2 x2.length rc2] 38 from ⟨hz, HZl.out.off⟩)
       clear hz ho hbd hge hne
       refine hK.out _ _ ?_ (fun hHeld => ?_)
       · (try dsimp only); exact HKS.out _ _ HXn.out HCn.out HDn.out
       clear hK K
       (try simp only [Act.put, sA, sB, sC])
       refine wpAnyH_done (by kernel_rfl) ?_ _
       go_wp2_with fail
       go_meet
       exact ⟨bk, bl, BA1, bc1, RA1, rc1, x1, BA2, bc2, RA2, rc2, x2, _, _, _, _, _, rfl, rfl, HBn.out, HTn.out, HZk.out, HZl.out, HV1.out, HR1.out, HV2.out, HR2.out, HNE.out, Hck1.out, Hck2.out, Hcl1.out, Hcl2.out, HKL.out, HGk.out, HGl.out, HS1.out, HS2.out, HKW.out⟩
     ·
      refine step_alloc rfl 38 rfl #[.int .i64 0, .slice none 0 0, .slice none 0 0] 38 (fun W => by go_simp) ?_
      intro bk vk hz hbk hge
      have HZo := Lib.hid (HBn.out.fresh hge)
      have HGk := Lib.hid (Nat.le_trans HTn.out.off.size hge)
      have Hck1 := Lib.hid (show bk < B01 ∨ w51.heap.size ≤ bk from .inr (Nat.le_trans HS1.out hge))
      have HXn := Lib.hid (HXn.out.below hbk)
      have HCn := Lib.hid (HCn.out.below hbk)
      have HDn := Lib.hid (HDn.out.below hbk)
      have HV1 := Lib.hid (HV1.out.below hbk)
      have HR1 := Lib.hid (HR1.out.below hbk)
      have HS1 := Lib.hid (Nat.le_trans HS1.out hbk.size)
      have HTn := Lib.hid (HTn.out.trans (Turn.below hbk))
      have HBn := Lib.hid (HBn.out.below hbk)
      have HZk := Lib.hid (show Held _ bm vk bk #[.int .i64 0, .slice none 0 0, .slice none 0 0] 38 from ⟨hz, HZo.out⟩)
      clear hz hbk hge HZo
      refine hK.out _ _ ?_ (fun hHeld => ?_)
      · (try dsimp only); exact HKS.out _ _ HXn.out HCn.out HDn.out
      clear hK K
      (try simp only [Act.put, sA, sB, sC])
      refine wpAnyH_ready (rs := [5, 7]) (by kernel_rfl) (by simp) ?_
      refine AllReadyH.cons (o := ?o27) ?g27 (fun K hK => ?j27) (AllReadyH.cons (o := ?o28) ?g28 (fun K hK => ?j28) AllReadyH.nil)
      case g27 => (simp only [gA, gB, gC]; rfl)
      case g28 => (simp only [gA, gB, gC]; rfl)
      ·
       go_simp
       obtain ⟨B02, hB0⟩ := size_of HBn.out
       (go_at_call_of 15 (Value.int .i64 p2); go_loud (refine (made_any w2.heap.size g bm g2 (clF F) (clC C) (mdL (clF F) (clC C) v s p [] vs) _ v s p2 us D dd _ HBn.out (fun W' hW => HUS.out.below (HBe.out.trans (((HTn.out.lowB HBT.out).trans hW).mono HNw.out))) ⟨HBI.out.1, HBI.out.2.1⟩ ⟨HBI.out.2.2.1, HBI.out.2.2.2.1⟩ HBI2.out.2.2.2.2 HP2.out HOK2.out (by have := mdL_len (clF F) (clC C) v s p [] vs; have := HBI.out.2.2.2.2; simp only [List.length_nil] at *; omega)).mono ?_))
       intro e w52 hm
       obtain ⟨bv, row, x2, T5, rfl, h1, h2, hb, ht⟩ := made_new hm
       obtain ⟨BA2, bc2, rfl, -⟩ := h1.h.bs.open
       obtain ⟨RA2, rc2, rfl⟩ := own_slice h2.own
       rw [hB0] at h1 h2
       have Hck2 := Lib.hid (show bk < B02 ∨ w52.heap.size ≤ bk from .inl (hB0 ▸ HZk.out.lt))
       have HKL := Lib.hid (show w51.heap.size ≤ B02 from hB0 ▸ HS1.out)
       have HXn := Lib.hid (HXn.out.turn ht)
       have HCn := Lib.hid (HCn.out.turn ht)
       have HDn := Lib.hid (HDn.out.turn ht)
       have HZk := Lib.hid (HZk.out.turn ht)
       have HV1 := Lib.hid (HV1.out.turn ht)
       have HR1 := Lib.hid (HR1.out.turn ht)
       have HS1 := Lib.hid (Nat.le_trans HS1.out ht.off.size)
       have HTn := Lib.hid (HTn.out.trans ht)
       have HBn := Lib.hid hb
       have HV2 := Lib.hid h1
       have HR2 := Lib.hid h2
       have HS2 := Lib.hid (Nat.le_refl w52.heap.size)
       clear hm h1 h2 hb ht hB0
       refine hK.out _ _ ?_ (fun hHeld => ?_)
       · (try dsimp only); exact HKS.out _ _ HXn.out HCn.out HDn.out
       clear hK K
       (try simp only [Act.put, sA, sB, sC])
       refine wpAnyH_ready (rs := [7]) (by kernel_rfl) (by simp) ?_
       refine AllReadyH.cons (o := ?o29) ?g29 (fun K hK => ?j29) AllReadyH.nil
       case g29 => (simp only [gA, gB, gC]; rfl)
       refine step_alloc rfl 38 rfl #[.int .i64 0, .slice none 0 0, .slice none 0 0] 38 (fun W => by go_simp) ?_
       intro bl vl hz hbk hge
       have HZo := Lib.hid (HBn.out.fresh hge)
       have HGl := Lib.hid (Nat.le_trans HTn.out.off.size hge)
       have Hcl1 := Lib.hid (show bl < B01 ∨ w51.heap.size ≤ bl from .inr (Nat.le_trans HS1.out hge))
       have Hcl2 := Lib.hid (show bl < B02 ∨ w52.heap.size ≤ bl from .inr (Nat.le_trans HS2.out hge))
       have HNE := Lib.hid (show bk ≠ bl from by have := HZk.out.lt; omega)
       have HXn := Lib.hid (HXn.out.below hbk)
       have HCn := Lib.hid (HCn.out.below hbk)
       have HDn := Lib.hid (HDn.out.below hbk)
       have HZk := Lib.hid (HZk.out.below hbk)
       have HV1 := Lib.hid (HV1.out.below hbk)
       have HR1 := Lib.hid (HR1.out.below hbk)
       have HV2 := Lib.hid (HV2.out.below hbk)
       have HR2 := Lib.hid (HR2.out.below hbk)
       have HS1 := Lib.hid (Nat.le_trans HS1.out hbk.size)
       have HS2 := Lib.hid (Nat.le_trans HS2.out hbk.size)
       have HTn := Lib.hid (HTn.out.trans (Turn.below hbk))
       have HBn := Lib.hid (HBn.out.below hbk)
       have HZl := Lib.hid (show Held _ bm vl bl #[.int .i64 0, .slice none 0 0, .slice none 0 0] 38 from ⟨hz, HZo.out⟩)
       clear hz hbk hge HZo
       refine hK.out _ _ ?_ (fun hHeld => ?_)
       · (try dsimp only); exact HKS.out _ _ HXn.out HCn.out HDn.out
       clear hK K
       (try simp only [Act.put, sA, sB, sC])
       refine wpAnyH_ready (rs := [8]) (by kernel_rfl) (by simp) ?_
       refine AllReadyH.cons (o := ?o30) ?g30 (fun K hK => ?j30) AllReadyH.nil
       case g30 => (simp only [gA, gB, gC]; rfl)
       refine step_store rfl 38 (.tmp 8) (.tmp 38) rfl bk #[.int .i64 (mdP (clF F) p v), .slice BA1 (encD (mdPre v s)).length bc1, .slice RA1 x1.length rc1] #[.int .i64 0, .slice none 0 0, .slice none 0 0] rfl rfl HZk.out.at_ rfl (by kernel_rfl) (by intro u hu; simp only [List.mem_cons, List.not_mem_nil, or_false] at hu; rcases hu with rfl | rfl | rfl <;> rfl) ?_
       intro uk hz ho
       have hbd := HBD.out
       have hge := HGk.out
       have hne := HNE.out
       have HXn := Lib.hid (HXn.out.only ho (by omega))
       have HCn := Lib.hid (HCn.out.only ho (by omega))
       have HDn := Lib.hid (HDn.out.only ho (by omega))
       have HZl := Lib.hid (HZl.out.only ho (by omega))
       have HV1 := Lib.hid (HV1.out.only ho Hck1.out)
       have HR1 := Lib.hid (HR1.out.only ho Hck1.out)
       have HS1 := Lib.hid (Nat.le_trans HS1.out ho.size)
       have HV2 := Lib.hid (HV2.out.only ho Hck2.out)
       have HR2 := Lib.hid (HR2.out.only ho Hck2.out)
       have HS2 := Lib.hid (Nat.le_trans HS2.out ho.size)
       have HTn := Lib.hid (HTn.out.only ho hge)
       have HBn := Lib.hid (HBn.out.only ho (fun h => HZk.out.off (.inl h)) (by omega) (fun h => HZk.out.off (.inr h)))
       have HZk := Lib.hid (show Held _ bm uk bk #[.int .i64 (mdP (clF F) p v), .slice BA1 (encD (mdPre v s)).length bc1, .slice RA1 x1.length rc1] 38 from ⟨hz, HZk.out.off⟩)
       clear hz ho hbd hge hne
       refine hK.out _ _ ?_ (fun hHeld => ?_)
       · (try dsimp only); exact HKS.out _ _ HXn.out HCn.out HDn.out
       clear hK K
       (try simp only [Act.put, sA, sB, sC])
       refine wpAnyH_ready (rs := [9]) (by kernel_rfl) (by simp) ?_
       refine AllReadyH.cons (o := ?o31) ?g31 (fun K hK => ?j31) AllReadyH.nil
       case g31 => (simp only [gA, gB, gC]; rfl)
       refine step_store rfl 38 (.tmp 9) (.tmp 41) rfl bl #[.int .i64 (mdP (clF F) p2 v), .slice BA2 (encD (mdPre v s)).length bc2, .slice RA2 x2.length rc2] #[.int .i64 0, .slice none 0 0, .slice none 0 0] rfl rfl HZl.out.at_ rfl (by kernel_rfl) (by intro u hu; simp only [List.mem_cons, List.not_mem_nil, or_false] at hu; rcases hu with rfl | rfl | rfl <;> rfl) ?_
       intro ul hz ho
       have hbd := HBD.out
       have hge := HGl.out
       have hne := HNE.out
       have HXn := Lib.hid (HXn.out.only ho (by omega))
       have HCn := Lib.hid (HCn.out.only ho (by omega))
       have HDn := Lib.hid (HDn.out.only ho (by omega))
       have HZk := Lib.hid (HZk.out.only ho (by omega))
       have HV1 := Lib.hid (HV1.out.only ho Hcl1.out)
       have HR1 := Lib.hid (HR1.out.only ho Hcl1.out)
       have HS1 := Lib.hid (Nat.le_trans HS1.out ho.size)
       have HV2 := Lib.hid (HV2.out.only ho Hcl2.out)
       have HR2 := Lib.hid (HR2.out.only ho Hcl2.out)
       have HS2 := Lib.hid (Nat.le_trans HS2.out ho.size)
       have HTn := Lib.hid (HTn.out.only ho hge)
       have HBn := Lib.hid (HBn.out.only ho (fun h => HZl.out.off (.inl h)) (by omega) (fun h => HZl.out.off (.inr h)))
       have HZl := Lib.hid (show Held _ bm ul bl #[.int .i64 (mdP (clF F) p2 v), .slice BA2 (encD (mdPre v s)).length bc2, .slice RA2 x2.length rc2] 38 from ⟨hz, HZl.out.off⟩)
       clear hz ho hbd hge hne
       refine hK.out _ _ ?_ (fun hHeld => ?_)
       · (try dsimp only); exact HKS.out _ _ HXn.out HCn.out HDn.out
       clear hK K
       (try simp only [Act.put, sA, sB, sC])
       refine wpAnyH_done (by kernel_rfl) ?_ _
       go_wp2_with fail
       go_meet
       exact ⟨bk, bl, BA1, bc1, RA1, rc1, x1, BA2, bc2, RA2, rc2, x2, _, _, _, _, _, rfl, rfl, HBn.out, HTn.out, HZk.out, HZl.out, HV1.out, HR1.out, HV2.out, HR2.out, HNE.out, Hck1.out, Hck2.out, Hcl1.out, Hcl2.out, HKL.out, HGk.out, HGl.out, HS1.out, HS2.out, HKW.out⟩
      ·
       refine step_alloc rfl 38 rfl #[.int .i64 0, .slice none 0 0, .slice none 0 0] 38 (fun W => by go_simp) ?_
       intro bl vl hz hbk hge
       have HZo := Lib.hid (HBn.out.fresh hge)
       have HGl := Lib.hid (Nat.le_trans HTn.out.off.size hge)
       have Hcl1 := Lib.hid (show bl < B01 ∨ w51.heap.size ≤ bl from .inr (Nat.le_trans HS1.out hge))
       have HNE := Lib.hid (show bk ≠ bl from by have := HZk.out.lt; omega)
       have HXn := Lib.hid (HXn.out.below hbk)
       have HCn := Lib.hid (HCn.out.below hbk)
       have HDn := Lib.hid (HDn.out.below hbk)
       have HZk := Lib.hid (HZk.out.below hbk)
       have HV1 := Lib.hid (HV1.out.below hbk)
       have HR1 := Lib.hid (HR1.out.below hbk)
       have HS1 := Lib.hid (Nat.le_trans HS1.out hbk.size)
       have HTn := Lib.hid (HTn.out.trans (Turn.below hbk))
       have HBn := Lib.hid (HBn.out.below hbk)
       have HZl := Lib.hid (show Held _ bm vl bl #[.int .i64 0, .slice none 0 0, .slice none 0 0] 38 from ⟨hz, HZo.out⟩)
       clear hz hbk hge HZo
       refine hK.out _ _ ?_ (fun hHeld => ?_)
       · (try dsimp only); exact HKS.out _ _ HXn.out HCn.out HDn.out
       clear hK K
       (try simp only [Act.put, sA, sB, sC])
       refine wpAnyH_ready (rs := [5]) (by kernel_rfl) (by simp) ?_
       refine AllReadyH.cons (o := ?o32) ?g32 (fun K hK => ?j32) AllReadyH.nil
       case g32 => (simp only [gA, gB, gC]; rfl)
       go_simp
       obtain ⟨B02, hB0⟩ := size_of HBn.out
       (go_at_call_of 15 (Value.int .i64 p2); go_loud (refine (made_any w2.heap.size g bm g2 (clF F) (clC C) (mdL (clF F) (clC C) v s p [] vs) _ v s p2 us D dd _ HBn.out (fun W' hW => HUS.out.below (HBe.out.trans (((HTn.out.lowB HBT.out).trans hW).mono HNw.out))) ⟨HBI.out.1, HBI.out.2.1⟩ ⟨HBI.out.2.2.1, HBI.out.2.2.2.1⟩ HBI2.out.2.2.2.2 HP2.out HOK2.out (by have := mdL_len (clF F) (clC C) v s p [] vs; have := HBI.out.2.2.2.2; simp only [List.length_nil] at *; omega)).mono ?_))
       intro e w52 hm
       obtain ⟨bv, row, x2, T5, rfl, h1, h2, hb, ht⟩ := made_new hm
       obtain ⟨BA2, bc2, rfl, -⟩ := h1.h.bs.open
       obtain ⟨RA2, rc2, rfl⟩ := own_slice h2.own
       rw [hB0] at h1 h2
       have Hck2 := Lib.hid (show bk < B02 ∨ w52.heap.size ≤ bk from .inl (hB0 ▸ HZk.out.lt))
       have Hcl2 := Lib.hid (show bl < B02 ∨ w52.heap.size ≤ bl from .inl (hB0 ▸ HZl.out.lt))
       have HKL := Lib.hid (show w51.heap.size ≤ B02 from hB0 ▸ HS1.out)
       have HXn := Lib.hid (HXn.out.turn ht)
       have HCn := Lib.hid (HCn.out.turn ht)
       have HDn := Lib.hid (HDn.out.turn ht)
       have HZk := Lib.hid (HZk.out.turn ht)
       have HZl := Lib.hid (HZl.out.turn ht)
       have HV1 := Lib.hid (HV1.out.turn ht)
       have HR1 := Lib.hid (HR1.out.turn ht)
       have HS1 := Lib.hid (Nat.le_trans HS1.out ht.off.size)
       have HTn := Lib.hid (HTn.out.trans ht)
       have HBn := Lib.hid hb
       have HV2 := Lib.hid h1
       have HR2 := Lib.hid h2
       have HS2 := Lib.hid (Nat.le_refl w52.heap.size)
       clear hm h1 h2 hb ht hB0
       refine hK.out _ _ ?_ (fun hHeld => ?_)
       · (try dsimp only); exact HKS.out _ _ HXn.out HCn.out HDn.out
       clear hK K
       (try simp only [Act.put, sA, sB, sC])
       refine wpAnyH_ready (rs := [8]) (by kernel_rfl) (by simp) ?_
       refine AllReadyH.cons (o := ?o33) ?g33 (fun K hK => ?j33) AllReadyH.nil
       case g33 => (simp only [gA, gB, gC]; rfl)
       refine step_store rfl 38 (.tmp 8) (.tmp 38) rfl bk #[.int .i64 (mdP (clF F) p v), .slice BA1 (encD (mdPre v s)).length bc1, .slice RA1 x1.length rc1] #[.int .i64 0, .slice none 0 0, .slice none 0 0] rfl rfl HZk.out.at_ rfl (by kernel_rfl) (by intro u hu; simp only [List.mem_cons, List.not_mem_nil, or_false] at hu; rcases hu with rfl | rfl | rfl <;> rfl) ?_
       intro uk hz ho
       have hbd := HBD.out
       have hge := HGk.out
       have hne := HNE.out
       have HXn := Lib.hid (HXn.out.only ho (by omega))
       have HCn := Lib.hid (HCn.out.only ho (by omega))
       have HDn := Lib.hid (HDn.out.only ho (by omega))
       have HZl := Lib.hid (HZl.out.only ho (by omega))
       have HV1 := Lib.hid (HV1.out.only ho Hck1.out)
       have HR1 := Lib.hid (HR1.out.only ho Hck1.out)
       have HS1 := Lib.hid (Nat.le_trans HS1.out ho.size)
       have HV2 := Lib.hid (HV2.out.only ho Hck2.out)
       have HR2 := Lib.hid (HR2.out.only ho Hck2.out)
       have HS2 := Lib.hid (Nat.le_trans HS2.out ho.size)
       have HTn := Lib.hid (HTn.out.only ho hge)
       have HBn := Lib.hid (HBn.out.only ho (fun h => HZk.out.off (.inl h)) (by omega) (fun h => HZk.out.off (.inr h)))
       have HZk := Lib.hid (show Held _ bm uk bk #[.int .i64 (mdP (clF F) p v), .slice BA1 (encD (mdPre v s)).length bc1, .slice RA1 x1.length rc1] 38 from ⟨hz, HZk.out.off⟩)
       clear hz ho hbd hge hne
       refine hK.out _ _ ?_ (fun hHeld => ?_)
       · (try dsimp only); exact HKS.out _ _ HXn.out HCn.out HDn.out
       clear hK K
       (try simp only [Act.put, sA, sB, sC])
       refine wpAnyH_ready (rs := [9]) (by kernel_rfl) (by simp) ?_
       refine AllReadyH.cons (o := ?o34) ?g34 (fun K hK => ?j34) AllReadyH.nil
       case g34 => (simp only [gA, gB, gC]; rfl)
       refine step_store rfl 38 (.tmp 9) (.tmp 41) rfl bl #[.int .i64 (mdP (clF F) p2 v), .slice BA2 (encD (mdPre v s)).length bc2, .slice RA2 x2.length rc2] #[.int .i64 0, .slice none 0 0, .slice none 0 0] rfl rfl HZl.out.at_ rfl (by kernel_rfl) (by intro u hu; simp only [List.mem_cons, List.not_mem_nil, or_false] at hu; rcases hu with rfl | rfl | rfl <;> rfl) ?_
       intro ul hz ho
       have hbd := HBD.out
       have hge := HGl.out
       have hne := HNE.out
       have HXn := Lib.hid (HXn.out.only ho (by omega))
       have HCn := Lib.hid (HCn.out.only ho (by omega))
       have HDn := Lib.hid (HDn.out.only ho (by omega))
       have HZk := Lib.hid (HZk.out.only ho (by omega))
       have HV1 := Lib.hid (HV1.out.only ho Hcl1.out)
       have HR1 := Lib.hid (HR1.out.only ho Hcl1.out)
       have HS1 := Lib.hid (Nat.le_trans HS1.out ho.size)
       have HV2 := Lib.hid (HV2.out.only ho Hcl2.out)
       have HR2 := Lib.hid (HR2.out.only ho Hcl2.out)
       have HS2 := Lib.hid (Nat.le_trans HS2.out ho.size)
       have HTn := Lib.hid (HTn.out.only ho hge)
       have HBn := Lib.hid (HBn.out.only ho (fun h => HZl.out.off (.inl h)) (by omega) (fun h => HZl.out.off (.inr h)))
       have HZl := Lib.hid (show Held _ bm ul bl #[.int .i64 (mdP (clF F) p2 v), .slice BA2 (encD (mdPre v s)).length bc2, .slice RA2 x2.length rc2] 38 from ⟨hz, HZl.out.off⟩)
       clear hz ho hbd hge hne
       refine hK.out _ _ ?_ (fun hHeld => ?_)
       · (try dsimp only); exact HKS.out _ _ HXn.out HCn.out HDn.out
       clear hK K
       (try simp only [Act.put, sA, sB, sC])
       refine wpAnyH_done (by kernel_rfl) ?_ _
       go_wp2_with fail
       go_meet
       exact ⟨bk, bl, BA1, bc1, RA1, rc1, x1, BA2, bc2, RA2, rc2, x2, _, _, _, _, _, rfl, rfl, HBn.out, HTn.out, HZk.out, HZl.out, HV1.out, HR1.out, HV2.out, HR2.out, HNE.out, Hck1.out, Hck2.out, Hcl1.out, Hcl2.out, HKL.out, HGk.out, HGl.out, HS1.out, HS2.out, HKW.out⟩
     ·
      refine step_alloc rfl 38 rfl #[.int .i64 0, .slice none 0 0, .slice none 0 0] 38 (fun W => by go_simp) ?_
      intro bl vl hz hbk hge
      have HZo := Lib.hid (HBn.out.fresh hge)
      have HGl := Lib.hid (Nat.le_trans HTn.out.off.size hge)
      have Hcl1 := Lib.hid (show bl < B01 ∨ w51.heap.size ≤ bl from .inr (Nat.le_trans HS1.out hge))
      have HXn := Lib.hid (HXn.out.below hbk)
      have HCn := Lib.hid (HCn.out.below hbk)
      have HDn := Lib.hid (HDn.out.below hbk)
      have HV1 := Lib.hid (HV1.out.below hbk)
      have HR1 := Lib.hid (HR1.out.below hbk)
      have HS1 := Lib.hid (Nat.le_trans HS1.out hbk.size)
      have HTn := Lib.hid (HTn.out.trans (Turn.below hbk))
      have HBn := Lib.hid (HBn.out.below hbk)
      have HZl := Lib.hid (show Held _ bm vl bl #[.int .i64 0, .slice none 0 0, .slice none 0 0] 38 from ⟨hz, HZo.out⟩)
      clear hz hbk hge HZo
      refine hK.out _ _ ?_ (fun hHeld => ?_)
      · (try dsimp only); exact HKS.out _ _ HXn.out HCn.out HDn.out
      clear hK K
      (try simp only [Act.put, sA, sB, sC])
      refine wpAnyH_ready (rs := [5, 6]) (by kernel_rfl) (by simp) ?_
      refine AllReadyH.cons (o := ?o35) ?g35 (fun K hK => ?j35) (AllReadyH.cons (o := ?o36) ?g36 (fun K hK => ?j36) AllReadyH.nil)
      case g35 => (simp only [gA, gB, gC]; rfl)
      case g36 => (simp only [gA, gB, gC]; rfl)
      ·
       go_simp
       obtain ⟨B02, hB0⟩ := size_of HBn.out
       (go_at_call_of 15 (Value.int .i64 p2); go_loud (refine (made_any w2.heap.size g bm g2 (clF F) (clC C) (mdL (clF F) (clC C) v s p [] vs) _ v s p2 us D dd _ HBn.out (fun W' hW => HUS.out.below (HBe.out.trans (((HTn.out.lowB HBT.out).trans hW).mono HNw.out))) ⟨HBI.out.1, HBI.out.2.1⟩ ⟨HBI.out.2.2.1, HBI.out.2.2.2.1⟩ HBI2.out.2.2.2.2 HP2.out HOK2.out (by have := mdL_len (clF F) (clC C) v s p [] vs; have := HBI.out.2.2.2.2; simp only [List.length_nil] at *; omega)).mono ?_))
       intro e w52 hm
       obtain ⟨bv, row, x2, T5, rfl, h1, h2, hb, ht⟩ := made_new hm
       obtain ⟨BA2, bc2, rfl, -⟩ := h1.h.bs.open
       obtain ⟨RA2, rc2, rfl⟩ := own_slice h2.own
       rw [hB0] at h1 h2
       have Hcl2 := Lib.hid (show bl < B02 ∨ w52.heap.size ≤ bl from .inl (hB0 ▸ HZl.out.lt))
       have HKL := Lib.hid (show w51.heap.size ≤ B02 from hB0 ▸ HS1.out)
       have HXn := Lib.hid (HXn.out.turn ht)
       have HCn := Lib.hid (HCn.out.turn ht)
       have HDn := Lib.hid (HDn.out.turn ht)
       have HZl := Lib.hid (HZl.out.turn ht)
       have HV1 := Lib.hid (HV1.out.turn ht)
       have HR1 := Lib.hid (HR1.out.turn ht)
       have HS1 := Lib.hid (Nat.le_trans HS1.out ht.off.size)
       have HTn := Lib.hid (HTn.out.trans ht)
       have HBn := Lib.hid hb
       have HV2 := Lib.hid h1
       have HR2 := Lib.hid h2
       have HS2 := Lib.hid (Nat.le_refl w52.heap.size)
       clear hm h1 h2 hb ht hB0
       refine hK.out _ _ ?_ (fun hHeld => ?_)
       · (try dsimp only); exact HKS.out _ _ HXn.out HCn.out HDn.out
       clear hK K
       (try simp only [Act.put, sA, sB, sC])
       refine wpAnyH_ready (rs := [6]) (by kernel_rfl) (by simp) ?_
       refine AllReadyH.cons (o := ?o37) ?g37 (fun K hK => ?j37) AllReadyH.nil
       case g37 => (simp only [gA, gB, gC]; rfl)
       refine step_alloc rfl 38 rfl #[.int .i64 0, .slice none 0 0, .slice none 0 0] 38 (fun W => by go_simp) ?_
       intro bk vk hz hbk hge
       have HZo := Lib.hid (HBn.out.fresh hge)
       have HGk := Lib.hid (Nat.le_trans HTn.out.off.size hge)
       have Hck1 := Lib.hid (show bk < B01 ∨ w51.heap.size ≤ bk from .inr (Nat.le_trans HS1.out hge))
       have Hck2 := Lib.hid (show bk < B02 ∨ w52.heap.size ≤ bk from .inr (Nat.le_trans HS2.out hge))
       have HNE := Lib.hid (show bk ≠ bl from by have := HZl.out.lt; omega)
       have HXn := Lib.hid (HXn.out.below hbk)
       have HCn := Lib.hid (HCn.out.below hbk)
       have HDn := Lib.hid (HDn.out.below hbk)
       have HZl := Lib.hid (HZl.out.below hbk)
       have HV1 := Lib.hid (HV1.out.below hbk)
       have HR1 := Lib.hid (HR1.out.below hbk)
       have HV2 := Lib.hid (HV2.out.below hbk)
       have HR2 := Lib.hid (HR2.out.below hbk)
       have HS1 := Lib.hid (Nat.le_trans HS1.out hbk.size)
       have HS2 := Lib.hid (Nat.le_trans HS2.out hbk.size)
       have HTn := Lib.hid (HTn.out.trans (Turn.below hbk))
       have HBn := Lib.hid (HBn.out.below hbk)
       have HZk := Lib.hid (show Held _ bm vk bk #[.int .i64 0, .slice none 0 0, .slice none 0 0] 38 from ⟨hz, HZo.out⟩)
       clear hz hbk hge HZo
       refine hK.out _ _ ?_ (fun hHeld => ?_)
       · (try dsimp only); exact HKS.out _ _ HXn.out HCn.out HDn.out
       clear hK K
       (try simp only [Act.put, sA, sB, sC])
       refine wpAnyH_ready (rs := [8]) (by kernel_rfl) (by simp) ?_
       refine AllReadyH.cons (o := ?o38) ?g38 (fun K hK => ?j38) AllReadyH.nil
       case g38 => (simp only [gA, gB, gC]; rfl)
       refine step_store rfl 38 (.tmp 8) (.tmp 38) rfl bk #[.int .i64 (mdP (clF F) p v), .slice BA1 (encD (mdPre v s)).length bc1, .slice RA1 x1.length rc1] #[.int .i64 0, .slice none 0 0, .slice none 0 0] rfl rfl HZk.out.at_ rfl (by kernel_rfl) (by intro u hu; simp only [List.mem_cons, List.not_mem_nil, or_false] at hu; rcases hu with rfl | rfl | rfl <;> rfl) ?_
       intro uk hz ho
       have hbd := HBD.out
       have hge := HGk.out
       have hne := HNE.out
       have HXn := Lib.hid (HXn.out.only ho (by omega))
       have HCn := Lib.hid (HCn.out.only ho (by omega))
       have HDn := Lib.hid (HDn.out.only ho (by omega))
       have HZl := Lib.hid (HZl.out.only ho (by omega))
       have HV1 := Lib.hid (HV1.out.only ho Hck1.out)
       have HR1 := Lib.hid (HR1.out.only ho Hck1.out)
       have HS1 := Lib.hid (Nat.le_trans HS1.out ho.size)
       have HV2 := Lib.hid (HV2.out.only ho Hck2.out)
       have HR2 := Lib.hid (HR2.out.only ho Hck2.out)
       have HS2 := Lib.hid (Nat.le_trans HS2.out ho.size)
       have HTn := Lib.hid (HTn.out.only ho hge)
       have HBn := Lib.hid (HBn.out.only ho (fun h => HZk.out.off (.inl h)) (by omega) (fun h => HZk.out.off (.inr h)))
       have HZk := Lib.hid (show Held _ bm uk bk #[.int .i64 (mdP (clF F) p v), .slice BA1 (encD (mdPre v s)).length bc1, .slice RA1 x1.length rc1] 38 from ⟨hz, HZk.out.off⟩)
       clear hz ho hbd hge hne
       refine hK.out _ _ ?_ (fun hHeld => ?_)
       · (try dsimp only); exact HKS.out _ _ HXn.out HCn.out HDn.out
       clear hK K
       (try simp only [Act.put, sA, sB, sC])
       refine wpAnyH_ready (rs := [9]) (by kernel_rfl) (by simp) ?_
       refine AllReadyH.cons (o := ?o39) ?g39 (fun K hK => ?j39) AllReadyH.nil
       case g39 => (simp only [gA, gB, gC]; rfl)
       refine step_store rfl 38 (.tmp 9) (.tmp 41) rfl bl #[.int .i64 (mdP (clF F) p2 v), .slice BA2 (encD (mdPre v s)).length bc2, .slice RA2 x2.length rc2] #[.int .i64 0, .slice none 0 0, .slice none 0 0] rfl rfl HZl.out.at_ rfl (by kernel_rfl) (by intro u hu; simp only [List.mem_cons, List.not_mem_nil, or_false] at hu; rcases hu with rfl | rfl | rfl <;> rfl) ?_
       intro ul hz ho
       have hbd := HBD.out
       have hge := HGl.out
       have hne := HNE.out
       have HXn := Lib.hid (HXn.out.only ho (by omega))
       have HCn := Lib.hid (HCn.out.only ho (by omega))
       have HDn := Lib.hid (HDn.out.only ho (by omega))
       have HZk := Lib.hid (HZk.out.only ho (by omega))
       have HV1 := Lib.hid (HV1.out.only ho Hcl1.out)
       have HR1 := Lib.hid (HR1.out.only ho Hcl1.out)
       have HS1 := Lib.hid (Nat.le_trans HS1.out ho.size)
       have HV2 := Lib.hid (HV2.out.only ho Hcl2.out)
       have HR2 := Lib.hid (HR2.out.only ho Hcl2.out)
       have HS2 := Lib.hid (Nat.le_trans HS2.out ho.size)
       have HTn := Lib.hid (HTn.out.only ho hge)
       have HBn := Lib.hid (HBn.out.only ho (fun h => HZl.out.off (.inl h)) (by omega) (fun h => HZl.out.off (.inr h)))
       have HZl := Lib.hid (show Held _ bm ul bl #[.int .i64 (mdP (clF F) p2 v), .slice BA2 (encD (mdPre v s)).length bc2, .slice RA2 x2.length rc2] 38 from ⟨hz, HZl.out.off⟩)
       clear hz ho hbd hge hne
       refine hK.out _ _ ?_ (fun hHeld => ?_)
       · (try dsimp only); exact HKS.out _ _ HXn.out HCn.out HDn.out
       clear hK K
       (try simp only [Act.put, sA, sB, sC])
       refine wpAnyH_done (by kernel_rfl) ?_ _
       go_wp2_with fail
       go_meet
       exact ⟨bk, bl, BA1, bc1, RA1, rc1, x1, BA2, bc2, RA2, rc2, x2, _, _, _, _, _, rfl, rfl, HBn.out, HTn.out, HZk.out, HZl.out, HV1.out, HR1.out, HV2.out, HR2.out, HNE.out, Hck1.out, Hck2.out, Hcl1.out, Hcl2.out, HKL.out, HGk.out, HGl.out, HS1.out, HS2.out, HKW.out⟩
      ·
       refine step_alloc rfl 38 rfl #[.int .i64 0, .slice none 0 0, .slice none 0 0] 38 (fun W => by go_simp) ?_
       intro bk vk hz hbk hge
       have HZo := Lib.hid (HBn.out.fresh hge)
       have HGk := Lib.hid (Nat.le_trans HTn.out.off.size hge)
       have Hck1 := Lib.hid (show bk < B01 ∨ w51.heap.size ≤ bk from .inr (Nat.le_trans HS1.out hge))
       have HNE := Lib.hid (show bk ≠ bl from by have := HZl.out.lt; omega)
       have HXn := Lib.hid (HXn.out.below hbk)
       have HCn := Lib.hid (HCn.out.below hbk)
       have HDn := Lib.hid (HDn.out.below hbk)
       have HZl := Lib.hid (HZl.out.below hbk)
       have HV1 := Lib.hid (HV1.out.below hbk)
       have HR1 := Lib.hid (HR1.out.below hbk)
       have HS1 := Lib.hid (Nat.le_trans HS1.out hbk.size)
       have HTn := Lib.hid (HTn.out.trans (Turn.below hbk))
       have HBn := Lib.hid (HBn.out.below hbk)
       have HZk := Lib.hid (show Held _ bm vk bk #[.int .i64 0, .slice none 0 0, .slice none 0 0] 38 from ⟨hz, HZo.out⟩)
       clear hz hbk hge HZo
       refine hK.out _ _ ?_ (fun hHeld => ?_)
       · (try dsimp only); exact HKS.out _ _ HXn.out HCn.out HDn.out
       clear hK K
       (try simp only [Act.put, sA, sB, sC])
       refine wpAnyH_ready (rs := [5]) (by kernel_rfl) (by simp) ?_
       refine AllReadyH.cons (o := ?o40) ?g40 (fun K hK => ?j40) AllReadyH.nil
       case g40 => (simp only [gA, gB, gC]; rfl)
       go_simp
       obtain ⟨B02, hB0⟩ := size_of HBn.out
       (go_at_call_of 15 (Value.int .i64 p2); go_loud (refine (made_any w2.heap.size g bm g2 (clF F) (clC C) (mdL (clF F) (clC C) v s p [] vs) _ v s p2 us D dd _ HBn.out (fun W' hW => HUS.out.below (HBe.out.trans (((HTn.out.lowB HBT.out).trans hW).mono HNw.out))) ⟨HBI.out.1, HBI.out.2.1⟩ ⟨HBI.out.2.2.1, HBI.out.2.2.2.1⟩ HBI2.out.2.2.2.2 HP2.out HOK2.out (by have := mdL_len (clF F) (clC C) v s p [] vs; have := HBI.out.2.2.2.2; simp only [List.length_nil] at *; omega)).mono ?_))
       intro e w52 hm
       obtain ⟨bv, row, x2, T5, rfl, h1, h2, hb, ht⟩ := made_new hm
       obtain ⟨BA2, bc2, rfl, -⟩ := h1.h.bs.open
       obtain ⟨RA2, rc2, rfl⟩ := own_slice h2.own
       rw [hB0] at h1 h2
       have Hcl2 := Lib.hid (show bl < B02 ∨ w52.heap.size ≤ bl from .inl (hB0 ▸ HZl.out.lt))
       have Hck2 := Lib.hid (show bk < B02 ∨ w52.heap.size ≤ bk from .inl (hB0 ▸ HZk.out.lt))
       have HKL := Lib.hid (show w51.heap.size ≤ B02 from hB0 ▸ HS1.out)
       have HXn := Lib.hid (HXn.out.turn ht)
       have HCn := Lib.hid (HCn.out.turn ht)
       have HDn := Lib.hid (HDn.out.turn ht)
       have HZl := Lib.hid (HZl.out.turn ht)
       have HZk := Lib.hid (HZk.out.turn ht)
       have HV1 := Lib.hid (HV1.out.turn ht)
       have HR1 := Lib.hid (HR1.out.turn ht)
       have HS1 := Lib.hid (Nat.le_trans HS1.out ht.off.size)
       have HTn := Lib.hid (HTn.out.trans ht)
       have HBn := Lib.hid hb
       have HV2 := Lib.hid h1
       have HR2 := Lib.hid h2
       have HS2 := Lib.hid (Nat.le_refl w52.heap.size)
       clear hm h1 h2 hb ht hB0
       refine hK.out _ _ ?_ (fun hHeld => ?_)
       · (try dsimp only); exact HKS.out _ _ HXn.out HCn.out HDn.out
       clear hK K
       (try simp only [Act.put, sA, sB, sC])
       refine wpAnyH_ready (rs := [8]) (by kernel_rfl) (by simp) ?_
       refine AllReadyH.cons (o := ?o41) ?g41 (fun K hK => ?j41) AllReadyH.nil
       case g41 => (simp only [gA, gB, gC]; rfl)
       refine step_store rfl 38 (.tmp 8) (.tmp 38) rfl bk #[.int .i64 (mdP (clF F) p v), .slice BA1 (encD (mdPre v s)).length bc1, .slice RA1 x1.length rc1] #[.int .i64 0, .slice none 0 0, .slice none 0 0] rfl rfl HZk.out.at_ rfl (by kernel_rfl) (by intro u hu; simp only [List.mem_cons, List.not_mem_nil, or_false] at hu; rcases hu with rfl | rfl | rfl <;> rfl) ?_
       intro uk hz ho
       have hbd := HBD.out
       have hge := HGk.out
       have hne := HNE.out
       have HXn := Lib.hid (HXn.out.only ho (by omega))
       have HCn := Lib.hid (HCn.out.only ho (by omega))
       have HDn := Lib.hid (HDn.out.only ho (by omega))
       have HZl := Lib.hid (HZl.out.only ho (by omega))
       have HV1 := Lib.hid (HV1.out.only ho Hck1.out)
       have HR1 := Lib.hid (HR1.out.only ho Hck1.out)
       have HS1 := Lib.hid (Nat.le_trans HS1.out ho.size)
       have HV2 := Lib.hid (HV2.out.only ho Hck2.out)
       have HR2 := Lib.hid (HR2.out.only ho Hck2.out)
       have HS2 := Lib.hid (Nat.le_trans HS2.out ho.size)
       have HTn := Lib.hid (HTn.out.only ho hge)
       have HBn := Lib.hid (HBn.out.only ho (fun h => HZk.out.off (.inl h)) (by omega) (fun h => HZk.out.off (.inr h)))
       have HZk := Lib.hid (show Held _ bm uk bk #[.int .i64 (mdP (clF F) p v), .slice BA1 (encD (mdPre v s)).length bc1, .slice RA1 x1.length rc1] 38 from ⟨hz, HZk.out.off⟩)
       clear hz ho hbd hge hne
       refine hK.out _ _ ?_ (fun hHeld => ?_)
       · (try dsimp only); exact HKS.out _ _ HXn.out HCn.out HDn.out
       clear hK K
       (try simp only [Act.put, sA, sB, sC])
       refine wpAnyH_ready (rs := [9]) (by kernel_rfl) (by simp) ?_
       refine AllReadyH.cons (o := ?o42) ?g42 (fun K hK => ?j42) AllReadyH.nil
       case g42 => (simp only [gA, gB, gC]; rfl)
       refine step_store rfl 38 (.tmp 9) (.tmp 41) rfl bl #[.int .i64 (mdP (clF F) p2 v), .slice BA2 (encD (mdPre v s)).length bc2, .slice RA2 x2.length rc2] #[.int .i64 0, .slice none 0 0, .slice none 0 0] rfl rfl HZl.out.at_ rfl (by kernel_rfl) (by intro u hu; simp only [List.mem_cons, List.not_mem_nil, or_false] at hu; rcases hu with rfl | rfl | rfl <;> rfl) ?_
       intro ul hz ho
       have hbd := HBD.out
       have hge := HGl.out
       have hne := HNE.out
       have HXn := Lib.hid (HXn.out.only ho (by omega))
       have HCn := Lib.hid (HCn.out.only ho (by omega))
       have HDn := Lib.hid (HDn.out.only ho (by omega))
       have HZk := Lib.hid (HZk.out.only ho (by omega))
       have HV1 := Lib.hid (HV1.out.only ho Hcl1.out)
       have HR1 := Lib.hid (HR1.out.only ho Hcl1.out)
       have HS1 := Lib.hid (Nat.le_trans HS1.out ho.size)
       have HV2 := Lib.hid (HV2.out.only ho Hcl2.out)
       have HR2 := Lib.hid (HR2.out.only ho Hcl2.out)
       have HS2 := Lib.hid (Nat.le_trans HS2.out ho.size)
       have HTn := Lib.hid (HTn.out.only ho hge)
       have HBn := Lib.hid (HBn.out.only ho (fun h => HZl.out.off (.inl h)) (by omega) (fun h => HZl.out.off (.inr h)))
       have HZl := Lib.hid (show Held _ bm ul bl #[.int .i64 (mdP (clF F) p2 v), .slice BA2 (encD (mdPre v s)).length bc2, .slice RA2 x2.length rc2] 38 from ⟨hz, HZl.out.off⟩)
       clear hz ho hbd hge hne
       refine hK.out _ _ ?_ (fun hHeld => ?_)
       · (try dsimp only); exact HKS.out _ _ HXn.out HCn.out HDn.out
       clear hK K
       (try simp only [Act.put, sA, sB, sC])
       refine wpAnyH_done (by kernel_rfl) ?_ _
       go_wp2_with fail
       go_meet
       exact ⟨bk, bl, BA1, bc1, RA1, rc1, x1, BA2, bc2, RA2, rc2, x2, _, _, _, _, _, rfl, rfl, HBn.out, HTn.out, HZk.out, HZl.out, HV1.out, HR1.out, HV2.out, HR2.out, HNE.out, Hck1.out, Hck2.out, Hcl1.out, Hcl2.out, HKL.out, HGk.out, HGl.out, HS1.out, HS2.out, HKW.out⟩
    ·
     refine step_alloc rfl 38 rfl #[.int .i64 0, .slice none 0 0, .slice none 0 0] 38 (fun W => by go_simp) ?_
     intro bk vk hz hbk hge
     have HZo := Lib.hid (HBn.out.fresh hge)
     have HGk := Lib.hid (Nat.le_trans HTn.out.off.size hge)
     have HXn := Lib.hid (HXn.out.below hbk)
     have HCn := Lib.hid (HCn.out.below hbk)
     have HDn := Lib.hid (HDn.out.below hbk)
     have HTn := Lib.hid (HTn.out.trans (Turn.below hbk))
     have HBn := Lib.hid (HBn.out.below hbk)
     have HZk := Lib.hid (show Held _ bm vk bk #[.int .i64 0, .slice none 0 0, .slice none 0 0] 38 from ⟨hz, HZo.out⟩)
     clear hz hbk hge HZo
     refine hK.out _ _ ?_ (fun hHeld => ?_)
     · (try dsimp only); exact HKS.out _ _ HXn.out HCn.out HDn.out
     clear hK K
     (try simp only [Act.put, sA, sB, sC])
     refine wpAnyH_ready (rs := [2, 7]) (by kernel_rfl) (by simp) ?_
     refine AllReadyH.cons (o := ?o43) ?g43 (fun K hK => ?j43) (AllReadyH.cons (o := ?o44) ?g44 (fun K hK => ?j44) AllReadyH.nil)
     case g43 => (simp only [gA, gB, gC]; rfl)
     case g44 => (simp only [gA, gB, gC]; rfl)
     ·
      go_simp
      obtain ⟨B01, hB0⟩ := size_of HBn.out
      (go_at_call_of 15 (Value.int .i64 p); go_loud (refine (made_any w2.heap.size g bm g2 (clF F) (clC C) [] _ v s p vs A cc _ HBn.out (fun W' hW => HVS.out.below (HBe.out.trans (((HTn.out.lowB HBT.out).trans hW).mono HNw.out))) ⟨HBI.out.1, HBI.out.2.1⟩ ⟨HBI.out.2.2.1, HBI.out.2.2.2.1⟩ HBI.out.2.2.2.2 HP.out HOK.out (Nat.zero_le _)).mono ?_))
      intro e w51 hm
      obtain ⟨bv, row, x1, T5, rfl, h1, h2, hb, ht⟩ := made_new hm
      obtain ⟨BA1, bc1, rfl, -⟩ := h1.h.bs.open
      obtain ⟨RA1, rc1, rfl⟩ := own_slice h2.own
      rw [hB0] at h1 h2
      have Hck1 := Lib.hid (show bk < B01 ∨ w51.heap.size ≤ bk from .inl (hB0 ▸ HZk.out.lt))
      have HXn := Lib.hid (HXn.out.turn ht)
      have HCn := Lib.hid (HCn.out.turn ht)
      have HDn := Lib.hid (HDn.out.turn ht)
      have HZk := Lib.hid (HZk.out.turn ht)
      have HTn := Lib.hid (HTn.out.trans ht)
      have HBn := Lib.hid hb
      have HV1 := Lib.hid h1
      have HR1 := Lib.hid h2
      have HS1 := Lib.hid (Nat.le_refl w51.heap.size)
      clear hm h1 h2 hb ht hB0
      have HKW := Lib.hid HTn.out.off.size
      refine hK.out _ _ ?_ (fun hHeld => ?_)
      · (try dsimp only); exact HKS.out _ _ HXn.out HCn.out HDn.out
      clear hK K
      (try simp only [Act.put, sA, sB, sC])
      refine wpAnyH_ready (rs := [5, 7]) (by kernel_rfl) (by simp) ?_
      refine AllReadyH.cons (o := ?o45) ?g45 (fun K hK => ?j45) (AllReadyH.cons (o := ?o46) ?g46 (fun K hK => ?j46) AllReadyH.nil)
      case g45 => (simp only [gA, gB, gC]; rfl)
      case g46 => (simp only [gA, gB, gC]; rfl)
      ·
       go_simp
       obtain ⟨B02, hB0⟩ := size_of HBn.out
       (go_at_call_of 15 (Value.int .i64 p2); go_loud (refine (made_any w2.heap.size g bm g2 (clF F) (clC C) (mdL (clF F) (clC C) v s p [] vs) _ v s p2 us D dd _ HBn.out (fun W' hW => HUS.out.below (HBe.out.trans (((HTn.out.lowB HBT.out).trans hW).mono HNw.out))) ⟨HBI.out.1, HBI.out.2.1⟩ ⟨HBI.out.2.2.1, HBI.out.2.2.2.1⟩ HBI2.out.2.2.2.2 HP2.out HOK2.out (by have := mdL_len (clF F) (clC C) v s p [] vs; have := HBI.out.2.2.2.2; simp only [List.length_nil] at *; omega)).mono ?_))
       intro e w52 hm
       obtain ⟨bv, row, x2, T5, rfl, h1, h2, hb, ht⟩ := made_new hm
       obtain ⟨BA2, bc2, rfl, -⟩ := h1.h.bs.open
       obtain ⟨RA2, rc2, rfl⟩ := own_slice h2.own
       rw [hB0] at h1 h2
       have Hck2 := Lib.hid (show bk < B02 ∨ w52.heap.size ≤ bk from .inl (hB0 ▸ HZk.out.lt))
       have HKL := Lib.hid (show w51.heap.size ≤ B02 from hB0 ▸ HS1.out)
       have HXn := Lib.hid (HXn.out.turn ht)
       have HCn := Lib.hid (HCn.out.turn ht)
       have HDn := Lib.hid (HDn.out.turn ht)
       have HZk := Lib.hid (HZk.out.turn ht)
       have HV1 := Lib.hid (HV1.out.turn ht)
       have HR1 := Lib.hid (HR1.out.turn ht)
       have HS1 := Lib.hid (Nat.le_trans HS1.out ht.off.size)
       have HTn := Lib.hid (HTn.out.trans ht)
       have HBn := Lib.hid hb
       have HV2 := Lib.hid h1
       have HR2 := Lib.hid h2
       have HS2 := Lib.hid (Nat.le_refl w52.heap.size)
       clear hm h1 h2 hb ht hB0
       refine hK.out _ _ ?_ (fun hHeld => ?_)
       · (try dsimp only); exact HKS.out _ _ HXn.out HCn.out HDn.out
       clear hK K
       (try simp only [Act.put, sA, sB, sC])
       refine wpAnyH_ready (rs := [7]) (by kernel_rfl) (by simp) ?_
       refine AllReadyH.cons (o := ?o47) ?g47 (fun K hK => ?j47) AllReadyH.nil
       case g47 => (simp only [gA, gB, gC]; rfl)
       refine step_alloc rfl 38 rfl #[.int .i64 0, .slice none 0 0, .slice none 0 0] 38 (fun W => by go_simp) ?_
       intro bl vl hz hbk hge
       have HZo := Lib.hid (HBn.out.fresh hge)
       have HGl := Lib.hid (Nat.le_trans HTn.out.off.size hge)
       have Hcl1 := Lib.hid (show bl < B01 ∨ w51.heap.size ≤ bl from .inr (Nat.le_trans HS1.out hge))
       have Hcl2 := Lib.hid (show bl < B02 ∨ w52.heap.size ≤ bl from .inr (Nat.le_trans HS2.out hge))
       have HNE := Lib.hid (show bk ≠ bl from by have := HZk.out.lt; omega)
       have HXn := Lib.hid (HXn.out.below hbk)
       have HCn := Lib.hid (HCn.out.below hbk)
       have HDn := Lib.hid (HDn.out.below hbk)
       have HZk := Lib.hid (HZk.out.below hbk)
       have HV1 := Lib.hid (HV1.out.below hbk)
       have HR1 := Lib.hid (HR1.out.below hbk)
       have HV2 := Lib.hid (HV2.out.below hbk)
       have HR2 := Lib.hid (HR2.out.below hbk)
       have HS1 := Lib.hid (Nat.le_trans HS1.out hbk.size)
       have HS2 := Lib.hid (Nat.le_trans HS2.out hbk.size)
       have HTn := Lib.hid (HTn.out.trans (Turn.below hbk))
       have HBn := Lib.hid (HBn.out.below hbk)
       have HZl := Lib.hid (show Held _ bm vl bl #[.int .i64 0, .slice none 0 0, .slice none 0 0] 38 from ⟨hz, HZo.out⟩)
       clear hz hbk hge HZo
       refine hK.out _ _ ?_ (fun hHeld => ?_)
       · (try dsimp only); exact HKS.out _ _ HXn.out HCn.out HDn.out
       clear hK K
       (try simp only [Act.put, sA, sB, sC])
       refine wpAnyH_ready (rs := [8]) (by kernel_rfl) (by simp) ?_
       refine AllReadyH.cons (o := ?o48) ?g48 (fun K hK => ?j48) AllReadyH.nil
       case g48 => (simp only [gA, gB, gC]; rfl)
       refine step_store rfl 38 (.tmp 8) (.tmp 38) rfl bk #[.int .i64 (mdP (clF F) p v), .slice BA1 (encD (mdPre v s)).length bc1, .slice RA1 x1.length rc1] #[.int .i64 0, .slice none 0 0, .slice none 0 0] rfl rfl HZk.out.at_ rfl (by kernel_rfl) (by intro u hu; simp only [List.mem_cons, List.not_mem_nil, or_false] at hu; rcases hu with rfl | rfl | rfl <;> rfl) ?_
       intro uk hz ho
       have hbd := HBD.out
       have hge := HGk.out
       have hne := HNE.out
       have HXn := Lib.hid (HXn.out.only ho (by omega))
       have HCn := Lib.hid (HCn.out.only ho (by omega))
       have HDn := Lib.hid (HDn.out.only ho (by omega))
       have HZl := Lib.hid (HZl.out.only ho (by omega))
       have HV1 := Lib.hid (HV1.out.only ho Hck1.out)
       have HR1 := Lib.hid (HR1.out.only ho Hck1.out)
       have HS1 := Lib.hid (Nat.le_trans HS1.out ho.size)
       have HV2 := Lib.hid (HV2.out.only ho Hck2.out)
       have HR2 := Lib.hid (HR2.out.only ho Hck2.out)
       have HS2 := Lib.hid (Nat.le_trans HS2.out ho.size)
       have HTn := Lib.hid (HTn.out.only ho hge)
       have HBn := Lib.hid (HBn.out.only ho (fun h => HZk.out.off (.inl h)) (by omega) (fun h => HZk.out.off (.inr h)))
       have HZk := Lib.hid (show Held _ bm uk bk #[.int .i64 (mdP (clF F) p v), .slice BA1 (encD (mdPre v s)).length bc1, .slice RA1 x1.length rc1] 38 from ⟨hz, HZk.out.off⟩)
       clear hz ho hbd hge hne
       refine hK.out _ _ ?_ (fun hHeld => ?_)
       · (try dsimp only); exact HKS.out _ _ HXn.out HCn.out HDn.out
       clear hK K
       (try simp only [Act.put, sA, sB, sC])
       refine wpAnyH_ready (rs := [9]) (by kernel_rfl) (by simp) ?_
       refine AllReadyH.cons (o := ?o49) ?g49 (fun K hK => ?j49) AllReadyH.nil
       case g49 => (simp only [gA, gB, gC]; rfl)
       refine step_store rfl 38 (.tmp 9) (.tmp 41) rfl bl #[.int .i64 (mdP (clF F) p2 v), .slice BA2 (encD (mdPre v s)).length bc2, .slice RA2 x2.length rc2] #[.int .i64 0, .slice none 0 0, .slice none 0 0] rfl rfl HZl.out.at_ rfl (by kernel_rfl) (by intro u hu; simp only [List.mem_cons, List.not_mem_nil, or_false] at hu; rcases hu with rfl | rfl | rfl <;> rfl) ?_
       intro ul hz ho
       have hbd := HBD.out
       have hge := HGl.out
       have hne := HNE.out
       have HXn := Lib.hid (HXn.out.only ho (by omega))
       have HCn := Lib.hid (HCn.out.only ho (by omega))
       have HDn := Lib.hid (HDn.out.only ho (by omega))
       have HZk := Lib.hid (HZk.out.only ho (by omega))
       have HV1 := Lib.hid (HV1.out.only ho Hcl1.out)
       have HR1 := Lib.hid (HR1.out.only ho Hcl1.out)
       have HS1 := Lib.hid (Nat.le_trans HS1.out ho.size)
       have HV2 := Lib.hid (HV2.out.only ho Hcl2.out)
       have HR2 := Lib.hid (HR2.out.only ho Hcl2.out)
       have HS2 := Lib.hid (Nat.le_trans HS2.out ho.size)
       have HTn := Lib.hid (HTn.out.only ho hge)
       have HBn := Lib.hid (HBn.out.only ho (fun h => HZl.out.off (.inl h)) (by omega) (fun h => HZl.out.off (.inr h)))
       have HZl := Lib.hid (show Held _ bm ul bl #[.int .i64 (mdP (clF F) p2 v), .slice BA2 (encD (mdPre v s)).length bc2, .slice RA2 x2.length rc2] 38 from ⟨hz, HZl.out.off⟩)
       clear hz ho hbd hge hne
       refine hK.out _ _ ?_ (fun hHeld => ?_)
       · (try dsimp only); exact HKS.out _ _ HXn.out HCn.out HDn.out
       clear hK K
       (try simp only [Act.put, sA, sB, sC])
       refine wpAnyH_done (by kernel_rfl) ?_ _
       go_wp2_with fail
       go_meet
       exact ⟨bk, bl, BA1, bc1, RA1, rc1, x1, BA2, bc2, RA2, rc2, x2, _, _, _, _, _, rfl, rfl, HBn.out, HTn.out, HZk.out, HZl.out, HV1.out, HR1.out, HV2.out, HR2.out, HNE.out, Hck1.out, Hck2.out, Hcl1.out, Hcl2.out, HKL.out, HGk.out, HGl.out, HS1.out, HS2.out, HKW.out⟩
      ·
       refine step_alloc rfl 38 rfl #[.int .i64 0, .slice none 0 0, .slice none 0 0] 38 (fun W => by go_simp) ?_
       intro bl vl hz hbk hge
       have HZo := Lib.hid (HBn.out.fresh hge)
       have HGl := Lib.hid (Nat.le_trans HTn.out.off.size hge)
       have Hcl1 := Lib.hid (show bl < B01 ∨ w51.heap.size ≤ bl from .inr (Nat.le_trans HS1.out hge))
       have HNE := Lib.hid (show bk ≠ bl from by have := HZk.out.lt; omega)
       have HXn := Lib.hid (HXn.out.below hbk)
       have HCn := Lib.hid (HCn.out.below hbk)
       have HDn := Lib.hid (HDn.out.below hbk)
       have HZk := Lib.hid (HZk.out.below hbk)
       have HV1 := Lib.hid (HV1.out.below hbk)
       have HR1 := Lib.hid (HR1.out.below hbk)
       have HS1 := Lib.hid (Nat.le_trans HS1.out hbk.size)
       have HTn := Lib.hid (HTn.out.trans (Turn.below hbk))
       have HBn := Lib.hid (HBn.out.below hbk)
       have HZl := Lib.hid (show Held _ bm vl bl #[.int .i64 0, .slice none 0 0, .slice none 0 0] 38 from ⟨hz, HZo.out⟩)
       clear hz hbk hge HZo
       refine hK.out _ _ ?_ (fun hHeld => ?_)
       · (try dsimp only); exact HKS.out _ _ HXn.out HCn.out HDn.out
       clear hK K
       (try simp only [Act.put, sA, sB, sC])
       refine wpAnyH_ready (rs := [5]) (by kernel_rfl) (by simp) ?_
       refine AllReadyH.cons (o := ?o50) ?g50 (fun K hK => ?j50) AllReadyH.nil
       case g50 => (simp only [gA, gB, gC]; rfl)
       go_simp
       obtain ⟨B02, hB0⟩ := size_of HBn.out
       (go_at_call_of 15 (Value.int .i64 p2); go_loud (refine (made_any w2.heap.size g bm g2 (clF F) (clC C) (mdL (clF F) (clC C) v s p [] vs) _ v s p2 us D dd _ HBn.out (fun W' hW => HUS.out.below (HBe.out.trans (((HTn.out.lowB HBT.out).trans hW).mono HNw.out))) ⟨HBI.out.1, HBI.out.2.1⟩ ⟨HBI.out.2.2.1, HBI.out.2.2.2.1⟩ HBI2.out.2.2.2.2 HP2.out HOK2.out (by have := mdL_len (clF F) (clC C) v s p [] vs; have := HBI.out.2.2.2.2; simp only [List.length_nil] at *; omega)).mono ?_))
       intro e w52 hm
       obtain ⟨bv, row, x2, T5, rfl, h1, h2, hb, ht⟩ := made_new hm
       obtain ⟨BA2, bc2, rfl, -⟩ := h1.h.bs.open
       obtain ⟨RA2, rc2, rfl⟩ := own_slice h2.own
       rw [hB0] at h1 h2
       have Hck2 := Lib.hid (show bk < B02 ∨ w52.heap.size ≤ bk from .inl (hB0 ▸ HZk.out.lt))
       have Hcl2 := Lib.hid (show bl < B02 ∨ w52.heap.size ≤ bl from .inl (hB0 ▸ HZl.out.lt))
       have HKL := Lib.hid (show w51.heap.size ≤ B02 from hB0 ▸ HS1.out)
       have HXn := Lib.hid (HXn.out.turn ht)
       have HCn := Lib.hid (HCn.out.turn ht)
       have HDn := Lib.hid (HDn.out.turn ht)
       have HZk := Lib.hid (HZk.out.turn ht)
       have HZl := Lib.hid (HZl.out.turn ht)
       have HV1 := Lib.hid (HV1.out.turn ht)
       have HR1 := Lib.hid (HR1.out.turn ht)
       have HS1 := Lib.hid (Nat.le_trans HS1.out ht.off.size)
       have HTn := Lib.hid (HTn.out.trans ht)
       have HBn := Lib.hid hb
       have HV2 := Lib.hid h1
       have HR2 := Lib.hid h2
       have HS2 := Lib.hid (Nat.le_refl w52.heap.size)
       clear hm h1 h2 hb ht hB0
       refine hK.out _ _ ?_ (fun hHeld => ?_)
       · (try dsimp only); exact HKS.out _ _ HXn.out HCn.out HDn.out
       clear hK K
       (try simp only [Act.put, sA, sB, sC])
       refine wpAnyH_ready (rs := [8]) (by kernel_rfl) (by simp) ?_
       refine AllReadyH.cons (o := ?o51) ?g51 (fun K hK => ?j51) AllReadyH.nil
       case g51 => (simp only [gA, gB, gC]; rfl)
       refine step_store rfl 38 (.tmp 8) (.tmp 38) rfl bk #[.int .i64 (mdP (clF F) p v), .slice BA1 (encD (mdPre v s)).length bc1, .slice RA1 x1.length rc1] #[.int .i64 0, .slice none 0 0, .slice none 0 0] rfl rfl HZk.out.at_ rfl (by kernel_rfl) (by intro u hu; simp only [List.mem_cons, List.not_mem_nil, or_false] at hu; rcases hu with rfl | rfl | rfl <;> rfl) ?_
       intro uk hz ho
       have hbd := HBD.out
       have hge := HGk.out
       have hne := HNE.out
       have HXn := Lib.hid (HXn.out.only ho (by omega))
       have HCn := Lib.hid (HCn.out.only ho (by omega))
       have HDn := Lib.hid (HDn.out.only ho (by omega))
       have HZl := Lib.hid (HZl.out.only ho (by omega))
       have HV1 := Lib.hid (HV1.out.only ho Hck1.out)
       have HR1 := Lib.hid (HR1.out.only ho Hck1.out)
       have HS1 := Lib.hid (Nat.le_trans HS1.out ho.size)
       have HV2 := Lib.hid (HV2.out.only ho Hck2.out)
       have HR2 := Lib.hid (HR2.out.only ho Hck2.out)
       have HS2 := Lib.hid (Nat.le_trans HS2.out ho.size)
       have HTn := Lib.hid (HTn.out.only ho hge)
       have HBn := Lib.hid (HBn.out.only ho (fun h => HZk.out.off (.inl h)) (by omega) (fun h => HZk.out.off (.inr h)))
       have HZk := Lib.hid (show Held _ bm uk bk #[.int .i64 (mdP (clF F) p v), .slice BA1 (encD (mdPre v s)).length bc1, .slice RA1 x1.length rc1] 38 from ⟨hz, HZk.out.off⟩)
       clear hz ho hbd hge hne
       refine hK.out _ _ ?_ (fun hHeld => ?_)
       · (try dsimp only); exact HKS.out _ _ HXn.out HCn.out HDn.out
       clear hK K
       (try simp only [Act.put, sA, sB, sC])
       refine wpAnyH_ready (rs := [9]) (by kernel_rfl) (by simp) ?_
       refine AllReadyH.cons (o := ?o52) ?g52 (fun K hK => ?j52) AllReadyH.nil
       case g52 => (simp only [gA, gB, gC]; rfl)
       refine step_store rfl 38 (.tmp 9) (.tmp 41) rfl bl #[.int .i64 (mdP (clF F) p2 v), .slice BA2 (encD (mdPre v s)).length bc2, .slice RA2 x2.length rc2] #[.int .i64 0, .slice none 0 0, .slice none 0 0] rfl rfl HZl.out.at_ rfl (by kernel_rfl) (by intro u hu; simp only [List.mem_cons, List.not_mem_nil, or_false] at hu; rcases hu with rfl | rfl | rfl <;> rfl) ?_
       intro ul hz ho
       have hbd := HBD.out
       have hge := HGl.out
       have hne := HNE.out
       have HXn := Lib.hid (HXn.out.only ho (by omega))
       have HCn := Lib.hid (HCn.out.only ho (by omega))
       have HDn := Lib.hid (HDn.out.only ho (by omega))
       have HZk := Lib.hid (HZk.out.only ho (by omega))
       have HV1 := Lib.hid (HV1.out.only ho Hcl1.out)
       have HR1 := Lib.hid (HR1.out.only ho Hcl1.out)
       have HS1 := Lib.hid (Nat.le_trans HS1.out ho.size)
       have HV2 := Lib.hid (HV2.out.only ho Hcl2.out)
       have HR2 := Lib.hid (HR2.out.only ho Hcl2.out)
       have HS2 := Lib.hid (Nat.le_trans HS2.out ho.size)
       have HTn := Lib.hid (HTn.out.only ho hge)
       have HBn := Lib.hid (HBn.out.only ho (fun h => HZl.out.off (.inl h)) (by omega) (fun h => HZl.out.off (.inr h)))
       have HZl := Lib.hid (show Held _ bm ul bl #[.int .i64 (mdP (clF F) p2 v), .slice BA2 (encD (mdPre v s)).length bc2, .slice RA2 x2.length rc2] 38 from ⟨hz, HZl.out.off⟩)
       clear hz ho hbd hge hne
       refine hK.out _ _ ?_ (fun hHeld => ?_)
       · (try dsimp only); exact HKS.out _ _ HXn.out HCn.out HDn.out
       clear hK K
       (try simp only [Act.put, sA, sB, sC])
       refine wpAnyH_done (by kernel_rfl) ?_ _
       go_wp2_with fail
       go_meet
       exact ⟨bk, bl, BA1, bc1, RA1, rc1, x1, BA2, bc2, RA2, rc2, x2, _, _, _, _, _, rfl, rfl, HBn.out, HTn.out, HZk.out, HZl.out, HV1.out, HR1.out, HV2.out, HR2.out, HNE.out, Hck1.out, Hck2.out, Hcl1.out, Hcl2.out, HKL.out, HGk.out, HGl.out, HS1.out, HS2.out, HKW.out⟩
     ·
      refine step_alloc rfl 38 rfl #[.int .i64 0, .slice none 0 0, .slice none 0 0] 38 (fun W => by go_simp) ?_
      intro bl vl hz hbk hge
      have HZo := Lib.hid (HBn.out.fresh hge)
      have HGl := Lib.hid (Nat.le_trans HTn.out.off.size hge)
      have HNE := Lib.hid (show bk ≠ bl from by have := HZk.out.lt; omega)
      have HXn := Lib.hid (HXn.out.below hbk)
      have HCn := Lib.hid (HCn.out.below hbk)
      have HDn := Lib.hid (HDn.out.below hbk)
      have HZk := Lib.hid (HZk.out.below hbk)
      have HTn := Lib.hid (HTn.out.trans (Turn.below hbk))
      have HBn := Lib.hid (HBn.out.below hbk)
      have HZl := Lib.hid (show Held _ bm vl bl #[.int .i64 0, .slice none 0 0, .slice none 0 0] 38 from ⟨hz, HZo.out⟩)
      clear hz hbk hge HZo
      refine hK.out _ _ ?_ (fun hHeld => ?_)
      · (try dsimp only); exact HKS.out _ _ HXn.out HCn.out HDn.out
      clear hK K
      (try simp only [Act.put, sA, sB, sC])
      refine wpAnyH_ready (rs := [2]) (by kernel_rfl) (by simp) ?_
      refine AllReadyH.cons (o := ?o53) ?g53 (fun K hK => ?j53) AllReadyH.nil
      case g53 => (simp only [gA, gB, gC]; rfl)
      go_simp
      obtain ⟨B01, hB0⟩ := size_of HBn.out
      (go_at_call_of 15 (Value.int .i64 p); go_loud (refine (made_any w2.heap.size g bm g2 (clF F) (clC C) [] _ v s p vs A cc _ HBn.out (fun W' hW => HVS.out.below (HBe.out.trans (((HTn.out.lowB HBT.out).trans hW).mono HNw.out))) ⟨HBI.out.1, HBI.out.2.1⟩ ⟨HBI.out.2.2.1, HBI.out.2.2.2.1⟩ HBI.out.2.2.2.2 HP.out HOK.out (Nat.zero_le _)).mono ?_))
      intro e w51 hm
      obtain ⟨bv, row, x1, T5, rfl, h1, h2, hb, ht⟩ := made_new hm
      obtain ⟨BA1, bc1, rfl, -⟩ := h1.h.bs.open
      obtain ⟨RA1, rc1, rfl⟩ := own_slice h2.own
      rw [hB0] at h1 h2
      have Hck1 := Lib.hid (show bk < B01 ∨ w51.heap.size ≤ bk from .inl (hB0 ▸ HZk.out.lt))
      have Hcl1 := Lib.hid (show bl < B01 ∨ w51.heap.size ≤ bl from .inl (hB0 ▸ HZl.out.lt))
      have HXn := Lib.hid (HXn.out.turn ht)
      have HCn := Lib.hid (HCn.out.turn ht)
      have HDn := Lib.hid (HDn.out.turn ht)
      have HZk := Lib.hid (HZk.out.turn ht)
      have HZl := Lib.hid (HZl.out.turn ht)
      have HTn := Lib.hid (HTn.out.trans ht)
      have HBn := Lib.hid hb
      have HV1 := Lib.hid h1
      have HR1 := Lib.hid h2
      have HS1 := Lib.hid (Nat.le_refl w51.heap.size)
      clear hm h1 h2 hb ht hB0
      have HKW := Lib.hid HTn.out.off.size
      refine hK.out _ _ ?_ (fun hHeld => ?_)
      · (try dsimp only); exact HKS.out _ _ HXn.out HCn.out HDn.out
      clear hK K
      (try simp only [Act.put, sA, sB, sC])
      refine wpAnyH_ready (rs := [5]) (by kernel_rfl) (by simp) ?_
      refine AllReadyH.cons (o := ?o54) ?g54 (fun K hK => ?j54) AllReadyH.nil
      case g54 => (simp only [gA, gB, gC]; rfl)
      go_simp
      obtain ⟨B02, hB0⟩ := size_of HBn.out
      (go_at_call_of 15 (Value.int .i64 p2); go_loud (refine (made_any w2.heap.size g bm g2 (clF F) (clC C) (mdL (clF F) (clC C) v s p [] vs) _ v s p2 us D dd _ HBn.out (fun W' hW => HUS.out.below (HBe.out.trans (((HTn.out.lowB HBT.out).trans hW).mono HNw.out))) ⟨HBI.out.1, HBI.out.2.1⟩ ⟨HBI.out.2.2.1, HBI.out.2.2.2.1⟩ HBI2.out.2.2.2.2 HP2.out HOK2.out (by have := mdL_len (clF F) (clC C) v s p [] vs; have := HBI.out.2.2.2.2; simp only [List.length_nil] at *; omega)).mono ?_))
      intro e w52 hm
      obtain ⟨bv, row, x2, T5, rfl, h1, h2, hb, ht⟩ := made_new hm
      obtain ⟨BA2, bc2, rfl, -⟩ := h1.h.bs.open
      obtain ⟨RA2, rc2, rfl⟩ := own_slice h2.own
      rw [hB0] at h1 h2
      have Hck2 := Lib.hid (show bk < B02 ∨ w52.heap.size ≤ bk from .inl (hB0 ▸ HZk.out.lt))
      have Hcl2 := Lib.hid (show bl < B02 ∨ w52.heap.size ≤ bl from .inl (hB0 ▸ HZl.out.lt))
      have HKL := Lib.hid (show w51.heap.size ≤ B02 from hB0 ▸ HS1.out)
      have HXn := Lib.hid (HXn.out.turn ht)
      have HCn := Lib.hid (HCn.out.turn ht)
      have HDn := Lib.hid (HDn.out.turn ht)
      have HZk := Lib.hid (HZk.out.turn ht)
      have HZl := Lib.hid (HZl.out.turn ht)
      have HV1 := Lib.hid (HV1.out.turn ht)
      have HR1 := Lib.hid (HR1.out.turn ht)
      have HS1 := Lib.hid (Nat.le_trans HS1.out ht.off.size)
      have HTn := Lib.hid (HTn.out.trans ht)
      have HBn := Lib.hid hb
      have HV2 := Lib.hid h1
      have HR2 := Lib.hid h2
      have HS2 := Lib.hid (Nat.le_refl w52.heap.size)
      clear hm h1 h2 hb ht hB0
      refine hK.out _ _ ?_ (fun hHeld => ?_)
      · (try dsimp only); exact HKS.out _ _ HXn.out HCn.out HDn.out
      clear hK K
      (try simp only [Act.put, sA, sB, sC])
      refine wpAnyH_ready (rs := [8]) (by kernel_rfl) (by simp) ?_
      refine AllReadyH.cons (o := ?o55) ?g55 (fun K hK => ?j55) AllReadyH.nil
      case g55 => (simp only [gA, gB, gC]; rfl)
      refine step_store rfl 38 (.tmp 8) (.tmp 38) rfl bk #[.int .i64 (mdP (clF F) p v), .slice BA1 (encD (mdPre v s)).length bc1, .slice RA1 x1.length rc1] #[.int .i64 0, .slice none 0 0, .slice none 0 0] rfl rfl HZk.out.at_ rfl (by kernel_rfl) (by intro u hu; simp only [List.mem_cons, List.not_mem_nil, or_false] at hu; rcases hu with rfl | rfl | rfl <;> rfl) ?_
      intro uk hz ho
      have hbd := HBD.out
      have hge := HGk.out
      have hne := HNE.out
      have HXn := Lib.hid (HXn.out.only ho (by omega))
      have HCn := Lib.hid (HCn.out.only ho (by omega))
      have HDn := Lib.hid (HDn.out.only ho (by omega))
      have HZl := Lib.hid (HZl.out.only ho (by omega))
      have HV1 := Lib.hid (HV1.out.only ho Hck1.out)
      have HR1 := Lib.hid (HR1.out.only ho Hck1.out)
      have HS1 := Lib.hid (Nat.le_trans HS1.out ho.size)
      have HV2 := Lib.hid (HV2.out.only ho Hck2.out)
      have HR2 := Lib.hid (HR2.out.only ho Hck2.out)
      have HS2 := Lib.hid (Nat.le_trans HS2.out ho.size)
      have HTn := Lib.hid (HTn.out.only ho hge)
      have HBn := Lib.hid (HBn.out.only ho (fun h => HZk.out.off (.inl h)) (by omega) (fun h => HZk.out.off (.inr h)))
      have HZk := Lib.hid (show Held _ bm uk bk #[.int .i64 (mdP (clF F) p v), .slice BA1 (encD (mdPre v s)).length bc1, .slice RA1 x1.length rc1] 38 from ⟨hz, HZk.out.off⟩)
      clear hz ho hbd hge hne
      refine hK.out _ _ ?_ (fun hHeld => ?_)
      · (try dsimp only); exact HKS.out _ _ HXn.out HCn.out HDn.out
      clear hK K
      (try simp only [Act.put, sA, sB, sC])
      refine wpAnyH_ready (rs := [9]) (by kernel_rfl) (by simp) ?_
      refine AllReadyH.cons (o := ?o56) ?g56 (fun K hK => ?j56) AllReadyH.nil
      case g56 => (simp only [gA, gB, gC]; rfl)
      refine step_store rfl 38 (.tmp 9) (.tmp 41) rfl bl #[.int .i64 (mdP (clF F) p2 v), .slice BA2 (encD (mdPre v s)).length bc2, .slice RA2 x2.length rc2] #[.int .i64 0, .slice none 0 0, .slice none 0 0] rfl rfl HZl.out.at_ rfl (by kernel_rfl) (by intro u hu; simp only [List.mem_cons, List.not_mem_nil, or_false] at hu; rcases hu with rfl | rfl | rfl <;> rfl) ?_
      intro ul hz ho
      have hbd := HBD.out
      have hge := HGl.out
      have hne := HNE.out
      have HXn := Lib.hid (HXn.out.only ho (by omega))
      have HCn := Lib.hid (HCn.out.only ho (by omega))
      have HDn := Lib.hid (HDn.out.only ho (by omega))
      have HZk := Lib.hid (HZk.out.only ho (by omega))
      have HV1 := Lib.hid (HV1.out.only ho Hcl1.out)
      have HR1 := Lib.hid (HR1.out.only ho Hcl1.out)
      have HS1 := Lib.hid (Nat.le_trans HS1.out ho.size)
      have HV2 := Lib.hid (HV2.out.only ho Hcl2.out)
      have HR2 := Lib.hid (HR2.out.only ho Hcl2.out)
      have HS2 := Lib.hid (Nat.le_trans HS2.out ho.size)
      have HTn := Lib.hid (HTn.out.only ho hge)
      have HBn := Lib.hid (HBn.out.only ho (fun h => HZl.out.off (.inl h)) (by omega) (fun h => HZl.out.off (.inr h)))
      have HZl := Lib.hid (show Held _ bm ul bl #[.int .i64 (mdP (clF F) p2 v), .slice BA2 (encD (mdPre v s)).length bc2, .slice RA2 x2.length rc2] 38 from ⟨hz, HZl.out.off⟩)
      clear hz ho hbd hge hne
      refine hK.out _ _ ?_ (fun hHeld => ?_)
      · (try dsimp only); exact HKS.out _ _ HXn.out HCn.out HDn.out
      clear hK K
      (try simp only [Act.put, sA, sB, sC])
      refine wpAnyH_done (by kernel_rfl) ?_ _
      go_wp2_with fail
      go_meet
      exact ⟨bk, bl, BA1, bc1, RA1, rc1, x1, BA2, bc2, RA2, rc2, x2, _, _, _, _, _, rfl, rfl, HBn.out, HTn.out, HZk.out, HZl.out, HV1.out, HR1.out, HV2.out, HR2.out, HNE.out, Hck1.out, Hck2.out, Hcl1.out, Hcl2.out, HKL.out, HGk.out, HGl.out, HS1.out, HS2.out, HKW.out⟩
    ·
     refine step_alloc rfl 38 rfl #[.int .i64 0, .slice none 0 0, .slice none 0 0] 38 (fun W => by go_simp) ?_
     intro bl vl hz hbk hge
     have HZo := Lib.hid (HBn.out.fresh hge)
     have HGl := Lib.hid (Nat.le_trans HTn.out.off.size hge)
     have HXn := Lib.hid (HXn.out.below hbk)
     have HCn := Lib.hid (HCn.out.below hbk)
     have HDn := Lib.hid (HDn.out.below hbk)
     have HTn := Lib.hid (HTn.out.trans (Turn.below hbk))
     have HBn := Lib.hid (HBn.out.below hbk)
     have HZl := Lib.hid (show Held _ bm vl bl #[.int .i64 0, .slice none 0 0, .slice none 0 0] 38 from ⟨hz, HZo.out⟩)
     clear hz hbk hge HZo
     refine hK.out _ _ ?_ (fun hHeld => ?_)
     · (try dsimp only); exact HKS.out _ _ HXn.out HCn.out HDn.out
     clear hK K
     (try simp only [Act.put, sA, sB, sC])
     refine wpAnyH_ready (rs := [2, 6]) (by kernel_rfl) (by simp) ?_
     refine AllReadyH.cons (o := ?o57) ?g57 (fun K hK => ?j57) (AllReadyH.cons (o := ?o58) ?g58 (fun K hK => ?j58) AllReadyH.nil)
     case g57 => (simp only [gA, gB, gC]; rfl)
     case g58 => (simp only [gA, gB, gC]; rfl)
     ·
      go_simp
      obtain ⟨B01, hB0⟩ := size_of HBn.out
      (go_at_call_of 15 (Value.int .i64 p); go_loud (refine (made_any w2.heap.size g bm g2 (clF F) (clC C) [] _ v s p vs A cc _ HBn.out (fun W' hW => HVS.out.below (HBe.out.trans (((HTn.out.lowB HBT.out).trans hW).mono HNw.out))) ⟨HBI.out.1, HBI.out.2.1⟩ ⟨HBI.out.2.2.1, HBI.out.2.2.2.1⟩ HBI.out.2.2.2.2 HP.out HOK.out (Nat.zero_le _)).mono ?_))
      intro e w51 hm
      obtain ⟨bv, row, x1, T5, rfl, h1, h2, hb, ht⟩ := made_new hm
      obtain ⟨BA1, bc1, rfl, -⟩ := h1.h.bs.open
      obtain ⟨RA1, rc1, rfl⟩ := own_slice h2.own
      rw [hB0] at h1 h2
      have Hcl1 := Lib.hid (show bl < B01 ∨ w51.heap.size ≤ bl from .inl (hB0 ▸ HZl.out.lt))
      have HXn := Lib.hid (HXn.out.turn ht)
      have HCn := Lib.hid (HCn.out.turn ht)
      have HDn := Lib.hid (HDn.out.turn ht)
      have HZl := Lib.hid (HZl.out.turn ht)
      have HTn := Lib.hid (HTn.out.trans ht)
      have HBn := Lib.hid hb
      have HV1 := Lib.hid h1
      have HR1 := Lib.hid h2
      have HS1 := Lib.hid (Nat.le_refl w51.heap.size)
      clear hm h1 h2 hb ht hB0
      have HKW := Lib.hid HTn.out.off.size
      refine hK.out _ _ ?_ (fun hHeld => ?_)
      · (try dsimp only); exact HKS.out _ _ HXn.out HCn.out HDn.out
      clear hK K
      (try simp only [Act.put, sA, sB, sC])
      refine wpAnyH_ready (rs := [5, 6]) (by kernel_rfl) (by simp) ?_
      refine AllReadyH.cons (o := ?o59) ?g59 (fun K hK => ?j59) (AllReadyH.cons (o := ?o60) ?g60 (fun K hK => ?j60) AllReadyH.nil)
      case g59 => (simp only [gA, gB, gC]; rfl)
      case g60 => (simp only [gA, gB, gC]; rfl)
      ·
       go_simp
       obtain ⟨B02, hB0⟩ := size_of HBn.out
       (go_at_call_of 15 (Value.int .i64 p2); go_loud (refine (made_any w2.heap.size g bm g2 (clF F) (clC C) (mdL (clF F) (clC C) v s p [] vs) _ v s p2 us D dd _ HBn.out (fun W' hW => HUS.out.below (HBe.out.trans (((HTn.out.lowB HBT.out).trans hW).mono HNw.out))) ⟨HBI.out.1, HBI.out.2.1⟩ ⟨HBI.out.2.2.1, HBI.out.2.2.2.1⟩ HBI2.out.2.2.2.2 HP2.out HOK2.out (by have := mdL_len (clF F) (clC C) v s p [] vs; have := HBI.out.2.2.2.2; simp only [List.length_nil] at *; omega)).mono ?_))
       intro e w52 hm
       obtain ⟨bv, row, x2, T5, rfl, h1, h2, hb, ht⟩ := made_new hm
       obtain ⟨BA2, bc2, rfl, -⟩ := h1.h.bs.open
       obtain ⟨RA2, rc2, rfl⟩ := own_slice h2.own
       rw [hB0] at h1 h2
       have Hcl2 := Lib.hid (show bl < B02 ∨ w52.heap.size ≤ bl from .inl (hB0 ▸ HZl.out.lt))
       have HKL := Lib.hid (show w51.heap.size ≤ B02 from hB0 ▸ HS1.out)
       have HXn := Lib.hid (HXn.out.turn ht)
       have HCn := Lib.hid (HCn.out.turn ht)
       have HDn := Lib.hid (HDn.out.turn ht)
       have HZl := Lib.hid (HZl.out.turn ht)
       have HV1 := Lib.hid (HV1.out.turn ht)
       have HR1 := Lib.hid (HR1.out.turn ht)
       have HS1 := Lib.hid (Nat.le_trans HS1.out ht.off.size)
       have HTn := Lib.hid (HTn.out.trans ht)
       have HBn := Lib.hid hb
       have HV2 := Lib.hid h1
       have HR2 := Lib.hid h2
       have HS2 := Lib.hid (Nat.le_refl w52.heap.size)
       clear hm h1 h2 hb ht hB0
       refine hK.out _ _ ?_ (fun hHeld => ?_)
       · (try dsimp only); exact HKS.out _ _ HXn.out HCn.out HDn.out
       clear hK K
       (try simp only [Act.put, sA, sB, sC])
       refine wpAnyH_ready (rs := [6]) (by kernel_rfl) (by simp) ?_
       refine AllReadyH.cons (o := ?o61) ?g61 (fun K hK => ?j61) AllReadyH.nil
       case g61 => (simp only [gA, gB, gC]; rfl)
       refine step_alloc rfl 38 rfl #[.int .i64 0, .slice none 0 0, .slice none 0 0] 38 (fun W => by go_simp) ?_
       intro bk vk hz hbk hge
       have HZo := Lib.hid (HBn.out.fresh hge)
       have HGk := Lib.hid (Nat.le_trans HTn.out.off.size hge)
       have Hck1 := Lib.hid (show bk < B01 ∨ w51.heap.size ≤ bk from .inr (Nat.le_trans HS1.out hge))
       have Hck2 := Lib.hid (show bk < B02 ∨ w52.heap.size ≤ bk from .inr (Nat.le_trans HS2.out hge))
       have HNE := Lib.hid (show bk ≠ bl from by have := HZl.out.lt; omega)
       have HXn := Lib.hid (HXn.out.below hbk)
       have HCn := Lib.hid (HCn.out.below hbk)
       have HDn := Lib.hid (HDn.out.below hbk)
       have HZl := Lib.hid (HZl.out.below hbk)
       have HV1 := Lib.hid (HV1.out.below hbk)
       have HR1 := Lib.hid (HR1.out.below hbk)
       have HV2 := Lib.hid (HV2.out.below hbk)
       have HR2 := Lib.hid (HR2.out.below hbk)
       have HS1 := Lib.hid (Nat.le_trans HS1.out hbk.size)
       have HS2 := Lib.hid (Nat.le_trans HS2.out hbk.size)
       have HTn := Lib.hid (HTn.out.trans (Turn.below hbk))
       have HBn := Lib.hid (HBn.out.below hbk)
       have HZk := Lib.hid (show Held _ bm vk bk #[.int .i64 0, .slice none 0 0, .slice none 0 0] 38 from ⟨hz, HZo.out⟩)
       clear hz hbk hge HZo
       refine hK.out _ _ ?_ (fun hHeld => ?_)
       · (try dsimp only); exact HKS.out _ _ HXn.out HCn.out HDn.out
       clear hK K
       (try simp only [Act.put, sA, sB, sC])
       refine wpAnyH_ready (rs := [8]) (by kernel_rfl) (by simp) ?_
       refine AllReadyH.cons (o := ?o62) ?g62 (fun K hK => ?j62) AllReadyH.nil
       case g62 => (simp only [gA, gB, gC]; rfl)
       refine step_store rfl 38 (.tmp 8) (.tmp 38) rfl bk #[.int .i64 (mdP (clF F) p v), .slice BA1 (encD (mdPre v s)).length bc1, .slice RA1 x1.length rc1] #[.int .i64 0, .slice none 0 0, .slice none 0 0] rfl rfl HZk.out.at_ rfl (by kernel_rfl) (by intro u hu; simp only [List.mem_cons, List.not_mem_nil, or_false] at hu; rcases hu with rfl | rfl | rfl <;> rfl) ?_
       intro uk hz ho
       have hbd := HBD.out
       have hge := HGk.out
       have hne := HNE.out
       have HXn := Lib.hid (HXn.out.only ho (by omega))
       have HCn := Lib.hid (HCn.out.only ho (by omega))
       have HDn := Lib.hid (HDn.out.only ho (by omega))
       have HZl := Lib.hid (HZl.out.only ho (by omega))
       have HV1 := Lib.hid (HV1.out.only ho Hck1.out)
       have HR1 := Lib.hid (HR1.out.only ho Hck1.out)
       have HS1 := Lib.hid (Nat.le_trans HS1.out ho.size)
       have HV2 := Lib.hid (HV2.out.only ho Hck2.out)
       have HR2 := Lib.hid (HR2.out.only ho Hck2.out)
       have HS2 := Lib.hid (Nat.le_trans HS2.out ho.size)
       have HTn := Lib.hid (HTn.out.only ho hge)
       have HBn := Lib.hid (HBn.out.only ho (fun h => HZk.out.off (.inl h)) (by omega) (fun h => HZk.out.off (.inr h)))
       have HZk := Lib.hid (show Held _ bm uk bk #[.int .i64 (mdP (clF F) p v), .slice BA1 (encD (mdPre v s)).length bc1, .slice RA1 x1.length rc1] 38 from ⟨hz, HZk.out.off⟩)
       clear hz ho hbd hge hne
       refine hK.out _ _ ?_ (fun hHeld => ?_)
       · (try dsimp only); exact HKS.out _ _ HXn.out HCn.out HDn.out
       clear hK K
       (try simp only [Act.put, sA, sB, sC])
       refine wpAnyH_ready (rs := [9]) (by kernel_rfl) (by simp) ?_
       refine AllReadyH.cons (o := ?o63) ?g63 (fun K hK => ?j63) AllReadyH.nil
       case g63 => (simp only [gA, gB, gC]; rfl)
       refine step_store rfl 38 (.tmp 9) (.tmp 41) rfl bl #[.int .i64 (mdP (clF F) p2 v), .slice BA2 (encD (mdPre v s)).length bc2, .slice RA2 x2.length rc2] #[.int .i64 0, .slice none 0 0, .slice none 0 0] rfl rfl HZl.out.at_ rfl (by kernel_rfl) (by intro u hu; simp only [List.mem_cons, List.not_mem_nil, or_false] at hu; rcases hu with rfl | rfl | rfl <;> rfl) ?_
       intro ul hz ho
       have hbd := HBD.out
       have hge := HGl.out
       have hne := HNE.out
       have HXn := Lib.hid (HXn.out.only ho (by omega))
       have HCn := Lib.hid (HCn.out.only ho (by omega))
       have HDn := Lib.hid (HDn.out.only ho (by omega))
       have HZk := Lib.hid (HZk.out.only ho (by omega))
       have HV1 := Lib.hid (HV1.out.only ho Hcl1.out)
       have HR1 := Lib.hid (HR1.out.only ho Hcl1.out)
       have HS1 := Lib.hid (Nat.le_trans HS1.out ho.size)
       have HV2 := Lib.hid (HV2.out.only ho Hcl2.out)
       have HR2 := Lib.hid (HR2.out.only ho Hcl2.out)
       have HS2 := Lib.hid (Nat.le_trans HS2.out ho.size)
       have HTn := Lib.hid (HTn.out.only ho hge)
       have HBn := Lib.hid (HBn.out.only ho (fun h => HZl.out.off (.inl h)) (by omega) (fun h => HZl.out.off (.inr h)))
       have HZl := Lib.hid (show Held _ bm ul bl #[.int .i64 (mdP (clF F) p2 v), .slice BA2 (encD (mdPre v s)).length bc2, .slice RA2 x2.length rc2] 38 from ⟨hz, HZl.out.off⟩)
       clear hz ho hbd hge hne
       refine hK.out _ _ ?_ (fun hHeld => ?_)
       · (try dsimp only); exact HKS.out _ _ HXn.out HCn.out HDn.out
       clear hK K
       (try simp only [Act.put, sA, sB, sC])
       refine wpAnyH_done (by kernel_rfl) ?_ _
       go_wp2_with fail
       go_meet
       exact ⟨bk, bl, BA1, bc1, RA1, rc1, x1, BA2, bc2, RA2, rc2, x2, _, _, _, _, _, rfl, rfl, HBn.out, HTn.out, HZk.out, HZl.out, HV1.out, HR1.out, HV2.out, HR2.out, HNE.out, Hck1.out, Hck2.out, Hcl1.out, Hcl2.out, HKL.out, HGk.out, HGl.out, HS1.out, HS2.out, HKW.out⟩
      ·
       refine step_alloc rfl 38 rfl #[.int .i64 0, .slice none 0 0, .slice none 0 0] 38 (fun W => by go_simp) ?_
       intro bk vk hz hbk hge
       have HZo := Lib.hid (HBn.out.fresh hge)
       have HGk := Lib.hid (Nat.le_trans HTn.out.off.size hge)
       have Hck1 := Lib.hid (show bk < B01 ∨ w51.heap.size ≤ bk from .inr (Nat.le_trans HS1.out hge))
       have HNE := Lib.hid (show bk ≠ bl from by have := HZl.out.lt; omega)
       have HXn := Lib.hid (HXn.out.below hbk)
       have HCn := Lib.hid (HCn.out.below hbk)
       have HDn := Lib.hid (HDn.out.below hbk)
       have HZl := Lib.hid (HZl.out.below hbk)
       have HV1 := Lib.hid (HV1.out.below hbk)
       have HR1 := Lib.hid (HR1.out.below hbk)
       have HS1 := Lib.hid (Nat.le_trans HS1.out hbk.size)
       have HTn := Lib.hid (HTn.out.trans (Turn.below hbk))
       have HBn := Lib.hid (HBn.out.below hbk)
       have HZk := Lib.hid (show Held _ bm vk bk #[.int .i64 0, .slice none 0 0, .slice none 0 0] 38 from ⟨hz, HZo.out⟩)
       clear hz hbk hge HZo
       refine hK.out _ _ ?_ (fun hHeld => ?_)
       · (try dsimp only); exact HKS.out _ _ HXn.out HCn.out HDn.out
       clear hK K
       (try simp only [Act.put, sA, sB, sC])
       refine wpAnyH_ready (rs := [5]) (by kernel_rfl) (by simp) ?_
       refine AllReadyH.cons (o := ?o64) ?g64 (fun K hK => ?j64) AllReadyH.nil
       case g64 => (simp only [gA, gB, gC]; rfl)
       go_simp
       obtain ⟨B02, hB0⟩ := size_of HBn.out
       (go_at_call_of 15 (Value.int .i64 p2); go_loud (refine (made_any w2.heap.size g bm g2 (clF F) (clC C) (mdL (clF F) (clC C) v s p [] vs) _ v s p2 us D dd _ HBn.out (fun W' hW => HUS.out.below (HBe.out.trans (((HTn.out.lowB HBT.out).trans hW).mono HNw.out))) ⟨HBI.out.1, HBI.out.2.1⟩ ⟨HBI.out.2.2.1, HBI.out.2.2.2.1⟩ HBI2.out.2.2.2.2 HP2.out HOK2.out (by have := mdL_len (clF F) (clC C) v s p [] vs; have := HBI.out.2.2.2.2; simp only [List.length_nil] at *; omega)).mono ?_))
       intro e w52 hm
       obtain ⟨bv, row, x2, T5, rfl, h1, h2, hb, ht⟩ := made_new hm
       obtain ⟨BA2, bc2, rfl, -⟩ := h1.h.bs.open
       obtain ⟨RA2, rc2, rfl⟩ := own_slice h2.own
       rw [hB0] at h1 h2
       have Hcl2 := Lib.hid (show bl < B02 ∨ w52.heap.size ≤ bl from .inl (hB0 ▸ HZl.out.lt))
       have Hck2 := Lib.hid (show bk < B02 ∨ w52.heap.size ≤ bk from .inl (hB0 ▸ HZk.out.lt))
       have HKL := Lib.hid (show w51.heap.size ≤ B02 from hB0 ▸ HS1.out)
       have HXn := Lib.hid (HXn.out.turn ht)
       have HCn := Lib.hid (HCn.out.turn ht)
       have HDn := Lib.hid (HDn.out.turn ht)
       have HZl := Lib.hid (HZl.out.turn ht)
       have HZk := Lib.hid (HZk.out.turn ht)
       have HV1 := Lib.hid (HV1.out.turn ht)
       have HR1 := Lib.hid (HR1.out.turn ht)
       have HS1 := Lib.hid (Nat.le_trans HS1.out ht.off.size)
       have HTn := Lib.hid (HTn.out.trans ht)
       have HBn := Lib.hid hb
       have HV2 := Lib.hid h1
       have HR2 := Lib.hid h2
       have HS2 := Lib.hid (Nat.le_refl w52.heap.size)
       clear hm h1 h2 hb ht hB0
       refine hK.out _ _ ?_ (fun hHeld => ?_)
       · (try dsimp only); exact HKS.out _ _ HXn.out HCn.out HDn.out
       clear hK K
       (try simp only [Act.put, sA, sB, sC])
       refine wpAnyH_ready (rs := [8]) (by kernel_rfl) (by simp) ?_
       refine AllReadyH.cons (o := ?o65) ?g65 (fun K hK => ?j65) AllReadyH.nil
       case g65 => (simp only [gA, gB, gC]; rfl)
       refine step_store rfl 38 (.tmp 8) (.tmp 38) rfl bk #[.int .i64 (mdP (clF F) p v), .slice BA1 (encD (mdPre v s)).length bc1, .slice RA1 x1.length rc1] #[.int .i64 0, .slice none 0 0, .slice none 0 0] rfl rfl HZk.out.at_ rfl (by kernel_rfl) (by intro u hu; simp only [List.mem_cons, List.not_mem_nil, or_false] at hu; rcases hu with rfl | rfl | rfl <;> rfl) ?_
       intro uk hz ho
       have hbd := HBD.out
       have hge := HGk.out
       have hne := HNE.out
       have HXn := Lib.hid (HXn.out.only ho (by omega))
       have HCn := Lib.hid (HCn.out.only ho (by omega))
       have HDn := Lib.hid (HDn.out.only ho (by omega))
       have HZl := Lib.hid (HZl.out.only ho (by omega))
       have HV1 := Lib.hid (HV1.out.only ho Hck1.out)
       have HR1 := Lib.hid (HR1.out.only ho Hck1.out)
       have HS1 := Lib.hid (Nat.le_trans HS1.out ho.size)
       have HV2 := Lib.hid (HV2.out.only ho Hck2.out)
       have HR2 := Lib.hid (HR2.out.only ho Hck2.out)
       have HS2 := Lib.hid (Nat.le_trans HS2.out ho.size)
       have HTn := Lib.hid (HTn.out.only ho hge)
       have HBn := Lib.hid (HBn.out.only ho (fun h => HZk.out.off (.inl h)) (by omega) (fun h => HZk.out.off (.inr h)))
       have HZk := Lib.hid (show Held _ bm uk bk #[.int .i64 (mdP (clF F) p v), .slice BA1 (encD (mdPre v s)).length bc1, .slice RA1 x1.length rc1] 38 from ⟨hz, HZk.out.off⟩)
       clear hz ho hbd hge hne
       refine hK.out _ _ ?_ (fun hHeld => ?_)
       · (try dsimp only); exact HKS.out _ _ HXn.out HCn.out HDn.out
       clear hK K
       (try simp only [Act.put, sA, sB, sC])
       refine wpAnyH_ready (rs := [9]) (by kernel_rfl) (by simp) ?_
       refine AllReadyH.cons (o := ?o66) ?g66 (fun K hK => ?j66) AllReadyH.nil
       case g66 => (simp only [gA, gB, gC]; rfl)
       refine step_store rfl 38 (.tmp 9) (.tmp 41) rfl bl #[.int .i64 (mdP (clF F) p2 v), .slice BA2 (encD (mdPre v s)).length bc2, .slice RA2 x2.length rc2] #[.int .i64 0, .slice none 0 0, .slice none 0 0] rfl rfl HZl.out.at_ rfl (by kernel_rfl) (by intro u hu; simp only [List.mem_cons, List.not_mem_nil, or_false] at hu; rcases hu with rfl | rfl | rfl <;> rfl) ?_
       intro ul hz ho
       have hbd := HBD.out
       have hge := HGl.out
       have hne := HNE.out
       have HXn := Lib.hid (HXn.out.only ho (by omega))
       have HCn := Lib.hid (HCn.out.only ho (by omega))
       have HDn := Lib.hid (HDn.out.only ho (by omega))
       have HZk := Lib.hid (HZk.out.only ho (by omega))
       have HV1 := Lib.hid (HV1.out.only ho Hcl1.out)
       have HR1 := Lib.hid (HR1.out.only ho Hcl1.out)
       have HS1 := Lib.hid (Nat.le_trans HS1.out ho.size)
       have HV2 := Lib.hid (HV2.out.only ho Hcl2.out)
       have HR2 := Lib.hid (HR2.out.only ho Hcl2.out)
       have HS2 := Lib.hid (Nat.le_trans HS2.out ho.size)
       have HTn := Lib.hid (HTn.out.only ho hge)
       have HBn := Lib.hid (HBn.out.only ho (fun h => HZl.out.off (.inl h)) (by omega) (fun h => HZl.out.off (.inr h)))
       have HZl := Lib.hid (show Held _ bm ul bl #[.int .i64 (mdP (clF F) p2 v), .slice BA2 (encD (mdPre v s)).length bc2, .slice RA2 x2.length rc2] 38 from ⟨hz, HZl.out.off⟩)
       clear hz ho hbd hge hne
       refine hK.out _ _ ?_ (fun hHeld => ?_)
       · (try dsimp only); exact HKS.out _ _ HXn.out HCn.out HDn.out
       clear hK K
       (try simp only [Act.put, sA, sB, sC])
       refine wpAnyH_done (by kernel_rfl) ?_ _
       go_wp2_with fail
       go_meet
       exact ⟨bk, bl, BA1, bc1, RA1, rc1, x1, BA2, bc2, RA2, rc2, x2, _, _, _, _, _, rfl, rfl, HBn.out, HTn.out, HZk.out, HZl.out, HV1.out, HR1.out, HV2.out, HR2.out, HNE.out, Hck1.out, Hck2.out, Hcl1.out, Hcl2.out, HKL.out, HGk.out, HGl.out, HS1.out, HS2.out, HKW.out⟩
     ·
      refine step_alloc rfl 38 rfl #[.int .i64 0, .slice none 0 0, .slice none 0 0] 38 (fun W => by go_simp) ?_
      intro bk vk hz hbk hge
      have HZo := Lib.hid (HBn.out.fresh hge)
      have HGk := Lib.hid (Nat.le_trans HTn.out.off.size hge)
      have HNE := Lib.hid (show bk ≠ bl from by have := HZl.out.lt; omega)
      have HXn := Lib.hid (HXn.out.below hbk)
      have HCn := Lib.hid (HCn.out.below hbk)
      have HDn := Lib.hid (HDn.out.below hbk)
      have HZl := Lib.hid (HZl.out.below hbk)
      have HTn := Lib.hid (HTn.out.trans (Turn.below hbk))
      have HBn := Lib.hid (HBn.out.below hbk)
      have HZk := Lib.hid (show Held _ bm vk bk #[.int .i64 0, .slice none 0 0, .slice none 0 0] 38 from ⟨hz, HZo.out⟩)
      clear hz hbk hge HZo
      refine hK.out _ _ ?_ (fun hHeld => ?_)
      · (try dsimp only); exact HKS.out _ _ HXn.out HCn.out HDn.out
      clear hK K
      (try simp only [Act.put, sA, sB, sC])
      refine wpAnyH_ready (rs := [2]) (by kernel_rfl) (by simp) ?_
      refine AllReadyH.cons (o := ?o67) ?g67 (fun K hK => ?j67) AllReadyH.nil
      case g67 => (simp only [gA, gB, gC]; rfl)
      go_simp
      obtain ⟨B01, hB0⟩ := size_of HBn.out
      (go_at_call_of 15 (Value.int .i64 p); go_loud (refine (made_any w2.heap.size g bm g2 (clF F) (clC C) [] _ v s p vs A cc _ HBn.out (fun W' hW => HVS.out.below (HBe.out.trans (((HTn.out.lowB HBT.out).trans hW).mono HNw.out))) ⟨HBI.out.1, HBI.out.2.1⟩ ⟨HBI.out.2.2.1, HBI.out.2.2.2.1⟩ HBI.out.2.2.2.2 HP.out HOK.out (Nat.zero_le _)).mono ?_))
      intro e w51 hm
      obtain ⟨bv, row, x1, T5, rfl, h1, h2, hb, ht⟩ := made_new hm
      obtain ⟨BA1, bc1, rfl, -⟩ := h1.h.bs.open
      obtain ⟨RA1, rc1, rfl⟩ := own_slice h2.own
      rw [hB0] at h1 h2
      have Hcl1 := Lib.hid (show bl < B01 ∨ w51.heap.size ≤ bl from .inl (hB0 ▸ HZl.out.lt))
      have Hck1 := Lib.hid (show bk < B01 ∨ w51.heap.size ≤ bk from .inl (hB0 ▸ HZk.out.lt))
      have HXn := Lib.hid (HXn.out.turn ht)
      have HCn := Lib.hid (HCn.out.turn ht)
      have HDn := Lib.hid (HDn.out.turn ht)
      have HZl := Lib.hid (HZl.out.turn ht)
      have HZk := Lib.hid (HZk.out.turn ht)
      have HTn := Lib.hid (HTn.out.trans ht)
      have HBn := Lib.hid hb
      have HV1 := Lib.hid h1
      have HR1 := Lib.hid h2
      have HS1 := Lib.hid (Nat.le_refl w51.heap.size)
      clear hm h1 h2 hb ht hB0
      have HKW := Lib.hid HTn.out.off.size
      refine hK.out _ _ ?_ (fun hHeld => ?_)
      · (try dsimp only); exact HKS.out _ _ HXn.out HCn.out HDn.out
      clear hK K
      (try simp only [Act.put, sA, sB, sC])
      refine wpAnyH_ready (rs := [5]) (by kernel_rfl) (by simp) ?_
      refine AllReadyH.cons (o := ?o68) ?g68 (fun K hK => ?j68) AllReadyH.nil
      case g68 => (simp only [gA, gB, gC]; rfl)
      go_simp
      obtain ⟨B02, hB0⟩ := size_of HBn.out
      (go_at_call_of 15 (Value.int .i64 p2); go_loud (refine (made_any w2.heap.size g bm g2 (clF F) (clC C) (mdL (clF F) (clC C) v s p [] vs) _ v s p2 us D dd _ HBn.out (fun W' hW => HUS.out.below (HBe.out.trans (((HTn.out.lowB HBT.out).trans hW).mono HNw.out))) ⟨HBI.out.1, HBI.out.2.1⟩ ⟨HBI.out.2.2.1, HBI.out.2.2.2.1⟩ HBI2.out.2.2.2.2 HP2.out HOK2.out (by have := mdL_len (clF F) (clC C) v s p [] vs; have := HBI.out.2.2.2.2; simp only [List.length_nil] at *; omega)).mono ?_))
      intro e w52 hm
      obtain ⟨bv, row, x2, T5, rfl, h1, h2, hb, ht⟩ := made_new hm
      obtain ⟨BA2, bc2, rfl, -⟩ := h1.h.bs.open
      obtain ⟨RA2, rc2, rfl⟩ := own_slice h2.own
      rw [hB0] at h1 h2
      have Hcl2 := Lib.hid (show bl < B02 ∨ w52.heap.size ≤ bl from .inl (hB0 ▸ HZl.out.lt))
      have Hck2 := Lib.hid (show bk < B02 ∨ w52.heap.size ≤ bk from .inl (hB0 ▸ HZk.out.lt))
      have HKL := Lib.hid (show w51.heap.size ≤ B02 from hB0 ▸ HS1.out)
      have HXn := Lib.hid (HXn.out.turn ht)
      have HCn := Lib.hid (HCn.out.turn ht)
      have HDn := Lib.hid (HDn.out.turn ht)
      have HZl := Lib.hid (HZl.out.turn ht)
      have HZk := Lib.hid (HZk.out.turn ht)
      have HV1 := Lib.hid (HV1.out.turn ht)
      have HR1 := Lib.hid (HR1.out.turn ht)
      have HS1 := Lib.hid (Nat.le_trans HS1.out ht.off.size)
      have HTn := Lib.hid (HTn.out.trans ht)
      have HBn := Lib.hid hb
      have HV2 := Lib.hid h1
      have HR2 := Lib.hid h2
      have HS2 := Lib.hid (Nat.le_refl w52.heap.size)
      clear hm h1 h2 hb ht hB0
      refine hK.out _ _ ?_ (fun hHeld => ?_)
      · (try dsimp only); exact HKS.out _ _ HXn.out HCn.out HDn.out
      clear hK K
      (try simp only [Act.put, sA, sB, sC])
      refine wpAnyH_ready (rs := [8]) (by kernel_rfl) (by simp) ?_
      refine AllReadyH.cons (o := ?o69) ?g69 (fun K hK => ?j69) AllReadyH.nil
      case g69 => (simp only [gA, gB, gC]; rfl)
      refine step_store rfl 38 (.tmp 8) (.tmp 38) rfl bk #[.int .i64 (mdP (clF F) p v), .slice BA1 (encD (mdPre v s)).length bc1, .slice RA1 x1.length rc1] #[.int .i64 0, .slice none 0 0, .slice none 0 0] rfl rfl HZk.out.at_ rfl (by kernel_rfl) (by intro u hu; simp only [List.mem_cons, List.not_mem_nil, or_false] at hu; rcases hu with rfl | rfl | rfl <;> rfl) ?_
      intro uk hz ho
      have hbd := HBD.out
      have hge := HGk.out
      have hne := HNE.out
      have HXn := Lib.hid (HXn.out.only ho (by omega))
      have HCn := Lib.hid (HCn.out.only ho (by omega))
      have HDn := Lib.hid (HDn.out.only ho (by omega))
      have HZl := Lib.hid (HZl.out.only ho (by omega))
      have HV1 := Lib.hid (HV1.out.only ho Hck1.out)
      have HR1 := Lib.hid (HR1.out.only ho Hck1.out)
      have HS1 := Lib.hid (Nat.le_trans HS1.out ho.size)
      have HV2 := Lib.hid (HV2.out.only ho Hck2.out)
      have HR2 := Lib.hid (HR2.out.only ho Hck2.out)
      have HS2 := Lib.hid (Nat.le_trans HS2.out ho.size)
      have HTn := Lib.hid (HTn.out.only ho hge)
      have HBn := Lib.hid (HBn.out.only ho (fun h => HZk.out.off (.inl h)) (by omega) (fun h => HZk.out.off (.inr h)))
      have HZk := Lib.hid (show Held _ bm uk bk #[.int .i64 (mdP (clF F) p v), .slice BA1 (encD (mdPre v s)).length bc1, .slice RA1 x1.length rc1] 38 from ⟨hz, HZk.out.off⟩)
      clear hz ho hbd hge hne
      refine hK.out _ _ ?_ (fun hHeld => ?_)
      · (try dsimp only); exact HKS.out _ _ HXn.out HCn.out HDn.out
      clear hK K
      (try simp only [Act.put, sA, sB, sC])
      refine wpAnyH_ready (rs := [9]) (by kernel_rfl) (by simp) ?_
      refine AllReadyH.cons (o := ?o70) ?g70 (fun K hK => ?j70) AllReadyH.nil
      case g70 => (simp only [gA, gB, gC]; rfl)
      refine step_store rfl 38 (.tmp 9) (.tmp 41) rfl bl #[.int .i64 (mdP (clF F) p2 v), .slice BA2 (encD (mdPre v s)).length bc2, .slice RA2 x2.length rc2] #[.int .i64 0, .slice none 0 0, .slice none 0 0] rfl rfl HZl.out.at_ rfl (by kernel_rfl) (by intro u hu; simp only [List.mem_cons, List.not_mem_nil, or_false] at hu; rcases hu with rfl | rfl | rfl <;> rfl) ?_
      intro ul hz ho
      have hbd := HBD.out
      have hge := HGl.out
      have hne := HNE.out
      have HXn := Lib.hid (HXn.out.only ho (by omega))
      have HCn := Lib.hid (HCn.out.only ho (by omega))
      have HDn := Lib.hid (HDn.out.only ho (by omega))
      have HZk := Lib.hid (HZk.out.only ho (by omega))
      have HV1 := Lib.hid (HV1.out.only ho Hcl1.out)
      have HR1 := Lib.hid (HR1.out.only ho Hcl1.out)
      have HS1 := Lib.hid (Nat.le_trans HS1.out ho.size)
      have HV2 := Lib.hid (HV2.out.only ho Hcl2.out)
      have HR2 := Lib.hid (HR2.out.only ho Hcl2.out)
      have HS2 := Lib.hid (Nat.le_trans HS2.out ho.size)
      have HTn := Lib.hid (HTn.out.only ho hge)
      have HBn := Lib.hid (HBn.out.only ho (fun h => HZl.out.off (.inl h)) (by omega) (fun h => HZl.out.off (.inr h)))
      have HZl := Lib.hid (show Held _ bm ul bl #[.int .i64 (mdP (clF F) p2 v), .slice BA2 (encD (mdPre v s)).length bc2, .slice RA2 x2.length rc2] 38 from ⟨hz, HZl.out.off⟩)
      clear hz ho hbd hge hne
      refine hK.out _ _ ?_ (fun hHeld => ?_)
      · (try dsimp only); exact HKS.out _ _ HXn.out HCn.out HDn.out
      clear hK K
      (try simp only [Act.put, sA, sB, sC])
      refine wpAnyH_done (by kernel_rfl) ?_ _
      go_wp2_with fail
      go_meet
      exact ⟨bk, bl, BA1, bc1, RA1, rc1, x1, BA2, bc2, RA2, rc2, x2, _, _, _, _, _, rfl, rfl, HBn.out, HTn.out, HZk.out, HZl.out, HV1.out, HR1.out, HV2.out, HR2.out, HNE.out, Hck1.out, Hck2.out, Hcl1.out, Hcl2.out, HKL.out, HGk.out, HGl.out, HS1.out, HS2.out, HKW.out⟩
  case rest =>
  obtain ⟨bk, bl, BA1, bc1, RA1, rc1, xs1, BA2, bc2, RA2, rc2, ys, T3, K0, K9, L0, L9, rfl, rfl, hbt, ht, hzk, hzl, hvk, hrk, hvl, hrl, n1, n2, n3, n4, n5, n6, n7, n8, n9, n10, n11⟩ := hcut
  have HX := Lib.hid (HX.out.turn ht)
  have HCc := Lib.hid ((show Held T bm wE (w.heap.size + 1) #[.int .i64 v, .int .i64 s, .int .i64 p, .slice A vs.length cc] 26 from ⟨HC0.out, HOF.out _ (by have := HSL.out; omega)⟩).turn ht)
  have HDc := Lib.hid ((show Held T bm wE (w.heap.size + 2) #[.int .i64 v, .int .i64 s, .int .i64 p2, .slice D us.length dd] 26 from ⟨HD0.out, HOF.out _ (by have := HSL.out; omega)⟩).turn ht)
  have HBTE := HBT
  have HBT := Lib.hid hbt
  have HTN := Lib.hid ht
  have HK := Lib.hid hzk
  have HLx := Lib.hid hzl
  have HV1 := Lib.hid hvk
  have HR1 := Lib.hid hrk
  have HV2 := Lib.hid hvl
  have HR2 := Lib.hid hrl
  have HNN := Lib.hid (show bk ≠ bl ∧ (bk < K0 ∨ K9 ≤ bk) ∧ (bk < L0 ∨ L9 ≤ bk) ∧ (bl < K0 ∨ K9 ≤ bl) ∧ (bl < L0 ∨ L9 ≤ bl) ∧ K9 ≤ L0 ∧ wE.heap.size ≤ bk ∧ wE.heap.size ≤ bl ∧ wE.heap.size ≤ K9 from ⟨n1, n2, n3, n4, n5, n6, n7, n8, n11⟩)
  have HMX := Lib.hid (show bk < wc.heap.size ∧ bl < wc.heap.size ∧ K9 ≤ wc.heap.size ∧ L9 ≤ wc.heap.size ∧ w.heap.size + 2 < wc.heap.size ∧ wB.heap.size < wc.heap.size ∧ g < wE.heap.size ∧ wE.heap.size ≤ wc.heap.size from ⟨hzk.lt, hzl.lt, n9, n10, HDc.out.lt, HX.out.lt, HBTE.out.au.1.lt, ht.off.size⟩)
  clear hbt ht hzk hzl hvk hrk hvl hrl n1 n2 n3 n4 n5 n6 n7 n8 n9 n10 n11 HKS HC0 HD0
  have d0 := rowCell HDc.out.at_ 0 (.int .i64 v) rfl
  have d1 := rowCell HDc.out.at_ 1 (.int .i64 s) rfl
  go_upto_region 7 with fail
  have HM := Lib.hid (Held.new (cs := #[.int .i64 2, .int .i64 v, .int .i64 s, .int .i64 0, .int .i64 0, .string ⟨#[]⟩, .slice none 0 0, .int .i64 0, .int .i64 0, .slice none 0 0, .slice none 0 0, .slice none 0 0]) (t := 46) HBT.out)
  have hal := alloc1B wc (.cells #[.int .i64 2, .int .i64 v, .int .i64 s, .int .i64 0, .int .i64 0, .string ⟨#[]⟩, .slice none 0 0, .int .i64 0, .int .i64 0, .slice none 0 0, .slice none 0 0, .slice none 0 0] 46)
  have HTN := Lib.hid (HTN.out.trans (Turn.below hal))
  have HBT := Lib.hid (HBT.out.below hal)
  have HX := Lib.hid (HX.out.below hal)
  have HCc := Lib.hid (HCc.out.below hal)
  have HDc := Lib.hid (HDc.out.below hal)
  have HK := Lib.hid (HK.out.below hal)
  have HLx := Lib.hid (HLx.out.below hal)
  have HV1 := Lib.hid (HV1.out.below hal)
  have HR1 := Lib.hid (HR1.out.below hal)
  have HV2 := Lib.hid (HV2.out.below hal)
  have HR2 := Lib.hid (HR2.out.below hal)
  generalize hwn : wc.alloc _ = wF at *
  clear hwn hal d0 d1
  generalize hxm : wc.heap.size = xm at *
  clear hxm
  go_upto_region 8 with (go_at_call 16; go_loud (refine (rhBatch_any none 0 [] _ (RowM.none _ _ _) ⟨Nat.zero_le _, fun e he => by cases he⟩).mono ?_; rintro e w4 ⟨rfl, hb⟩; have HM := Lib.hid (HM.out.below hb); have HX := Lib.hid (HX.out.below hb); have HCc := Lib.hid (HCc.out.below hb); have HDc := Lib.hid (HDc.out.below hb); have HK := Lib.hid (HK.out.below hb); have HLx := Lib.hid (HLx.out.below hb); have HV1 := Lib.hid (HV1.out.below hb); have HR1 := Lib.hid (HR1.out.below hb); have HV2 := Lib.hid (HV2.out.below hb); have HR2 := Lib.hid (HR2.out.below hb); have HTN := Lib.hid (HTN.out.trans (Turn.below hb)); have HBT := Lib.hid (HBT.out.below hb); have m5 := rowCell HM.out.at_ 5 (.string ⟨#[]⟩) rfl; have f5 : w4.frozen? ⟨xm, 5, none⟩ = false := frozen_box HM.out.at_ 5; clear hb))
  have ho4 : Only xm w4 (w4.setCell ⟨xm, 5, none⟩ (.string (strB (batB [])))) := (Only.refl _ _).set 5 _
  have HM5 := Lib.hid (show Held T3 bm (w4.setCell ⟨xm, 5, none⟩ (.string (strB (batB [])))) xm #[.int .i64 2, .int .i64 v, .int .i64 s, .int .i64 0, .int .i64 0, .string (strB (batB [])), .slice none 0 0, .int .i64 0, .int .i64 0, .slice none 0 0, .slice none 0 0, .slice none 0 0] 46 from ⟨set_at HM.out.at_ 5 _, HM.out.off⟩)
  have hmx := HMX.out
  have HX := Lib.hid (HX.out.only ho4 (by omega))
  have HCc := Lib.hid (HCc.out.only ho4 (by omega))
  have HDc := Lib.hid (HDc.out.only ho4 (by omega))
  have HK := Lib.hid (HK.out.only ho4 (by omega))
  have HLx := Lib.hid (HLx.out.only ho4 (by omega))
  have HV1 := Lib.hid (HV1.out.only ho4 (by omega))
  have HR1 := Lib.hid (HR1.out.only ho4 (by omega))
  have HV2 := Lib.hid (HV2.out.only ho4 (by omega))
  have HR2 := Lib.hid (HR2.out.only ho4 (by omega))
  have HTN := Lib.hid (HTN.out.only ho4 (by omega))
  have HBT := Lib.hid (HBT.out.only ho4 (fun h => HM.out.off (.inl h)) (by omega) (fun h => HM.out.off (.inr h)))
  have HM := HM5
  have HWL := Lib.hid HM5.out.lt
  generalize w4.setCell _ _ = w5 at *
  clear HM5 m5 f5 ho4 hmx
  have HL2 := Lib.hid (show (mdL (clF F) (clC C) v s p2 (mdL (clF F) (clC C) v s p [] vs) us).length ≤ 28 from by have h1 := mdL_len (clF F) (clC C) v s p [] vs; have h2 := mdL_len (clF F) (clC C) v s p2 (mdL (clF F) (clC C) v s p [] vs) us; have := HBI.out.2.2.2.2; have := HBI2.out.2.2.2.2; simp only [List.length_nil] at h1; omega)
  generalize mdL (clF F) (clC C) v s p2 (mdL (clF F) (clC C) v s p [] vs) us = L2 at *
  have HP64 := Lib.hid (prim64 (f := clF F) (c := clC C) (v := v) HBT.out.au.1.2 ⟨HBI.out.1, HBI.out.2.1⟩)
  have HV64 := Lib.hid (show ok64 v from by have := HBI.out.1; have := HBI.out.2.1; unfold ok64; omega)
  have HSMB := Lib.hid (FewE.sm (es := []) ⟨Nat.zero_le _, fun e he => by cases he⟩ v s)
  have HSG := Lib.hid (fun (W : World) (T9 : Nat → Prop) (h : Bth W w2.heap.size g bm g2 (clF F) (clC C) L2 T9) => sign_sm h (primE (clF F) v) HP64.out (mdB v s []) ⟨(none, 0), (none, 0), (none, 0), (none, 0)⟩ ⟨Bs.nil _, RowM.none _ _ _, RowM.none _ _ _, RowM.none _ _ _⟩ HSMB.out (by have := HL2.out; omega))
  have HPR := Lib.hid (fun (W : World) (T9 : Nat → Prop) (h : Bth W w2.heap.size g bm g2 (clF F) (clC C) L2 T9) => rA_primary h.ra v HV64.out)
  generalize hpr : primE (clF F) v = pr at *
  have HPRE := Lib.hid hpr
  clear hpr
  have HKS := Lib.hid (show ∀ (W : World) (T9 : Nat → Prop), Held T9 bm W wB.heap.size #[.pointer (some ⟨g, 0, none⟩), .pointer (some ⟨g2, 0, none⟩)] 31 → Held T9 bm W (w.heap.size + 2) #[.int .i64 v, .int .i64 s, .int .i64 p2, .slice D us.length dd] 26 → Held T9 bm W xm #[.int .i64 2, .int .i64 v, .int .i64 s, .int .i64 0, .int .i64 0, .string (strB (batB [])), .slice none 0 0, .int .i64 0, .int .i64 0, .slice none 0 0, .slice none 0 0, .slice none 0 0] 46 → (fun W => W.cell? ⟨wB.heap.size, 0, none⟩ = some (.pointer (some ⟨g, 0, none⟩)) ∧ W.cell? ⟨wB.heap.size, 1, none⟩ = some (.pointer (some ⟨g2, 0, none⟩)) ∧ W.cell? ⟨w.heap.size + 2, 0, none⟩ = some (.int .i64 v) ∧ W.cell? ⟨xm, 0, none⟩ = some (.int .i64 2) ∧ W.cell? ⟨xm, 1, none⟩ = some (.int .i64 v) ∧ W.cell? ⟨xm, 2, none⟩ = some (.int .i64 s) ∧ W.cell? ⟨xm, 3, none⟩ = some (.int .i64 0) ∧ W.cell? ⟨xm, 4, none⟩ = some (.int .i64 0) ∧ W.cell? ⟨xm, 5, none⟩ = some (.string (strB (batB []))) ∧ W.cell? ⟨xm, 6, none⟩ = some (.slice none 0 0) ∧ W.cell? ⟨xm, 7, none⟩ = some (.int .i64 0) ∧ W.cell? ⟨xm, 8, none⟩ = some (.int .i64 0) ∧ W.cell? ⟨xm, 9, none⟩ = some (.slice none 0 0) ∧ W.cell? ⟨xm, 10, none⟩ = some (.slice none 0 0) ∧ W.cell? ⟨xm, 11, none⟩ = some (.slice none 0 0)) W from fun W T9 h h2 h3 => ⟨rowCell h.at_ 0 _ rfl, rowCell h.at_ 1 _ rfl, rowCell h2.at_ 0 _ rfl, rowCell h3.at_ 0 _ rfl, rowCell h3.at_ 1 _ rfl, rowCell h3.at_ 2 _ rfl, rowCell h3.at_ 3 _ rfl, rowCell h3.at_ 4 _ rfl, rowCell h3.at_ 5 _ rfl, rowCell h3.at_ 6 _ rfl, rowCell h3.at_ 7 _ rfl, rowCell h3.at_ 8 _ rfl, rowCell h3.at_ 9 _ rfl, rowCell h3.at_ 10 _ rfl, rowCell h3.at_ 11 _ rfl⟩)
  go_upto_region 8 with fail
  go_cut [] from 49 to 58 (fun wx => ∃ v5 T5 w8, HeldW T5 bm w5.heap.size w8.heap.size wx v5 (encD (mdB v s [])) ∧ Bth wx w2.heap.size g bm g2 (clF F) (clC C) (signT (clF F) (clC C) pr (encD (mdB v s [])) L2) T5 ∧ Turn T3 bm w5 w8 T5 ∧ Only bl w8 wx ∧ wx.heap[bl]? = some (.cells #[.int .i64 pr, v5, .slice RA2 ys.length rc2] 38 (0, 0)))
  case first =>
    have hdr : Below w5.heap.size w5 w5.drew := (Below.refl _ _).drew
    have HBn := Lib.hid (HBT.out.below hdr)
    have HTn := Lib.hid (show Turn T3 bm w5 w5.drew T3 from Turn.below hdr)
    have HXn := Lib.hid (HX.out.below hdr)
    have HDn := Lib.hid (HDc.out.below hdr)
    have HMn := Lib.hid (HM.out.below hdr)
    have HLn := Lib.hid (HLx.out.below hdr)
    have HNl := Lib.hid (show wB.heap.size ≠ bl ∧ w.heap.size + 2 ≠ bl ∧ xm ≠ bl ∧ g ≠ bl from by have := HMX.out; have := HNN.out; have := HBD.out; omega)
    clear hdr
    refine wp_region_held_drew (S := (fun W => W.cell? ⟨wB.heap.size, 0, none⟩ = some (.pointer (some ⟨g, 0, none⟩)) ∧ W.cell? ⟨wB.heap.size, 1, none⟩ = some (.pointer (some ⟨g2, 0, none⟩)) ∧ W.cell? ⟨w.heap.size + 2, 0, none⟩ = some (.int .i64 v) ∧ W.cell? ⟨xm, 0, none⟩ = some (.int .i64 2) ∧ W.cell? ⟨xm, 1, none⟩ = some (.int .i64 v) ∧ W.cell? ⟨xm, 2, none⟩ = some (.int .i64 s) ∧ W.cell? ⟨xm, 3, none⟩ = some (.int .i64 0) ∧ W.cell? ⟨xm, 4, none⟩ = some (.int .i64 0) ∧ W.cell? ⟨xm, 5, none⟩ = some (.string (strB (batB []))) ∧ W.cell? ⟨xm, 6, none⟩ = some (.slice none 0 0) ∧ W.cell? ⟨xm, 7, none⟩ = some (.int .i64 0) ∧ W.cell? ⟨xm, 8, none⟩ = some (.int .i64 0) ∧ W.cell? ⟨xm, 9, none⟩ = some (.slice none 0 0) ∧ W.cell? ⟨xm, 10, none⟩ = some (.slice none 0 0) ∧ W.cell? ⟨xm, 11, none⟩ = some (.slice none 0 0))) (by kernel_rfl) (HKS.out _ _ HXn.out HDn.out HMn.out) (fun hHeld => ?_)
    refine tk 0 ?_
    (try simp only [Act.put, sA, sB, sC])
    refine tk 1 ?_
    (try simp only [Act.put, sA, sB, sC])
    refine tk 2 ?_
    (try simp only [Act.put, sA, sB, sC])
    refine tk 3 ?_
    (try simp only [Act.put, sA, sB, sC])
    refine tk 4 ?_
    (try simp only [Act.put, sA, sB, sC])
    refine tk 6 ?_
    (try simp only [Act.put, sA, sB, sC])
    refine wpAnyH_ready (rs := [5]) (by kernel_rfl) (by simp) ?_
    refine AllReadyH.cons (o := ?o77) ?g77 (fun K hK => ?j77) AllReadyH.nil
    case g77 => (simp only [gA, gB, gC]; rfl)
    go_simp
    (go_at_call 18; go_loud (refine (HPR.out _ _ HBn.out).mono ?_))
    rintro e wj ⟨rfl, hww⟩
    rw [hww]
    clear hww wj
    refine hK.out _ _ ?_ (fun hHeld => ?_)
    · (try dsimp only); exact HKS.out _ _ HXn.out HDn.out HMn.out
    clear hK K
    (try simp only [Act.put, sA, sB, sC])
    refine wpAnyH_ready (rs := [7]) (by kernel_rfl) (by simp) ?_
    refine AllReadyH.cons (o := ?o78) ?g78 (fun K hK => ?j78) AllReadyH.nil
    case g78 => (simp only [gA, gB, gC]; rfl)
    go_simp
    (go_at_call 17; go_loud (refine (HSG.out _ _ HBn.out).mono ?_))
    rintro e w8 ⟨v5, T5, rfl, hf, hb, ht⟩
    obtain ⟨A5, c5, rfl, -⟩ := hf.bs.open
    have HV := Lib.hid (show HeldW T5 bm w5.heap.size w8.heap.size w8 _ _ from ⟨hf.held, fun k hk => ⟨(hf.new k hk).1, (hf.new k hk).2.1⟩⟩)
    have HXn := Lib.hid (HXn.out.turn ht)
    have HDn := Lib.hid (HDn.out.turn ht)
    have HMn := Lib.hid (HMn.out.turn ht)
    have HLn := Lib.hid (HLn.out.turn ht)
    have HTn := Lib.hid (HTn.out.trans ht)
    have HBn := Lib.hid hb
    clear hf hb ht
    have HLa := Lib.hid (show (w8.setCell ⟨bl, 0, none⟩ (.int .i64 pr)).heap[bl]? = some (.cells #[.int .i64 pr, .slice BA2 (encD (mdPre v s)).length bc2, .slice RA2 ys.length rc2] 38 (0, 0)) from set_at HLn.out.at_ 0 _)
    have l0 := rowCell HLn.out.at_ 0 (.int .i64 (mdP (clF F) p2 v)) rfl
    have l1 := rowCell HLa.out 1 (.slice BA2 (encD (mdPre v s)).length bc2) rfl
    have l2 := rowCell HLn.out.at_ 1 (.slice BA2 (encD (mdPre v s)).length bc2) rfl
    have f0 : w8.frozen? ⟨bl, 0, none⟩ = false := frozen_box HLn.out.at_ 0
    have f1 : (w8.setCell ⟨bl, 0, none⟩ (.int .i64 pr)).frozen? ⟨bl, 1, none⟩ = false := frozen_box HLa.out 1
    have f2 : w8.frozen? ⟨bl, 1, none⟩ = false := frozen_box HLn.out.at_ 1
    have HON := Lib.hid (show Only bl w8 ((w8.setCell ⟨bl, 0, none⟩ (.int .i64 pr)).setCell ⟨bl, 1, none⟩ (.slice A5 (encD (mdB v s [])).length c5)) from ((Only.refl _ _).set 0 _).set 1 _)
    have HLb := Lib.hid (show ((w8.setCell ⟨bl, 0, none⟩ (.int .i64 pr)).setCell ⟨bl, 1, none⟩ (.slice A5 (encD (mdB v s [])).length c5)).heap[bl]? = some (.cells #[.int .i64 pr, .slice A5 (encD (mdB v s [])).length c5, .slice RA2 ys.length rc2] 38 (0, 0)) from set_at HLa.out 1 _)
    refine hK.out _ _ ?_ (fun hHeld => ?_)
    · (try dsimp only); exact HKS.out _ _ HXn.out HDn.out HMn.out
    clear hK K
    (try simp only [Act.put, sA, sB, sC])
    refine tk 8 ?_
    (try simp only [Act.put, sA, sB, sC])
    refine wpAnyH_ready (rs := [9]) (by kernel_rfl) (by simp) ?_
    refine AllReadyH.cons (o := ?o80) ?g80 (fun K hK => ?j80) AllReadyH.nil
    case g80 => (simp only [gA, gB, gC]; rfl)
    go_simp
    refine hK.out _ _ ?_ (fun hHeld => ?_)
    · (try dsimp only); exact HKS.out _ _ (HXn.out.only HON.out HNl.out.1) (HDn.out.only HON.out HNl.out.2.1) (HMn.out.only HON.out HNl.out.2.2.1)
    clear hK K
    (try simp only [Act.put, sA, sB, sC])
    refine wpAnyH_done (by kernel_rfl) ?_ _
    go_wp2_with fail
    go_meet
    have hmx := HMX.out
    have hwl := HWL.out
    exact ⟨_, T5, w8, HV.out.only HON.out (.inl (by omega)), HBn.out.only HON.out (fun h => HLn.out.off (.inl h)) HNl.out.2.2.2.symm (fun h => HLn.out.off (.inr h)), HTn.out, HON.out, HLb.out⟩
  case rest =>
  obtain ⟨v5, T5, w8, hv5, hbt5, ht5, ho5, hbl5⟩ := hcut
  obtain ⟨A5, c5, rfl, -⟩ := hv5.h.bs.open
  have hmx := HMX.out
  have hnn := HNN.out
  have hbd := HBD.out
  have hwl := HWL.out
  have hz1 := ht5.off.size
  have hz2 := ho5.size
  have hyl : ys.length = us.length := by rw [HR2.out.xl, List.length_map]
  have hxl : xs1.length = vs.length := by rw [HR1.out.xl, List.length_map]
  have HRW := Lib.hid (show RowF bm L0 (.slice RA2 us.length rc2) (us.map (·.s)) us.length T5 wc from ⟨ys, us.map (mdV v s), by have h := ((HR2.out.turn ht5).only ho5 (by omega)).to (C := wc.heap.size) (by omega); rwa [hyl] at h, by rw [List.map_map]; rfl, md_okes HOK2.out, hyl⟩)
  have HF := Lib.hid (show OneF w w2.heap.size g bm g2 wB.heap.size xm bk bl K0 K9 w5.heap.size w8.heap.size (clF F) (clC C) #[.pointer (some ⟨g, 0, none⟩), .pointer (some ⟨g2, 0, none⟩)] #[.int .i64 v, .int .i64 s, .int .i64 p, .slice A vs.length cc] #[.int .i64 v, .int .i64 s, .int .i64 p2, .slice D us.length dd] #[.int .i64 (mdP (clF F) p v), .slice BA1 (encD (mdPre v s)).length bc1, .slice RA1 vs.length rc1] #[.int .i64 pr, .slice A5 (encD (mdB v s [])).length c5, .slice RA2 us.length rc2] #[.int .i64 2, .int .i64 v, .int .i64 s, .int .i64 0, .int .i64 0, .string (strB (batB [])), .slice none 0 0, .int .i64 0, .int .i64 0, .slice none 0 0, .slice none 0 0, .slice none 0 0] (.slice BA1 (encD (mdPre v s)).length bc1) (encD (mdPre v s)) (.slice RA1 vs.length rc1) xs1 (vs.map (mdV v s)) (.slice A5 (encD (mdB v s [])).length c5) (encD (mdB v s [])) 29 T5 wc from
    { bt := ⟨_, hbt5, Nat.le_trans (signT_length _ _ _ _ _) (by have := HL2.out; omega)⟩
      x := (HX.out.turn ht5).only ho5 (by omega)
      c := (HCc.out.turn ht5).only ho5 (by omega)
      d := (HDc.out.turn ht5).only ho5 (by omega)
      k := by have h := (HK.out.turn ht5).only ho5 (by omega); rwa [hxl] at h
      l := by rw [hyl] at hbl5; exact ⟨hbl5, (HLx.out.turn ht5).off⟩
      m := (HM.out.turn ht5).only ho5 (by omega)
      hvk := (HV1.out.turn ht5).only ho5 (by omega)
      hrk := by have h := (HR1.out.turn ht5).only ho5 (by omega); rwa [hxl] at h
      hvl := hv5
      low := onlyBelow (HBe.out.trans (((HTN.out.trans ht5).lowB HBTE.out).mono HNw.out)) ho5 (by omega) (Nat.le_refl _)
      top := HNw.out })
  have HNZ := Lib.hid (show K9 ≤ L0 ∧ L9 ≤ xm ∧ xm < w5.heap.size ∧ w5.heap.size ≤ w8.heap.size ∧ w.heap.size + 2 < wB.heap.size ∧ wB.heap.size < wE.heap.size ∧ g < wE.heap.size ∧ wE.heap.size ≤ K9 ∧ (bk < L0 ∨ L9 ≤ bk) ∧ (bl < L0 ∨ L9 ≤ bl) from by omega)
  have HRB := Lib.hid (show ∀ b, (Value.slice RA2 us.length rc2).ownBlock = some b → L0 ≤ b ∧ b < L9 from by
    have h2 : ∀ b, (Value.slice RA2 ys.length rc2).ownBlock = some b → L0 ≤ b ∧ b < L9 := fun b hb => ⟨(HR2.out.own.lt b hb).1, (HR2.out.off b hb).2⟩
    rwa [hyl] at h2)
  have HSMV := Lib.hid (show SmD (⟨3, v, s, 0, 0, batB [], [], (0, 0), [], [], []⟩ : Msg) from ⟨(FewE.sm (es := []) ⟨Nat.zero_le _, fun e he => by cases he⟩ v s).d, by show (0 : Nat) ≤ _; omega, ⟨by show (0 : Nat) ≤ _; omega, fun e he => by cases he⟩, ⟨by show (0 : Nat) ≤ _; omega, fun e he => by cases he⟩, rfl⟩)
  have HLMV := Lib.hid (show (encD (⟨3, v, s, 0, 0, batB [], [], (0, 0), [], [], []⟩ : Msg)).length ≤ 1000000 from by
    refine Nat.le_trans encD_le ?_
    have h := putM_most (m := ⟨3, v, s, 0, 0, batB [], [], (0, 0), [], [], []⟩) 0 0 0 0 ⟨Nat.le_refl _, fun e he => by cases he⟩ ⟨Nat.le_refl _, fun e he => by cases he⟩ rfl
    have h1 : (batB []).length ≤ 181829 := FewE.bat (es := []) ⟨Nat.zero_le _, fun e he => by cases he⟩
    have h2 : (⟨3, v, s, 0, 0, batB [], [], (0, 0), [], [], []⟩ : Msg).d.length = (batB []).length := rfl
    have h3 : (⟨3, v, s, 0, 0, batB [], [], (0, 0), [], [], []⟩ : Msg).x.length = 0 := rfl
    omega)
  have HLMB := Lib.hid (FewE.len (es := []) ⟨Nat.zero_le _, fun e he => by cases he⟩ v s)
  clear hv5 hbt5 ht5 ho5 hbl5 hmx hnn hbd hwl hz1 hz2 hyl hxl
  clear HX HCc HDc HK HLx HV1 HR1 HV2 HR2 HM HTN HBT HBe HKS HSG HPR
  go_wp2
  go_loopw [11] (fun i wr => ∃ (k : Nat) (T9 : Nat → Prop), k ≤ us.length ∧ i = .int .i64 k ∧ OneF w w2.heap.size g bm g2 wB.heap.size xm bk bl K0 K9 w5.heap.size w8.heap.size (clF F) (clC C) #[.pointer (some ⟨g, 0, none⟩), .pointer (some ⟨g2, 0, none⟩)] #[.int .i64 v, .int .i64 s, .int .i64 p, .slice A vs.length cc] #[.int .i64 v, .int .i64 s, .int .i64 p2, .slice D us.length dd] #[.int .i64 (mdP (clF F) p v), .slice BA1 (encD (mdPre v s)).length bc1, .slice RA1 vs.length rc1] #[.int .i64 pr, .slice A5 (encD (mdB v s [])).length c5, .slice RA2 us.length rc2] #[.int .i64 2, .int .i64 v, .int .i64 s, .int .i64 0, .int .i64 0, .string (strB (batB [])), .slice none 0 0, .int .i64 0, .int .i64 0, .slice none 0 0, .slice none 0 0, .slice none 0 0] (.slice BA1 (encD (mdPre v s)).length bc1) (encD (mdPre v s)) (.slice RA1 vs.length rc1) xs1 (vs.map (mdV v s)) (.slice A5 (encD (mdB v s [])).length c5) (encD (mdB v s [])) (29 + k) T9 wr ∧ RowF bm L0 (.slice RA2 us.length rc2) (us.map (·.s)) us.length T9 wr) (fun i _ => us.length - (intOf i).toNat)
  case atStart => exact ⟨0, T5, Nat.zero_le _, rfl, HF.out, HRW.out⟩
  case round =>
    obtain ⟨k, T9, hk, rfl, hf, hr⟩ := hrel
    have HF9 := Lib.hid hf
    have HR9 := Lib.hid hr
    have HUL := Lib.hid HBI2.out.2.2.2.2
    have l2 := rowCell HF9.out.l.at_ 2 (.slice RA2 us.length rc2) rfl
    clear hf hr
    by_cases hlt : k < us.length
    · have hltI : (k : Int) < (us.length : Int) := by omega
      have HLT := Lib.hid hlt
      have hkb : k + 1 ≤ 1000000 := by have := HUL.out; omega
      obtain ⟨gb, hgb, -, -, -, -, hgl, -⟩ := HR9.out.at_ k hlt (by rw [List.length_map]; exact hlt)
      subst hgb
      have HGL := Lib.hid hgl
      clear hgl
      have HGB := Lib.hid (HRB.out gb rfl)
      have HS64 := Lib.hid (show ok64 ((us.map (·.s))[k]'(by rw [List.length_map]; exact hlt)) from by rw [List.getElem_map]; exact HOK2.out _ (List.getElem_mem hlt))
      obtain ⟨sk, hsk⟩ : ∃ sk, (us.map (·.s))[k]'(by rw [List.length_map]; exact hlt) = sk := ⟨_, rfl⟩
      have HSK := Lib.hid hsk
      rw [hsk] at HS64
      have HKS := Lib.hid (show ∀ (W : World) (n : Nat) (T9 : Nat → Prop), OneF w w2.heap.size g bm g2 wB.heap.size xm bk bl K0 K9 w5.heap.size w8.heap.size (clF F) (clC C) #[.pointer (some ⟨g, 0, none⟩), .pointer (some ⟨g2, 0, none⟩)] #[.int .i64 v, .int .i64 s, .int .i64 p, .slice A vs.length cc] #[.int .i64 v, .int .i64 s, .int .i64 p2, .slice D us.length dd] #[.int .i64 (mdP (clF F) p v), .slice BA1 (encD (mdPre v s)).length bc1, .slice RA1 vs.length rc1] #[.int .i64 pr, .slice A5 (encD (mdB v s [])).length c5, .slice (some ⟨gb, 0, none⟩) us.length rc2] #[.int .i64 2, .int .i64 v, .int .i64 s, .int .i64 0, .int .i64 0, .string (strB (batB [])), .slice none 0 0, .int .i64 0, .int .i64 0, .slice none 0 0, .slice none 0 0, .slice none 0 0] (.slice BA1 (encD (mdPre v s)).length bc1) (encD (mdPre v s)) (.slice RA1 vs.length rc1) xs1 (vs.map (mdV v s)) (.slice A5 (encD (mdB v s [])).length c5) (encD (mdB v s [])) n T9 W → RowF bm L0 (.slice (some ⟨gb, 0, none⟩) us.length rc2) (us.map (·.s)) us.length T9 W → (fun W => W.cell? ⟨wB.heap.size, 0, none⟩ = some (.pointer (some ⟨g, 0, none⟩)) ∧ W.cell? ⟨wB.heap.size, 1, none⟩ = some (.pointer (some ⟨g2, 0, none⟩)) ∧ W.cell? ⟨w.heap.size + 2, 0, none⟩ = some (.int .i64 v) ∧ W.cell? ⟨w.heap.size + 2, 1, none⟩ = some (.int .i64 s) ∧ W.cell? ⟨xm, 5, none⟩ = some (.string (strB (batB []))) ∧ W.cell? ⟨bl, 2, none⟩ = some (.slice (some ⟨gb, 0, none⟩) us.length rc2) ∧ W.cell? ⟨gb, k * 2, none⟩ = some (.int .i64 sk)) W from fun W n T9 h h2 => by
        obtain ⟨gb', e, c1, -⟩ := h2.at_ k HLT.out (by rw [List.length_map]; exact HLT.out)
        injection e with e
        injection e with e
        subst e
        rw [HSK.out] at c1
        exact ⟨rowCell h.x.at_ 0 _ rfl, rowCell h.x.at_ 1 _ rfl, rowCell h.d.at_ 0 _ rfl, rowCell h.d.at_ 1 _ rfl, rowCell h.m.at_ 5 _ rfl, rowCell h.l.at_ 2 _ rfl, c1⟩)
      clear hsk
      have hdr : Below wr.heap.size wr wr.drew := (Below.refl _ _).drew
      have HFn := Lib.hid (HF9.out.below hdr)
      have HRn := Lib.hid (HR9.out.turn (Turn.below hdr))
      clear hdr
      obtain ⟨L9', hbt9, hl9⟩ := HFn.out.bt
      have HBn := Lib.hid hbt9
      have HLn := Lib.hid hl9
      clear hbt9 hl9
      go_upto_region 12 with fail
      clear l2
      refine wp_region_held_drew (S := (fun W => W.cell? ⟨wB.heap.size, 0, none⟩ = some (.pointer (some ⟨g, 0, none⟩)) ∧ W.cell? ⟨wB.heap.size, 1, none⟩ = some (.pointer (some ⟨g2, 0, none⟩)) ∧ W.cell? ⟨w.heap.size + 2, 0, none⟩ = some (.int .i64 v) ∧ W.cell? ⟨w.heap.size + 2, 1, none⟩ = some (.int .i64 s) ∧ W.cell? ⟨xm, 5, none⟩ = some (.string (strB (batB []))) ∧ W.cell? ⟨bl, 2, none⟩ = some (.slice (some ⟨gb, 0, none⟩) us.length rc2) ∧ W.cell? ⟨gb, k * 2, none⟩ = some (.int .i64 sk))) (by kernel_rfl) (HKS.out _ _ _ HFn.out HRn.out) (fun hHeld => ?_)
      refine tk 0 ?_
      (try simp only [Act.put, sA, sB, sC])
      refine tk 1 ?_
      (try simp only [Act.put, sA, sB, sC])
      refine tk 2 ?_
      (try simp only [Act.put, sA, sB, sC])
      refine tk 3 ?_
      (try simp only [Act.put, sA, sB, sC])
      refine tk 4 ?_
      (try simp only [Act.put, sA, sB, sC])
      refine tk 5 ?_
      (try simp only [Act.put, sA, sB, sC])
      refine tk 6 ?_
      (try simp only [Act.put, sA, sB, sC])
      refine tk 7 ?_
      (try simp only [Act.put, sA, sB, sC])
      refine tk 8 ?_
      (try simp only [Act.put, sA, sB, sC])
      refine tk 9 ?_
      (try simp only [Act.put, sA, sB, sC])
      refine tk 10 ?_
      (try simp only [Act.put, sA, sB, sC])
      refine tk 11 ?_
      (try simp only [Act.put, sA, sB, sC])
      refine tk 12 ?_
      (try simp only [Act.put, sA, sB, sC])
      refine tk 13 ?_
      (try simp only [Act.put, sA, sB, sC])
      refine tk 14 ?_
      (try simp only [Act.put, sA, sB, sC])
      refine tk 15 ?_
      (try simp only [Act.put, sA, sB, sC])
      refine tk 16 ?_
      (try simp only [Act.put, sA, sB, sC])
      refine wpAnyH_ready (rs := [17]) (by kernel_rfl) (by simp) ?_
      refine AllReadyH.cons (o := ?o98) ?g98 (fun K hK => ?j98) AllReadyH.nil
      case g98 => (simp only [gA, gB, gC]; rfl)
      go_simp
      (go_at_call 17; go_loud (refine (sign_sm HBn.out sk HS64.out ⟨3, v, s, 0, 0, batB [], [], (0, 0), [], [], []⟩ ⟨(none, 0), (none, 0), (none, 0), (none, 0)⟩ ⟨Bs.nil _, RowM.none _ _ _, RowM.none _ _ _, RowM.none _ _ _⟩ HSMV.out (by have := HLn.out; have := HLT.out; have := HUL.out; omega)).mono ?_))
      rintro e wS ⟨v6, T6, rfl, hf6, hb6, ht6⟩
      obtain ⟨A6, c6, rfl, -⟩ := hf6.bs.open
      have HV6 := Lib.hid (show HeldW T6 bm wr.drew.heap.size wS.heap.size wS _ _ from ⟨hf6.held, fun k hk => ⟨(hf6.new k hk).1, (hf6.new k hk).2.1⟩⟩)
      have HF6 := Lib.hid (HFn.out.turn (n' := 29 + (k + 1)) ht6 hb6 (Nat.le_trans (signT_length _ _ _ _ _) (by have := HLn.out; omega)))
      have HR6 := Lib.hid (HRn.out.turn ht6)
      have HSZ := Lib.hid (show wr.heap.size ≤ wS.heap.size from ht6.off.size)
      obtain ⟨gb', e, q0, ⟨vj, q1⟩, q2, q3, q4, f0, f1⟩ := HR6.out.at_ k HLT.out (by rw [List.length_map]; exact HLT.out)
      injection e with e
      injection e with e
      subst e
      rw [HSK.out] at q0
      have HQO := Lib.hid q3
      have q5 : (wS.setCell ⟨gb, k * 2, none⟩ (.int .i64 sk)).cell? ⟨gb, k * 2 + 1, none⟩ = some vj := (World.cell?_setCell_other _ _ _ _ (by intro e; injection e with e1 e2; omega)).trans q1
      have f2 := f1 (.int .i64 sk)
      have hput := HR6.out.put k HLT.out (by rw [List.length_map]; exact HLT.out) HV6.out (by have h1 := HGB.out.1; have h2 := HGL.out; show L0 ≤ wr.heap.size; omega) (by rw [HSK.out]; exact HS64.out) HLMV.out
      rw [HSK.out] at hput
      have HR7 := Lib.hid hput.1
      have HF7 := Lib.hid (HF6.out.only hput.2 HQO.out (by have h3 := HNZ.out; have h4 := HGB.out; omega))
      clear hf6 hb6 ht6 f1 q2 q3 q4 hput
      refine hK.out _ _ ?_ (fun hHeld => ?_)
      · (try dsimp only); exact HKS.out _ _ _ HF6.out HR6.out
      clear hK K
      (try simp only [Act.put, sA, sB, sC])
      refine tk 18 ?_
      (try simp only [Act.put, sA, sB, sC])
      refine wpAnyH_ready (rs := [19]) (by kernel_rfl) (by simp) ?_
      refine AllReadyH.cons (o := ?o100) ?g100 (fun K hK => ?j100) AllReadyH.nil
      case g100 => (simp only [gA, gB, gC]; rfl)
      go_simp
      refine hK.out _ _ ?_ (fun hHeld => ?_)
      · (try dsimp only); exact HKS.out _ _ _ HF7.out HR7.out
      clear hK K
      (try simp only [Act.put, sA, sB, sC])
      refine wpAnyH_done (by kernel_rfl) ?_ _
      go_wp2
      go_roundw
      case rel => exact ⟨k + 1, T6, HLT.out, by go_num, HF7.out, HR7.out⟩
      case measure => simp [intOf]; have := HLT.out; omega
    · obtain rfl : k = us.length := by omega
      have hltI : ¬ (us.length : Int) < (us.length : Int) := by omega
      obtain ⟨L9, hbt9, hl9⟩ := HF9.out.bt
      obtain ⟨es2, hek2, hes2, hok2, hel2⟩ := HR9.out.k
      obtain ⟨A1', c1', e1, hek1⟩ := HF9.out.hrk.k
      rw [List.length_map] at e1
      injection e1 with e1 e2 e3
      subst e1 e3
      have HAU := Lib.hid hbt9.au
      have HE1 := Lib.hid hek1
      have HE2 := Lib.hid hek2
      have HV1 := Lib.hid HF9.out.hvk.h.bs
      have HV5 := Lib.hid HF9.out.hvl.h.bs
      have HBM := Lib.hid HF9.out.low
      have HEL := Lib.hid hel2
      have h3 := fun W (hb : Below wr.heap.size wr W) => rA_primary (hbt9.ra.below hb) v HV64.out
      simp only [HPRE.out] at h3
      have HPR := Lib.hid h3
      have hmp : ok64 (mdP (clF F) p v) := mdP_ok HP.out ⟨HBI.out.1, HBI.out.2.1⟩ hbt9.au.1.2
      have h1 := fun W (hb : Below wr.heap.size wr W) => aPrep (K := ⟨clF F, clC C, L9⟩) (HAU.out.below hb (Nat.le_refl _)) ((mdP (clF F) p v, encD (mdPre v s)), vs.map (mdV v s)) (.slice BA1 (encD (mdPre v s)).length bc1) RA1 rc1 (HV1.out.below hb (Nat.le_refl _)) (HE1.out.below hb) hmp (Nat.le_trans (mdPre_len v s) (by decide)) (md_okes HOK.out)
      have h2 := fun W (hb : Below wr.heap.size wr W) => aPrep (K := ⟨clF F, clC C, L9⟩) (HAU.out.below hb (Nat.le_refl _)) ((pr, encD (mdB v s [])), es2) (.slice A5 (encD (mdB v s [])).length c5) RA2 rc2 (HV5.out.below hb (Nat.le_refl _)) (HE2.out.below hb) HP64.out HLMB.out hok2
      have hag1 : agC ((mdP (clF F) p v, encD (mdPre v s)), vs.map (mdV v s)) (.slice BA1 (encD (mdPre v s)).length bc1) RA1 rc1 = .agg #[.int .i64 (mdP (clF F) p v), .slice BA1 (encD (mdPre v s)).length bc1, .slice RA1 vs.length rc1] := by show Value.agg #[_, _, .slice RA1 (vs.map (mdV v s)).length rc1] = _; rw [List.length_map]
      have hag2 : agC ((pr, encD (mdB v s [])), es2) (.slice A5 (encD (mdB v s [])).length c5) RA2 rc2 = .agg #[.int .i64 pr, .slice A5 (encD (mdB v s [])).length c5, .slice RA2 us.length rc2] := by show Value.agg #[_, _, .slice RA2 es2.length rc2] = _; rw [hel2]
      simp only [hag1] at h1
      simp only [hag2] at h2
      have HQ1 := Lib.hid h1
      have HQ2 := Lib.hid h2
      have HONE := Lib.hid (one_fin (c := clC C) (s := s) (p := p) (vs := vs) (L := L9) (es2 := es2) (b5 := encD (mdB v s [])) hbt9.au.1.2.1 ⟨HBI.out.1, HBI.out.2.1⟩ ⟨HBI.out.2.2.1, HBI.out.2.2.2.1⟩ HPRE.out)
      have HL1 := Lib.hid (show (vs.map (mdV v s)).length = vs.length from List.length_map ..)
      have HN1 := Lib.hid HBI.out.2.2.2.2
      have HN2 := Lib.hid HBI2.out.2.2.2.2
      have HFF := Lib.hid (fun W (hb : Below wr.heap.size wr W) => F_any (HAU.out.below hb (Nat.le_refl _)).1)
      have HCN := Lib.hid (fun B x W (hb : Below wr.heap.size wr W) (hx : Ns W x B) => auCount_any g bm (clF F) (clC C) x B W (HAU.out.below hb (Nat.le_refl _)).1 hx)
      have HF8 := HF9
      clear h1 h2 h3 hag1 hag2 hmp hbt9 hl9 hek1 hek2 hes2 hok2 hel2 e2 HR9 HAU HV1 HV5 l2
      generalize prepA ⟨clF F, clC C, L9⟩ ((mdP (clF F) p v, encD (mdPre v s)), vs.map (mdV v s)) = z1 at *
      generalize prepA ⟨clF F, clC C, L9⟩ ((pr, encD (mdB v s [])), es2) = z2 at *
      generalize vs.map (mdV v s) = e1 at *
      obtain ⟨m1, y1⟩ := z1
      obtain ⟨m2, y2⟩ := z2
      simp only at HQ1 HQ2 HONE
      generalize mdP (clF F) p v = pk at *
      generalize (encD (mdPre v s)).length = ln1 at *
      generalize (encD (mdB v s [])).length = ln2 at *
      have HKK := Lib.hid (show ∀ W, Below wr.heap.size wr W → W.cell? ⟨wB.heap.size, 0, none⟩ = some (.pointer (some ⟨g, 0, none⟩)) ∧ W.cell? ⟨wB.heap.size, 1, none⟩ = some (.pointer (some ⟨g2, 0, none⟩)) ∧ W.cell? ⟨bk, 0, none⟩ = some (.int .i64 pk) ∧ W.cell? ⟨bk, 1, none⟩ = some (.slice BA1 ln1 bc1) ∧ W.cell? ⟨bk, 2, none⟩ = some (.slice RA1 vs.length rc1) ∧ W.cell? ⟨bl, 0, none⟩ = some (.int .i64 pr) ∧ W.cell? ⟨bl, 1, none⟩ = some (.slice A5 ln2 c5) ∧ W.cell? ⟨bl, 2, none⟩ = some (.slice RA2 us.length rc2) ∧ W.cell? ⟨w.heap.size + 1, 0, none⟩ = some (.int .i64 v) from fun W hb => ⟨rowCell (heapB HF8.out.x.at_ hb) 0 _ rfl, rowCell (heapB HF8.out.x.at_ hb) 1 _ rfl, rowCell (heapB HF8.out.k.at_ hb) 0 _ rfl, rowCell (heapB HF8.out.k.at_ hb) 1 _ rfl, rowCell (heapB HF8.out.k.at_ hb) 2 _ rfl, rowCell (heapB HF8.out.l.at_ hb) 0 _ rfl, rowCell (heapB HF8.out.l.at_ hb) 1 _ rfl, rowCell (heapB HF8.out.l.at_ hb) 2 _ rfl, rowCell (heapB HF8.out.c.at_ hb) 0 _ rfl⟩)
      have HBW := Lib.hid (Below.refl wr.heap.size wr)
      clear HF8 HF9
      obtain ⟨k0, k1, k2, k3, k4, k5, k6, k7, k8⟩ := HKK.out _ HBW.out
      go_upto_region 14 with (go_at_call 19; go_loud (refine (HQ1.out _ HBW.out).mono ?_; rintro e wp ⟨P5, rfl, -, hb⟩; have HBW := Lib.hid (bel2M HBW.out hb); clear hb))
      have HBW := Lib.hid (bel2M HBW.out (alloc1B wp (.cells (msC m1 P5) 46)))
      have HX5 := Lib.hid (heap_alloc_new wp (.cells (msC m1 P5) 46))
      generalize hwn : wp.alloc _ = u5 at *
      clear hwn k0 k1 k2 k3 k4 k5 k6 k7 k8
      obtain ⟨k0, k1, k2, k3, k4, k5, k6, k7, k8⟩ := HKK.out _ HBW.out
      go_upto_region 15 with (go_at_call 19; go_loud (refine (HQ2.out _ HBW.out).mono ?_; rintro e wq ⟨P6, rfl, -, hb⟩; have HBW := Lib.hid (bel2M HBW.out hb); have HX5 := Lib.hid (heapB HX5.out hb); clear hb))
      have HBW := Lib.hid (bel2M HBW.out (alloc1B wq (.cells (msC m2 P6) 46)))
      have HX6 := Lib.hid (heap_alloc_new wq (.cells (msC m2 P6) 46))
      have HX5 := Lib.hid (heapB HX5.out (alloc1B wq (.cells (msC m2 P6) 46)))
      generalize hwn : wq.alloc _ = u6 at *
      clear hwn k0 k1 k2 k3 k4 k5 k6 k7 k8
      obtain ⟨k0, k1, k2, k3, k4, k5, k6, k7, k8⟩ := HKK.out _ HBW.out
      have m5 := rowCell HX5.out 5 (.string (strB m1.d)) rfl
      have n5 := rowCell HX6.out 5 (.string (strB m2.d)) rfl
      by_cases hy : y1 = 0
      · subst hy
        by_cases hy2 : y2 = 0
        · subst hy2
          by_cases hd : ((strB m1.d).toList == (strB m2.d).toList) = true
          · go_wp2_with (go_at_call 13; refine (HAW.out _).mono ?_; rintro e wz ⟨rfl, hb⟩; have HBW := Lib.hid (bel2M HBW.out hb); clear hb)
            go_ret
            exact ⟨rfl, bel2M HBM.out HBW.out⟩
          · replace hd := eq_false_of_ne_true hd
            have HONF := Lib.hid (HONE.out rfl rfl)
            clear HONE
            go_upto_region 17 with fail
            clear m5 n5 hd HX5 HX6
            go_upto_region 18 with (go_at_call 18; go_loud (refine (HPR.out _ HBW.out).mono ?_; rintro e wj ⟨rfl, hww⟩; rw [hww]; clear hww wj))
            have HOB := Lib.hid (show (u6.alloc (.cells #[.int .i64 pr] 3)).ownsRow u6.heap.size 3 1 (.slice (some ⟨u6.heap.size, 0, none⟩) 1 1) 1 [.int .i64 pr] from ⟨rfl, .inr ⟨_, 1, #[.int .i64 pr], rfl, Nat.le_refl _, heap_alloc_new _ _, Nat.le_refl _, by decide, rfl, rfl⟩⟩)
            have HBZ := Lib.hid (alloc1B u6 (.cells #[.int .i64 pr] 3))
            clear k0 k1 k2 k3 k4 k5 k6 k7 k8
            generalize hwn : u6.alloc _ = wZ at *
            clear hwn
            obtain ⟨i0, hi, hz0, hz1, hz2⟩ := info_parts intinfo
            go_wp2
            go_loopw [16, 17] (fun bv i wl => ∃ (k : Nat) (B : List Int), k ≤ vs.length ∧ i = .int .i64 k ∧ wl.ownsRow u6.heap.size 3 1 bv B.length (B.map ic) ∧ B.length ≤ 1 + 12 * k ∧ pr ∈ B ∧ (∀ j (hj : j < e1.length), j < k → e1[j].1 ∈ es2.map (·.1) → e1[j].1 ∈ B) ∧ Below u6.heap.size u6 wl) (fun _ i _ => vs.length - (intOf i).toNat)
            case atStart => exact ⟨0, [pr], Nat.zero_le _, rfl, HOB.out, by simp, by simp, fun j hj h => by omega, HBZ.out⟩
            case round =>
              rename World => wl
              obtain ⟨k, B, hk, rfl, hown, hlb, hpb, hcv, hbel⟩ := hrel
              have HBR := Lib.hid (bel2M HBW.out hbel)
              have HOW := Lib.hid hown
              have HBL := Lib.hid hbel
              have HLB := Lib.hid hlb
              have HPB := Lib.hid hpb
              have HCV := Lib.hid hcv
              have HVO := Lib.hid (own_slice hown)
              obtain ⟨AL, cL, rfl⟩ := HVO.out
              clear hown hbel HVO hlb hpb hcv
              obtain ⟨k0, k1, k2, k3, k4, k5, k6, k7, k8⟩ := HKK.out _ HBR.out
              by_cases hlt : k < vs.length
              · have hltI : (k : Int) < (vs.length : Int) := by omega
                have HLT := Lib.hid hlt
                have hkb : k + 1 ≤ 1000000 := by have := HN1.out; omega
                obtain ⟨ad1, bv1, hA1, hbl1, e0, -, -⟩ := env_open (HE1.out.below HBR.out) k (by rw [HL1.out]; exact hlt)
                subst hA1
                obtain ⟨sk, hsk⟩ : ∃ sk, (e1[k]'(by rw [HL1.out]; exact hlt)).1 = sk := ⟨_, rfl⟩
                rw [hsk] at e0
                have HSK := Lib.hid hsk
                have HE0 := Lib.hid (show ∀ W, Below wl.heap.size wl W → W.cell? (ad1.add (k * 2)) = some (.int .i64 sk) from fun W hb => cellB e0 hb)
                have HEX := Lib.hid (show ∀ W, Below wr.heap.size wr W → W.cell? (ad1.add (k * 2)) = some (.int .i64 sk) from fun W hb => by
                  obtain ⟨ad1', bv1', hA1, -, e0', -, -⟩ := env_open (HE1.out.below hb) k (by rw [HL1.out]; exact HLT.out)
                  injection hA1 with hA1
                  subst hA1
                  rw [HSK.out] at e0'
                  exact e0')
                clear e0 hbl1 hsk HE0
                go_upto_region 21 with fail
                go_wp2
                go_loopw [16, 18] (fun bv i wi => ∃ (n : Nat) (B2 : List Int), n ≤ us.length ∧ i = .int .i64 n ∧ wi.ownsRow u6.heap.size 3 1 bv B2.length (B2.map ic) ∧ B2.length ≤ 1 + 12 * k + n ∧ (∀ x ∈ B, x ∈ B2) ∧ (∀ j (hj : j < es2.length), j < n → es2[j].1 = sk → sk ∈ B2) ∧ Below u6.heap.size u6 wi) (fun _ i _ => us.length - (intOf i).toNat)
                case atStart => exact ⟨0, B, Nat.zero_le _, rfl, HOW.out, HLB.out, fun x h => h, fun j hj h => by omega, HBL.out⟩
                case round =>
                  rename World => wi
                  obtain ⟨n, B2, hn, rfl, hown, hlb2, hsub, hcv2, hbel⟩ := hrel
                  have HBR := Lib.hid (bel2M HBW.out hbel)
                  have HOW := Lib.hid hown
                  have HBL := Lib.hid hbel
                  have HLB2 := Lib.hid hlb2
                  have HSUB := Lib.hid hsub
                  have HCV2 := Lib.hid hcv2
                  have HVO := Lib.hid (own_slice hown)
                  obtain ⟨AL2, cL2, rfl⟩ := HVO.out
                  clear hown hbel HVO hlb2 hsub hcv2 k0 k1 k2 k3 k4 k5 k6 k7 k8
                  obtain ⟨k0, k1, k2, k3, k4, k5, k6, k7, k8⟩ := HKK.out _ HBR.out
                  by_cases hlt2 : n < us.length
                  · have hltI2 : (n : Int) < (us.length : Int) := by omega
                    have HLT2 := Lib.hid hlt2
                    have hnb : n + 1 ≤ 1000000 := by have := HN2.out; omega
                    obtain ⟨ad2, bv2, hA2, -, e0, -, -⟩ := env_open (HE2.out.below HBR.out) n (by rw [HEL.out]; exact hlt2)
                    subst hA2
                    obtain ⟨tk, htk⟩ : ∃ tk, (es2[n]'(by rw [HEL.out]; exact hlt2)).1 = tk := ⟨_, rfl⟩
                    rw [htk] at e0
                    have HTK := Lib.hid htk
                    have HE2n := Lib.hid e0
                    clear e0 htk
                    go_upto_region 24 with fail
                    have HBC := Lib.hid (show Below wi.heap.size wi wi.drew from (Below.refl _ _).drew)
                    have h24 : (fun W => W.cell? ⟨bk, 2, none⟩ = some (.slice (some ad1) vs.length rc1) ∧ W.cell? ⟨bl, 2, none⟩ = some (.slice (some ad2) us.length rc2) ∧ W.cell? (ad1.add (k * 2)) = some (.int .i64 sk) ∧ W.cell? (ad2.add (n * 2)) = some (.int .i64 tk)) wi.drew := ⟨k4, k7, HEX.out _ (bel2M HBR.out HBC.out), HE2n.out⟩
                    have H24 := Lib.hid h24
                    clear h24
                    by_cases hq : ¬ (sk == tk) = true
                    · replace hq := eq_false_of_ne_true hq
                      go_region_held3 (fun W => W.cell? ⟨bk, 2, none⟩ = some (.slice (some ad1) vs.length rc1) ∧ W.cell? ⟨bl, 2, none⟩ = some (.slice (some ad2) us.length rc2) ∧ W.cell? (ad1.add (k * 2)) = some (.int .i64 sk) ∧ W.cell? (ad2.add (n * 2)) = some (.int .i64 tk)) (exact H24.out) (fail)
                      go_wp2
                      go_roundw
                      case rel => exact ⟨n + 1, B2, HLT2.out, by go_num, HOW.out, by have := HLB2.out; omega, HSUB.out, fun j hj h hs => by
                        by_cases hjn : j = n
                        · subst hjn
                          rw [HTK.out] at hs
                          subst hs
                          simp at hq
                        · exact HCV2.out j hj (by omega) hs, bel2M HBL.out HBC.out⟩
                      case measure => simp [intOf]; have := HLT2.out; omega
                    · replace hq := Classical.not_not.1 hq
                      go_region_held3 (fun W => W.cell? ⟨bk, 2, none⟩ = some (.slice (some ad1) vs.length rc1) ∧ W.cell? ⟨bl, 2, none⟩ = some (.slice (some ad2) us.length rc2) ∧ W.cell? (ad1.add (k * 2)) = some (.int .i64 sk) ∧ W.cell? (ad2.add (n * 2)) = some (.int .i64 tk)) (exact H24.out) (fail)
                      have HOWB := Lib.hid (own_belowM (own_belowM HOW.out HBC.out) (alloc1B _ (.cells #[.int .i64 sk] 3)))
                      have HBQ := Lib.hid (show Below u6.heap.size u6 _ from bel2M HBL.out (bel2M HBC.out (alloc1B _ (.cells #[.int .i64 sk] 3))))
                      obtain ⟨-, -, g0, g1⟩ := H24.out
                      go_wp2_with (at_builtin; refine wpList_append_rd _ rfl (.tmp 145) (.tmp 152) 52 rfl u6.heap.size 3 i0 (.int .i64 0) 8 Tryz.underlying52 hi hz0 hz1 hz2 rfl _ _ _ rfl HOWB.out _ _ rfl (Rd.one _ _ _) (by intro u hu; simp at hu; subst hu; rfl) (by have := HN1.out; have := HLT.out; have := HLT2.out; have := HLB2.out; simp; unfold maxLen; omega) (by have := HN1.out; have := HLT.out; have := HLB2.out; simp; omega) HBQ.out.size ?_; intro v8 w8 hown8 hg8; have HB8 := Lib.hid (HBQ.out.grown hg8 HBQ.out.size (fun g hg => (HOWB.out.lt g hg).1)); have HO8 := Lib.hid (show w8.ownsRow u6.heap.size 3 1 v8 (B2 ++ [sk]).length ((B2 ++ [sk]).map ic) from by simpa [ic] using hown8); clear hown8 hg8)
                      go_roundw
                      case rel => exact ⟨n + 1, B2 ++ [sk], HLT2.out, by go_num, HO8.out, by have := HLB2.out; simp; omega, fun x h => List.mem_append_left _ (HSUB.out x h), fun j hj h hs => List.mem_append_right _ (List.mem_singleton.2 rfl), HB8.out⟩
                      case measure => simp [intOf]; have := HLT2.out; omega
                  · obtain rfl : n = us.length := by omega
                    have hltI2 : ¬ (us.length : Int) < (us.length : Int) := by omega
                    go_wp2
                    go_roundw
                    case rel => exact ⟨k + 1, B2, HLT.out, by go_num, HOW.out, by have := HLB2.out; have := HN2.out; omega, HSUB.out _ HPB.out, fun j hj h hs => by
                      by_cases hjk : j = k
                      · subst hjk
                        rw [HSK.out] at hs ⊢
                        obtain ⟨y, hy, hs⟩ := List.mem_map.1 hs
                        obtain ⟨i, hi, rfl⟩ := List.getElem_of_mem hy
                        exact HCV2.out i hi (by rw [← HEL.out]; exact hi) hs
                      · exact HSUB.out _ (HCV.out j hj (by omega) hs), HBL.out⟩
                    case measure => simp [intOf]; have := HLT.out; omega
              · obtain rfl : k = vs.length := by omega
                have hltI : ¬ (vs.length : Int) < (vs.length : Int) := by omega
                have HNS := Lib.hid (show Ns wl (.slice AL B.length cL) B from by exact Rd.of_own HOW.out)
                have HCT := Lib.hid (HONF.out B HPB.out fun x h1 h2 => by
                  obtain ⟨y, hy, rfl⟩ := List.mem_map.1 h1
                  obtain ⟨i, hi, rfl⟩ := List.getElem_of_mem hy
                  exact HCV.out i hi (by rw [← HL1.out]; exact hi) h2)
                have HCT2 := Lib.hid (fun W (hb : Below wl.heap.size wl W) => HCN.out B (.slice AL B.length cL) W (bel2M HBR.out hb) (HNS.out.below hb (Nat.le_refl _)))
                have HFF2 := Lib.hid (fun W (hb : Below wl.heap.size wl W) => HFF.out W (bel2M HBR.out hb))
                generalize cntP (clF F) B = cn at *
                have hd2 : decide (clF F < (cn : Int)) = true := decide_eq_true HCT.out
                have HBC := Lib.hid (show Below wl.heap.size wl wl.drew from (Below.refl _ _).drew)
                have HSE := Lib.hid (show ∀ W, Below wl.heap.size wl W → (fun W => W.cell? ⟨wB.heap.size, 0, none⟩ = some (.pointer (some ⟨g, 0, none⟩))) W from fun W hb => (HKK.out W (bel2M HBR.out hb)).1)
                have HEND := Lib.hid (bel2M HBM.out HBR.out)
                go_upto_region 26 with fail
                clear k0 k1 k2 k3 k4 k5 k6 k7 k8 HCV HNS HCT HCN HFF HKK HOW HLB HPB
                refine wp_region_held_drew (S := (fun W => W.cell? ⟨wB.heap.size, 0, none⟩ = some (.pointer (some ⟨g, 0, none⟩)))) (by kernel_rfl) (HSE.out _ HBC.out) (fun hHeld => ?_)
                refine tk 0 ?_
                (try simp only [Act.put, sA, sB, sC])
                refine tk 1 ?_
                (try simp only [Act.put, sA, sB, sC])
                refine tk 2 ?_
                (try simp only [Act.put, sA, sB, sC])
                refine tk 4 ?_
                (try simp only [Act.put, sA, sB, sC])
                refine tk 5 ?_
                (try simp only [Act.put, sA, sB, sC])
                refine wpAnyH_ready (rs := [3]) (by kernel_rfl) (by simp) ?_
                refine AllReadyH.cons (o := ?o106) ?g106 (fun K hK => ?j106) AllReadyH.nil
                case g106 => (simp only [gA, gB, gC]; rfl)
                go_simp
                (go_at_call 20; go_loud (refine (HCT2.out _ HBC.out).mono ?_))
                rintro e w' ⟨rfl, hww⟩
                rw [hww]
                clear hww w'
                refine hK.out _ _ ?_ (fun hHeld => ?_)
                · (try dsimp only); exact HSE.out _ HBC.out
                clear hK K
                (try simp only [Act.put, sA, sB, sC])
                refine wpAnyH_ready (rs := [6]) (by kernel_rfl) (by simp) ?_
                refine AllReadyH.cons (o := ?o107) ?g107 (fun K hK => ?j107) AllReadyH.nil
                case g107 => (simp only [gA, gB, gC]; rfl)
                go_simp
                (go_at_call 21; go_loud (refine (HFF2.out _ HBC.out).mono ?_))
                rintro e w' ⟨rfl, hww⟩
                rw [hww]
                clear hww w'
                refine hK.out _ _ ?_ (fun hHeld => ?_)
                · (try dsimp only); exact HSE.out _ HBC.out
                clear hK K
                (try simp only [Act.put, sA, sB, sC])
                refine tk 7 ?_
                (try simp only [Act.put, sA, sB, sC])
                refine tk 8 ?_
                (try simp only [Act.put, sA, sB, sC])
                refine wpAnyH_ready (rs := [9]) (by kernel_rfl) (by simp) ?_
                refine AllReadyH.cons (o := ?o110) ?g110 (fun K hK => ?j110) AllReadyH.nil
                case g110 => (simp only [gA, gB, gC]; rfl)
                go_simp
                (go_at_call 13; go_loud (refine (HAW.out _).mono ?_))
                rintro e wz ⟨rfl, hb⟩
                have HBC := Lib.hid (bel2M HBC.out hb)
                clear hb
                refine hK.out _ _ ?_ (fun hHeld => ?_)
                · (try dsimp only); exact HSE.out _ HBC.out
                clear hK K
                (try simp only [Act.put, sA, sB, sC])
                refine tk 10 ?_
                (try simp only [Act.put, sA, sB, sC])
                refine tk 11 ?_
                (try simp only [Act.put, sA, sB, sC])
                refine wpAnyH_done (by kernel_rfl) ?_ _
                go_wp2
                go_ret
                exact ⟨rfl, bel2M HEND.out HBC.out⟩
        · have hq : (y2 != 0) = true := by simpa using hy2
          clear hy2
          go_wp2_with (go_at_call 13; refine (HAW.out _).mono ?_; rintro e wz ⟨rfl, hb⟩; have HBW := Lib.hid (bel2M HBW.out hb); clear hb)
          go_ret
          exact ⟨rfl, bel2M HBM.out HBW.out⟩
      · have hq : (y1 != 0) = true := by simpa using hy
        clear hy
        go_wp2_with (go_at_call 13; refine (HAW.out _).mono ?_; rintro e wz ⟨rfl, hb⟩; have HBW := Lib.hid (bel2M HBW.out hb); clear hb)
        go_ret
        exact ⟨rfl, bel2M HBM.out HBW.out⟩

end Go.Proofs.YticfnjihjpgneaaGreat

namespace Go.Proofs.YticfnjihjpgneaaGreat
open Go.RowKit Go.ChangeShapes Go.WideShapes Go.ChangeAt
set_option linter.unusedVariables false
set_option linter.unusedSimpArgs false
set_option maxRecDepth 20000

section
variable {H : Type} {enc : TypeId × Value → H} {W : World} {sp : Nat → Bool} {hd : Bool} {base : Nat} {v : Value} {d : DataW H} {ps : List MemPlace}
abbrev OkVt (z : Vt) : Prop := ok64 z.s ∧ ok64 z.k ∧ ok64 z.v ∧ ok64 z.q
theorem part_vt (n : Nat) (cs : List Value) (x : DataW H × List MemPlace) (p : Addr) (ht : DataW.trod enc Tryz.prog W 0 sp hd n 108 cs = some x) (hlen : cs.length = 6) (hat : ∀ i, i < 6 → W.cell? (p.add i) = cs[i]?) : ∃ z, VtP W p z ∧ OkVt z := by
  obtain ⟨ys, m, -, -, -, hys, hfs⟩ := DataW.trod_struct Tryz.underlying108 ht
  match cs, hlen with
  | [c0, c1, c2, c3, c4, c5], _ =>
    match ys, hys with
    | [y0, y1, y2, y3, y4, y5], _ =>
      have k1 : Tryz.prog.cellsOf 3 = 1 := by kernel_rfl
      have k2 : Tryz.prog.cellsOf 4 = 1 := by kernel_rfl
      have g0 := hfs 0 _ rfl
      have g1 := hfs 1 _ rfl
      have g2 := hfs 2 _ rfl
      have g3 := hfs 3 _ rfl
      have g4 := hfs 4 _ rfl
      have g5 := hfs 5 _ rfl
      simp [k1, k2] at g0 g1 g2 g3 g4 g5
      obtain ⟨z0, e0, -, w0⟩ := DataW.trod_int Tryz.underlying3 g0
      obtain ⟨z1, e1, -, w1⟩ := DataW.trod_int Tryz.underlying3 g1
      obtain ⟨z2, e2, -, w2⟩ := DataW.trod_int Tryz.underlying3 g2
      obtain ⟨z3, e3, -, w3⟩ := DataW.trod_int Tryz.underlying3 g3
      obtain ⟨z4, e4, -⟩ := DataW.trod_bool Tryz.underlying4 g4
      obtain ⟨z5, e5, -⟩ := DataW.trod_bool Tryz.underlying4 g5
      simp at e0 e1 e2 e3 e4 e5
      subst e0 e1 e2 e3 e4 e5
      have e0 := hat 0 (by omega)
      have e1 := hat 1 (by omega)
      have e2 := hat 2 (by omega)
      have e3 := hat 3 (by omega)
      have e4 := hat 4 (by omega)
      have e5 := hat 5 (by omega)
      exact ⟨⟨z0, z1, z2, z3, z4, z5⟩, ⟨by simpa [Addr.add_zero'] using e0, by simpa [Addr.add_succ'] using e1, by simpa [Addr.add_succ'] using e2, by simpa [Addr.add_succ'] using e3, by simpa [Addr.add_succ'] using e4, by simpa [Addr.add_succ'] using e5⟩, inM_of w0, inM_of w1, inM_of w2, inM_of w3⟩
theorem open_cas (hv : Value.okWide Tryz.prog W .any base 26 v) (h : DataW.Trod enc Tryz.prog W 0 sp hd 26 v d ps) :
    ∃ (cv cs cp : Int) (A : Option Addr) (cc : Nat) (vs : List Vt), v = .agg #[.int .i64 cv, .int .i64 cs, .int .i64 cp, .slice A vs.length cc] ∧ VtK W A cc vs ∧ ok64 cv ∧ ok64 cs ∧ ok64 cp ∧ ∀ x ∈ vs, OkVt x := by
  obtain ⟨cs, rfl, hsz⟩ := okWide_struct Tryz.underlying26 hv
  obtain ⟨fuel, hf⟩ := h
  have k0 : Tryz.prog.cellsOf 26 = 4 := by kernel_rfl
  rw [k0] at hsz
  obtain ⟨ys, m, -, -, -, hys, hfs⟩ := DataW.trod_struct Tryz.underlying26 hf
  obtain ⟨l⟩ := cs
  match l, hsz with
  | [c0, c1, c2, c3], _ =>
    match ys, hys with
    | [y0, y1, y2, y3], _ =>
      have k1 : Tryz.prog.cellsOf 3 = 1 := by kernel_rfl
      have k2 : Tryz.prog.cellsOf 24 = 1 := by kernel_rfl
      have g0 := hfs 0 _ rfl
      have g1 := hfs 1 _ rfl
      have g2 := hfs 2 _ rfl
      have g3 := hfs 3 _ rfl
      simp [k1, k2, Value.cells] at g0 g1 g2 g3
      obtain ⟨z0, e0, -, w0⟩ := DataW.trod_int Tryz.underlying3 g0
      obtain ⟨z1, e1, -, w1⟩ := DataW.trod_int Tryz.underlying3 g1
      obtain ⟨z2, e2, -, w2⟩ := DataW.trod_int Tryz.underlying3 g2
      obtain ⟨vs, A, cc, e3, hl, hl2⟩ := row_ofM ⟨⟨0, 0, 0, 0, false, false⟩⟩ VtP OkVt Tryz.underlying24 (by kernel_rfl) (fun p x h => World.block_lt_of_cell? _ _ h.1) part_vt g3
      simp at e0 e1 e2
      subst e0 e1 e2 e3
      exact ⟨z0, z1, z2, A, cc, vs, rfl, hl, inM_of w0, inM_of w1, inM_of w2, hl2⟩
end
end Go.Proofs.YticfnjihjpgneaaGreat
