/- se: HDef HOpen GChk APure ACount ADist HCls HVote GPut GBat BFew GBat2 HBat HPre HBatch HTally HPrep HStab GPutL GSim (made by shake.py). -/
import Derived.BigFrame
import Derived.Deep.MidRow
import Derived.Test.YticfnjihjpgneaaGreatsd
namespace Go.Proofs.YticfnjihjpgneaaGreat
open Go.RowKit
set_option linter.unusedVariables false
set_option linter.unusedSimpArgs false
set_option maxRecDepth 20000

theorem tk {P : Program} {ops : Array Oper} {Q : Exit → Act → World → Prop} {md : Region.Mode} {S : World → Prop} (i : Nat) {oi : Oper} {v : Value} {fuel : Nat} {listed : Array Bool} {a : Act} {w : World} (h : wpAnyH P md ops Q S fuel (listed.setIfInBounds i true) (a.put oi.dst v) w) (hi : ops[i]? = some oi := by (simp only [gA, gB, gC]; rfl)) (hs : Region.noSelect ops = true := by kernel_rfl) (hf : Region.free md ops listed i = true := by kernel_rfl) (hr : (Region.ready md ops listed).contains i = true := by kernel_rfl) (hQ : ∀ c a w, Q (.panic c) (a.put oi.dst v) w → Q (.panic c) a w := by exact fun _ _ _ h => h) (hw : Region.wanted oi (yielded ops a.tmps) = true := by rfl) (hy : ∀ w, S w → (execOp a.eval oi).run P w = .ok (.value v) w := by (intro w z; (try dsimp only at z); go_simp; try with_reducible rfl)) (hS : S w := by assumption) : wpAnyH P md ops Q S (fuel + 1) listed a w := wpAnyH_take hi hs hf hr hQ (Or.inl ⟨hw, hy⟩) hS h
theorem sk {P : Program} {ops : Array Oper} {Q : Exit → Act → World → Prop} {md : Region.Mode} {S : World → Prop} (i : Nat) {oi : Oper} {fuel : Nat} {listed : Array Bool} {a : Act} {w : World} (h : wpAnyH P md ops Q S fuel (listed.setIfInBounds i true) (a.put oi.dst undef) w) (hi : ops[i]? = some oi := by (simp only [gA, gB, gC]; rfl)) (hs : Region.noSelect ops = true := by kernel_rfl) (hf : Region.free md ops listed i = true := by kernel_rfl) (hr : (Region.ready md ops listed).contains i = true := by kernel_rfl) (hQ : ∀ c a w, Q (.panic c) (a.put oi.dst undef) w → Q (.panic c) a w := by exact fun _ _ _ h => h) (hw : Region.wanted oi (yielded ops a.tmps) = false := by rfl) (hS : S w := by assumption) : wpAnyH P md ops Q S (fuel + 1) listed a w := wpAnyH_take hi hs hf hr hQ (Or.inr ⟨hw, rfl⟩) hS h

def fewV (c : Crt) : Bool := allowB (0, 7) (c.2.length : Nat)
def docFits (s : Shp) (m : Msg) : Bool :=
  allowB s.v m.v && allowB s.s m.s && allowB s.c m.c && allowB s.t m.t && allowB s.d (m.d.length : Nat) && allowB s.x (m.x.length : Nat) && noRes s m.r && allowB s.b (m.b.length : Nat) && allowB s.p (m.p.length : Nat) && (allowB s.q (m.q.length : Nat) && m.q.all fewV)
def checkD (m : Msg) : Bool := (shapeM m.k).2 && docFits (shapeM m.k).1 m
def encD (m : Msg) : List UInt8 := if checkD m = true then putM m else []
structure FitD (sh : Shp) (m : Msg) : Prop where
  v : allowB sh.v m.v = true
  s : allowB sh.s m.s = true
  c : allowB sh.c m.c = true
  t : allowB sh.t m.t = true
  d : allowB sh.d (m.d.length : Nat) = true
  x : allowB sh.x (m.x.length : Nat) = true
  r : sh.r = true ∨ m.r = (0, 0)
  b : allowB sh.b (m.b.length : Nat) = true
  p : allowB sh.p (m.p.length : Nat) = true
  q : allowB sh.q (m.q.length : Nat) = true ∧ ∀ c ∈ m.q, allowB (0, 7) (c.2.length : Nat) = true
theorem fitD_of {s : Shp} {m : Msg} (hc : docFits s m = true) : FitD s m := by
  unfold docFits at hc
  simp only [Bool.and_eq_true] at hc
  obtain ⟨⟨⟨⟨⟨⟨⟨⟨⟨c1, c2⟩, c3⟩, c4⟩, c5⟩, c6⟩, c7⟩, c8⟩, c9⟩, c10, c11⟩ := hc
  exact ⟨c1, c2, c3, c4, c5, c6, noRes_split c7, c8, c9, c10, fun c hc => List.all_eq_true.1 c11 c hc⟩
theorem checkD_fit {m : Msg} (hc : checkD m = true) : FitD (shapeM m.k).1 m := by
  unfold checkD at hc
  rw [Bool.and_eq_true] at hc
  exact fitD_of hc.2
theorem crtD_fo {c : Crt} (h1 : in64B c.1.1) (h2 : ∀ e ∈ c.2, in64B e.1) (h3 : c.1.2.length ≤ 100000) (h4 : c.2.length ≤ 100) (h5 : ∀ e ∈ c.2, e.2.length ≤ 100000) (hw : allowB (0, 7) (c.2.length : Nat) = true) : Fo crtG (crtW c) c := fun rest => by
  have h6 := env_fo h1 h3
  have h7 := lis_fo (f := envW) (b := (0, 7)) ⟨by decide, by decide⟩ (l := c.2) (by omega) hw fun e he => env_fo (h2 e he) (h5 e he)
  unfold crtG crtW
  rw [List.append_assoc, h6]
  simp only
  rw [h7]
theorem bodyD_fo {s : Shp} {m : Msg} (hs : OkS s) (ho : OkM m) (hd : MidM m) (hf : FitD s m) : Fo (bodyG m.k s) (numP s.v m.v ++ (numP s.s m.s ++ (numP s.c m.c ++ (numP s.t m.t ++ (rowP s.d m.d ++ (rowP s.x m.x ++ (resP s.r m.r ++ (lisP envW s.b m.b ++ (lisP envW s.p m.p ++ (lisP crtW s.q m.q ++ [])))))))))) m := by
  have k5 : m.d.length < 4294967296 := by have := hd.d; omega
  have k6 : m.x.length < 4294967296 := by have := hd.x; omega
  have k7 : m.b.length < 4294967296 := by have := hd.b.1; omega
  have k8 : m.p.length < 4294967296 := by have := hd.p.1; omega
  have k9 : m.q.length < 4294967296 := by have := hd.q.1; omega
  unfold bodyG
  refine (num_fo hs.v hf.v).then ?_
  refine (num_fo hs.s hf.s).then ?_
  refine (num_fo hs.c hf.c).then ?_
  refine (num_fo hs.t hf.t).then ?_
  refine (row_fo hs.d k5 hf.d).then ?_
  refine (row_fo hs.x k6 hf.x).then ?_
  refine (res_fo ho.r hf.r).then ?_
  refine (lis_fo hs.b.1 k7 hf.b fun e he => env_fo (ho.b e he) (hd.b.2 e he)).then ?_
  refine (lis_fo hs.p.1 k8 hf.p fun e he => env_fo (ho.p e he) (hd.p.2 e he)).then ?_
  refine (lis_fo hs.q.1 k9 hf.q.1 fun e he => crtD_fo (ho.q e he).1 (ho.q e he).2 (hd.q.2 e he).1 (hd.q.2 e he).2.1 (hd.q.2 e he).2.2 (hf.q.2 e he)).then ?_
  exact Fo.ret m
theorem readD_fo {m : Msg} (ho : OkM m) (hd : MidM m) (hc : checkD m = true) : Fo readM (putM m) m := by
  have hb := bodyD_fo (shape_ok m.k) ho hd (checkD_fit hc)
  have he : putM m = _ := put_eq (shapeM m.k).1 m
  rw [he]
  clear he hc
  unfold readM
  exact Fo.then (G := int8F) (F := fun k => bodyG k (shapeM k).1) (fun rest => int8F_put _ ho.k rest) hb
theorem encD_dec {m : Msg} (ho : OkM m) (hd : MidM m) (hc : checkD m = true) (hl : (putM m).length ≤ 16777216) : decM (encD m) = if checkM m = true then (m, 0) else (msg0, 12) := by
  have h := readD_fo ho hd hc []
  rw [List.append_nil] at h
  unfold encD
  rw [if_pos hc]
  unfold decM gotM
  rw [if_neg (by omega), h]
  simp [endE]
theorem dec_nil : decM [] = (msg0, 12) := by kernel_rfl

def openX (x : Int) (d : Msg × Int) (kind : Int) : Msg × Int := if x = 0 then (if d.2 = 0 then (if d.1.k = kind then (d.1, 0) else (msg0, 120)) else (msg0, 120)) else (msg0, x)
set_option maxHeartbeats 4000000 in
theorem hOpen_of (pa : Value) (e : Int × List UInt8) (bv : Value) (kind x : Int) (d : Msg × Int) (w : World) (hv : Bs w bv e.2)
    (hC : ∀ W, Below w.heap.size w W → Calls Tryz.prog 134 #[pa, agE e.1 bv] W (Ans (.int .i64 x) W))
    (hD : x = 0 → ∀ W, Below w.heap.size w W → Calls Tryz.prog 151 #[bv] W (DecN d W)) :
    Calls Tryz.prog 109 #[pa, agE e.1 bv, .int .i64 kind] w (DecN (openX x d kind) w) := by
  obtain ⟨BA, bc0, rfl, -⟩ := hv.open
  have HC := Lib.hid hC
  clear hC hv
  obtain ⟨x1, x2, x3⟩ := box2B w #[.int .i64 e.1, .slice BA e.2.length bc0] msH 35 46
  by_cases h0 : x = 0
  · subst h0
    have HD := Lib.hid (hD rfl)
    clear hD
    obtain ⟨m, y⟩ := d
    by_cases h1 : y = 0
    · subst h1
      have hX : openX 0 (m, 0) kind = if m.k = kind then (m, 0) else (msg0, 120) := by unfold openX; rw [if_pos rfl, if_pos rfl]
      rw [hX]
      by_cases h2 : m.k = kind
      · rw [if_pos h2]
        have hq : (m.k != kind) = false := by simpa using h2
        clear h2 hX
        go_enter Tryz.func109, Tryz.ntmps109
        go_upto_region 1 with fail
        generalize hw0 : (w.alloc _).alloc _ = w0 at *
        have HR := Lib.hid x1
        have HX := Lib.hid x2
        have HB := Lib.hid x3
        clear x1 x2 x3 hw0
        go_wp2_with (first
          | (go_at_call 134; refine (HC.out _ HB.out).mono ?_; rintro e w1 ⟨rfl, hb⟩; have HR := Lib.hid (heapB HR.out hb); have HX := Lib.hid (heapB HX.out hb); have r0 := rowCell HR.out 0 (.int .i64 e.1) rfl; have r1 := rowCell HR.out 1 (.slice BA e.2.length bc0) rfl; have HB := Lib.hid (bel2M HB.out hb); clear hb)
          | (refine wpList_load_mid rfl 35 _ rfl w.heap.size 0 rfl _ _ (heap_all HR.out) Tryz.underlying35 rfl (by kernel_rfl) ?_)
          | (go_at_call 151; go_loud (refine (HD.out _ HB.out).mono ?_; rintro e w2 ⟨P, rfl, hk, hb⟩; have HB1 := Lib.hid HB.out; have HK := Lib.hid hk; have HP := Lib.hid (keep_alloc (B := w1.heap.size) w2 (.cells (msC m P) 46)); have HZ1 := Lib.hid (Array.getElem?_eq_some_iff.1 HX.out).1; have HR := Lib.hid (heapB HR.out hb); have HX := Lib.hid (heapB HX.out hb); have HB2 := Lib.hid (bel2M HB.out hb); have HBX := Lib.hid (heap_alloc_new w2 (.cells (msC m P) 46)); have HR := Lib.hid (heapB HR.out (alloc1B w2 (.cells (msC m P) 46))); have HX := Lib.hid (heapB HX.out (alloc1B w2 (.cells (msC m P) 46))); have HB := Lib.hid (bel2M HB2.out (alloc1B w2 (.cells (msC m P) 46))); have m0 := rowCell HBX.out 0 (.int .i64 m.k) rfl; have m1 := rowCell HBX.out 1 (.int .i64 m.v) rfl; have m2 := rowCell HBX.out 2 (.int .i64 m.s) rfl; have m3 := rowCell HBX.out 3 (.int .i64 m.c) rfl; have m4 := rowCell HBX.out 4 (.int .i64 m.t) rfl; have m5 := rowCell HBX.out 5 (.string (strB m.d)) rfl; have m6 := rowCell HBX.out 6 (.slice P.x.1 m.x.length P.x.2) rfl; have m7 := rowCell HBX.out 7 (.int .i64 m.r.1) rfl; have m8 := rowCell HBX.out 8 (.int .i64 m.r.2) rfl; have m9 := rowCell HBX.out 9 (.slice P.b.1 m.b.length P.b.2) rfl; have m10 := rowCell HBX.out 10 (.slice P.p.1 m.p.length P.p.2) rfl; have m11 := rowCell HBX.out 11 (.slice P.q.1 m.q.length P.q.2) rfl; clear hb hk))
          | (refine wpList_storeAll rfl 46 _ _ rfl (w.heap.size + 1) _ _ rfl rfl HX.out rfl (by kernel_rfl) (by kernel_rfl) ?_; intro w9 hz hh ho; have HY := Lib.hid hh; have HB9 := Lib.hid (onlyBelow HB.out ho (by omega) (Nat.le_refl _)); have HO9 := Lib.hid ho; clear hz hh ho)
          | (refine wpList_load_mid rfl 46 _ rfl (w2.heap.size) 0 rfl _ _ (heap_all HBX.out) Tryz.underlying46 rfl (by kernel_rfl) ?_))
        refine bodyPost_ret (results_cell2 rfl _ _ (w.heap.size + 1) 46 _ (0, 0) _ rfl HY.out Tryz.underlying46 rfl (by kernel_rfl)) rfl ?_
        exact ⟨P, rfl, fun W hW => HK.out W (kpb_to (keep_only HP.out HO9.out HZ1.out) hW HB1.out.size), HB9.out⟩
      · rw [if_neg h2]
        have hq : (m.k != kind) = true := by simpa using h2
        go_enter Tryz.func109, Tryz.ntmps109
        go_upto_region 1 with fail
        generalize hw0 : (w.alloc _).alloc _ = w0 at *
        have HR := Lib.hid x1
        have HX := Lib.hid x2
        have HB := Lib.hid x3
        clear x1 x2 x3 hw0
        go_wp2_with (first
          | (go_at_call 134; refine (HC.out _ HB.out).mono ?_; rintro e w1 ⟨rfl, hb⟩; have HR := Lib.hid (heapB HR.out hb); have HX := Lib.hid (heapB HX.out hb); have r0 := rowCell HR.out 0 (.int .i64 e.1) rfl; have r1 := rowCell HR.out 1 (.slice BA e.2.length bc0) rfl; have HB := Lib.hid (bel2M HB.out hb); clear hb)
          | (refine wpList_load_mid rfl 35 _ rfl w.heap.size 0 rfl _ _ (heap_all HR.out) Tryz.underlying35 rfl (by kernel_rfl) ?_)
          | (go_at_call 151; go_loud (refine (HD.out _ HB.out).mono ?_; rintro e w2 ⟨P, rfl, hk, hb⟩; have HB1 := Lib.hid HB.out; have HK := Lib.hid hk; have HP := Lib.hid (keep_alloc (B := w1.heap.size) w2 (.cells (msC m P) 46)); have HZ1 := Lib.hid (Array.getElem?_eq_some_iff.1 HX.out).1; have HR := Lib.hid (heapB HR.out hb); have HX := Lib.hid (heapB HX.out hb); have HB2 := Lib.hid (bel2M HB.out hb); have HBX := Lib.hid (heap_alloc_new w2 (.cells (msC m P) 46)); have HR := Lib.hid (heapB HR.out (alloc1B w2 (.cells (msC m P) 46))); have HX := Lib.hid (heapB HX.out (alloc1B w2 (.cells (msC m P) 46))); have HB := Lib.hid (bel2M HB2.out (alloc1B w2 (.cells (msC m P) 46))); have m0 := rowCell HBX.out 0 (.int .i64 m.k) rfl; have m1 := rowCell HBX.out 1 (.int .i64 m.v) rfl; have m2 := rowCell HBX.out 2 (.int .i64 m.s) rfl; have m3 := rowCell HBX.out 3 (.int .i64 m.c) rfl; have m4 := rowCell HBX.out 4 (.int .i64 m.t) rfl; have m5 := rowCell HBX.out 5 (.string (strB m.d)) rfl; have m6 := rowCell HBX.out 6 (.slice P.x.1 m.x.length P.x.2) rfl; have m7 := rowCell HBX.out 7 (.int .i64 m.r.1) rfl; have m8 := rowCell HBX.out 8 (.int .i64 m.r.2) rfl; have m9 := rowCell HBX.out 9 (.slice P.b.1 m.b.length P.b.2) rfl; have m10 := rowCell HBX.out 10 (.slice P.p.1 m.p.length P.p.2) rfl; have m11 := rowCell HBX.out 11 (.slice P.q.1 m.q.length P.q.2) rfl; clear hb hk))
          | (refine wpList_storeAll rfl 46 _ _ rfl (w.heap.size + 1) _ _ rfl rfl HX.out rfl (by kernel_rfl) (by kernel_rfl) ?_; intro w9 hz hh ho; have HY := Lib.hid hh; have HB9 := Lib.hid (onlyBelow HB.out ho (by omega) (Nat.le_refl _)); have HO9 := Lib.hid ho; clear hz hh ho))
        refine bodyPost_ret (results_cell2 rfl _ _ (w.heap.size + 1) 46 _ (0, 0) _ rfl HY.out Tryz.underlying46 rfl (by kernel_rfl)) rfl ?_
        exact decN0 w _ 120 HB9.out
    · have hX : openX 0 (m, y) kind = (msg0, 120) := by unfold openX; rw [if_pos rfl, if_neg h1]
      rw [hX]
      have hq : (y != 0) = true := by simpa using h1
      go_enter Tryz.func109, Tryz.ntmps109
      go_upto_region 1 with fail
      generalize hw0 : (w.alloc _).alloc _ = w0 at *
      have HR := Lib.hid x1
      have HX := Lib.hid x2
      have HB := Lib.hid x3
      clear x1 x2 x3 hw0
      go_wp2_with (first
        | (go_at_call 134; refine (HC.out _ HB.out).mono ?_; rintro e w1 ⟨rfl, hb⟩; have HR := Lib.hid (heapB HR.out hb); have HX := Lib.hid (heapB HX.out hb); have r0 := rowCell HR.out 0 (.int .i64 e.1) rfl; have r1 := rowCell HR.out 1 (.slice BA e.2.length bc0) rfl; have HB := Lib.hid (bel2M HB.out hb); clear hb)
        | (refine wpList_load_mid rfl 35 _ rfl w.heap.size 0 rfl _ _ (heap_all HR.out) Tryz.underlying35 rfl (by kernel_rfl) ?_)
        | (go_at_call 151; go_loud (refine (HD.out _ HB.out).mono ?_; rintro e w2 ⟨P, rfl, hk, hb⟩; have HB1 := Lib.hid HB.out; have HK := Lib.hid hk; have HP := Lib.hid (keep_alloc (B := w1.heap.size) w2 (.cells (msC m P) 46)); have HZ1 := Lib.hid (Array.getElem?_eq_some_iff.1 HX.out).1; have HR := Lib.hid (heapB HR.out hb); have HX := Lib.hid (heapB HX.out hb); have HB2 := Lib.hid (bel2M HB.out hb); have HBX := Lib.hid (heap_alloc_new w2 (.cells (msC m P) 46)); have HR := Lib.hid (heapB HR.out (alloc1B w2 (.cells (msC m P) 46))); have HX := Lib.hid (heapB HX.out (alloc1B w2 (.cells (msC m P) 46))); have HB := Lib.hid (bel2M HB2.out (alloc1B w2 (.cells (msC m P) 46))); have m0 := rowCell HBX.out 0 (.int .i64 m.k) rfl; have m1 := rowCell HBX.out 1 (.int .i64 m.v) rfl; have m2 := rowCell HBX.out 2 (.int .i64 m.s) rfl; have m3 := rowCell HBX.out 3 (.int .i64 m.c) rfl; have m4 := rowCell HBX.out 4 (.int .i64 m.t) rfl; have m5 := rowCell HBX.out 5 (.string (strB m.d)) rfl; have m6 := rowCell HBX.out 6 (.slice P.x.1 m.x.length P.x.2) rfl; have m7 := rowCell HBX.out 7 (.int .i64 m.r.1) rfl; have m8 := rowCell HBX.out 8 (.int .i64 m.r.2) rfl; have m9 := rowCell HBX.out 9 (.slice P.b.1 m.b.length P.b.2) rfl; have m10 := rowCell HBX.out 10 (.slice P.p.1 m.p.length P.p.2) rfl; have m11 := rowCell HBX.out 11 (.slice P.q.1 m.q.length P.q.2) rfl; clear hb hk))
        | (refine wpList_storeAll rfl 46 _ _ rfl (w.heap.size + 1) _ _ rfl rfl HX.out rfl (by kernel_rfl) (by kernel_rfl) ?_; intro w9 hz hh ho; have HY := Lib.hid hh; have HB9 := Lib.hid (onlyBelow HB.out ho (by omega) (Nat.le_refl _)); have HO9 := Lib.hid ho; clear hz hh ho))
      refine bodyPost_ret (results_cell2 rfl _ _ (w.heap.size + 1) 46 _ (0, 0) _ rfl HY.out Tryz.underlying46 rfl (by kernel_rfl)) rfl ?_
      exact decN0 w _ 120 HB9.out
  · have hX : openX x d kind = (msg0, x) := by unfold openX; rw [if_neg h0]
    rw [hX]
    have hq : (x != 0) = true := by simpa using h0
    go_enter Tryz.func109, Tryz.ntmps109
    go_upto_region 1 with fail
    generalize hw0 : (w.alloc _).alloc _ = w0 at *
    have HR := Lib.hid x1
    have HX := Lib.hid x2
    have HB := Lib.hid x3
    clear x1 x2 x3 hw0
    go_wp2_with (first
      | (go_at_call 134; refine (HC.out _ HB.out).mono ?_; rintro e w1 ⟨rfl, hb⟩; have HR := Lib.hid (heapB HR.out hb); have HX := Lib.hid (heapB HX.out hb); have r0 := rowCell HR.out 0 (.int .i64 e.1) rfl; have r1 := rowCell HR.out 1 (.slice BA e.2.length bc0) rfl; have HB := Lib.hid (bel2M HB.out hb); clear hb)
      | (refine wpList_load_mid rfl 35 _ rfl w.heap.size 0 rfl _ _ (heap_all HR.out) Tryz.underlying35 rfl (by kernel_rfl) ?_)
      | (refine wpList_storeAll rfl 46 _ _ rfl (w.heap.size + 1) _ _ rfl rfl HX.out rfl (by kernel_rfl) (by kernel_rfl) ?_; intro w9 hz hh ho; have HY := Lib.hid hh; have HB9 := Lib.hid (onlyBelow HB.out ho (by omega) (Nat.le_refl _)); have HO9 := Lib.hid ho; clear hz hh ho))
    refine bodyPost_ret (results_cell2 rfl _ _ (w.heap.size + 1) 46 _ (0, 0) _ rfl HY.out Tryz.underlying46 rfl (by kernel_rfl)) rfl ?_
    exact decN0 w _ x HB9.out

abbrev SEv (w0 : World) (b : Nat) (s : Int) : World → Prop := fun W => Below w0.heap.size w0 W ∧ W.cell? ⟨b, 0, none⟩ = some (.int .i64 s)
theorem wellE_any (e : Int × List UInt8) (bv : Value) (w : World) : Calls Tryz.prog 210 #[agE e.1 bv] w (Ans (.bool (wellE e)) w) := by
  obtain ⟨s, l⟩ := e
  unfold wellE
  simp only
  have x1 := heap_alloc_new w (.cells #[.int .i64 s, bv] 35)
  have hb0 := alloc1B w (.cells #[.int .i64 s, bv] 35)
  have HN := Lib.hid (fun n W => numbersFrom_any n W)
  have HAL := Lib.hid (fun b n W => gAllow_any b n W)
  go_enter Tryz.func210, Tryz.ntmps210
  go_upto_region 1 with fail
  generalize hw0 : w.alloc _ = w0 at *
  have HK := Lib.hid (show ∀ W, Below w0.heap.size w0 W → SEv w0 w.heap.size s W from fun W h => ⟨h, cellB (rowCell x1 0 _ rfl) h⟩)
  have HB0 := Lib.hid hb0
  have HD := Lib.hid (show Below w0.heap.size w0 w0.drew from (Below.refl _ _).drew)
  clear x1 hb0 hw0
  go_region_held3 (SEv w0 w.heap.size s) (first | exact HK.out _ HD.out | exact HK.out _ HB1.out | exact HK.out _ HB2.out) (first
    | (go_at_call 206; refine (HN.out _ _).mono ?_; rintro e w1 ⟨rfl, hb⟩; have HB1 := Lib.hid (bel2M HD.out hb); clear hb)
    | (go_at_call 208; refine (HAL.out _ _ _).mono ?_; rintro e w2 ⟨rfl, hb⟩; have HB2 := Lib.hid (bel2M HB1.out hb); clear hb))
  go_wp2
  go_ret
  exact ⟨rfl, bel2M HB0.out HB2.out⟩
theorem env_open {w : World} {A : Option Addr} {c : Nat} {l : List (Int × List UInt8)} (h : EnvK w A c l) (k : Nat) (hk : k < l.length) : ∃ ad bv, A = some ad ∧ ad.block < w.heap.size ∧ w.cell? (ad.add (k * 2)) = some (.int .i64 l[k].1) ∧ w.cell? ⟨(ad.add (k * 2)).block, (ad.add (k * 2)).off + 1, none⟩ = some bv ∧ Bs w bv l[k].2 := by
  obtain ⟨ad, e1, e2, e3, bv, e4, e5⟩ := h.2.2.2 k hk
  exact ⟨ad, bv, e1, e2, e3, e4, e5⟩
theorem all_take_all {α : Type} {P : α → Bool} {l : List α} (h : ∀ j (hj : j < l.length), P l[j] = true) : l.all P = true := by
  rw [List.all_eq_true]
  intro x hx
  obtain ⟨j, hj, rfl⟩ := List.getElem_of_mem hx
  exact h j hj
theorem all_take_no {α : Type} {P : α → Bool} {l : List α} (j : Nat) (hj : j < l.length) (h : P l[j] = false) : l.all P = false := by
  rw [List.all_eq_false]
  exact ⟨_, List.getElem_mem hj, by rw [h]; decide⟩
set_option maxHeartbeats 1000000 in
theorem eachE_any (A : Option Addr) (c : Nat) (l : List (Int × List UInt8)) (b : Int × Int) (w : World) (h : EnvK w A c l) : Calls Tryz.prog 209 #[.slice A l.length c, agBd b, .func (Fn.func 210) #[] #[]] w (Ans (.bool (eachE l b)) w) := by
  have hm : l.length ≤ 9223372036854775807 := by have h1 := h.1; have h2 := h.2.1; unfold maxLen at h2; omega
  unfold eachE
  have HAL := Lib.hid (fun b n W => gAllow_any b n W)
  have HW := Lib.hid (fun e bv W => wellE_any e bv W)
  have HX := Lib.hid (fun k hk => env_open h k hk)
  have hb0 := alloc1B w (.cells #[.int .i64 b.1, .int .i64 b.2] 234)
  have HB0 := Lib.hid hb0
  clear h hb0
  cases ha : allowB b (l.length : Nat)
  · go_enter Tryz.func209, Tryz.ntmps209
    go_wp2_with (go_at_call 208; refine (HAL.out _ _ _).mono ?_; rintro e w1 ⟨rfl, hb⟩; have HB1 := Lib.hid (bel2M HB0.out hb); rw [ha]; clear hb)
    go_ret
    exact ⟨rfl, HB1.out⟩
  · go_enter Tryz.func209, Tryz.ntmps209
    go_wp2_with (go_at_call 208; refine (HAL.out _ _ _).mono ?_; rintro e w1 ⟨rfl, hb⟩; have HB1 := Lib.hid (bel2M HB0.out hb); rw [ha]; clear hb)
    go_loopw [16] (fun i wr => ∃ k : Nat, k ≤ l.length ∧ i = .int .i64 k ∧ Below w.heap.size w wr ∧ ∀ j (hj : j < l.length), j < k → wellE l[j] = true) (fun i _ => l.length - (intOf i).toNat)
    case atStart => exact ⟨0, Nat.zero_le _, rfl, HB1.out, fun j _ hj => absurd hj (Nat.not_lt_zero _)⟩
    case round =>
      obtain ⟨k, hk, rfl, hb, hall⟩ := hrel
      have HB := Lib.hid hb
      have HA := Lib.hid hall
      clear hb hall HB1
      by_cases hlt : k < l.length
      · have hltI : (k : Int) < (l.length : Int) := by omega
        obtain ⟨ad, bv, rfl, hbl, h1, h2, hbv⟩ := HX.out k hlt
        obtain ⟨BA, bc, rfl, -⟩ := hbv.open
        clear hbv
        have c1 := (HB.out.cell (p := ad.add (k * 2)) (by rw [block_add]; exact hbl)).trans h1
        have c2 := (HB.out.cell (p := ⟨(ad.add (k * 2)).block, (ad.add (k * 2)).off + 1, none⟩) (by rw [block_add]; exact hbl)).trans h2
        generalize hx : l[k] = x at h1 h2 c1 c2
        have HXX := Lib.hid hx
        have hq : ∃ q, wellE x = q := ⟨_, rfl⟩
        obtain ⟨q, hq⟩ := hq
        have HC := Lib.hid (fun W => show Calls Tryz.prog 210 #[.agg #[.int .i64 x.1, .slice BA x.2.length bc]] W (Ans (.bool q) W) from by have := HW.out x (.slice BA x.2.length bc) W; rw [hq] at this; exact this)
        have HQ := Lib.hid (show wellE l[k] = q by rw [hx]; exact hq)
        have HLT := Lib.hid hlt
        clear h1 h2 hq hx HXX
        generalize x.1 = s at *
        generalize x.2.length = bn at *
        cases q
        · go_wp2_with (go_at_call 210; refine (HC.out _).mono ?_; rintro e w3 ⟨rfl, hb⟩; have HB3 := Lib.hid (bel2M (bel2M HB.out (alloc1B _ _)) hb); clear hb)
          go_ret
          exact ⟨ret_bool (by rw [all_take_no k HLT.out HQ.out]; rfl), HB3.out⟩
        · go_wp2_with (go_at_call 210; refine (HC.out _).mono ?_; rintro e w3 ⟨rfl, hb⟩; have HB3 := Lib.hid (bel2M (bel2M HB.out (alloc1B _ _)) hb); clear hb)
          go_roundw
          case rel =>
            refine ⟨k + 1, by have := HLT.out; omega, by go_num, HB3.out, fun j hj hj1 => ?_⟩
            by_cases hjk : j < k
            · exact HA.out j hj hjk
            · obtain rfl : j = k := by omega
              exact HQ.out
          case measure => simp [intOf]; have := HLT.out; omega
      · obtain rfl : k = l.length := by omega
        have hltI : ¬ (l.length : Int) < (l.length : Int) := by omega
        go_wp2
        go_ret
        exact ⟨ret_bool (by rw [all_take_all (fun j hj => HA.out j hj hj)]), HB.out⟩
abbrev agCt (s : Int) (bv : Value) (A : Option Addr) (n c : Nat) : Value := .agg #[.int .i64 s, bv, .slice A n c]
abbrev SCt (w0 : World) (b : Nat) (s : Int) (bv v : Value) : World → Prop := fun W => Below w0.heap.size w0 W ∧ W.cell? ⟨b, 0, none⟩ = some (.int .i64 s) ∧ W.cell? ⟨b, 1, none⟩ = some bv ∧ W.cell? ⟨b, 2, none⟩ = some v
set_option maxHeartbeats 1000000 in
theorem wellC_any (e : Crt) (bv : Value) (A : Option Addr) (c : Nat) (w : World) (h : EnvK w A c e.2) : Calls Tryz.prog 212 #[agCt e.1.1 bv A e.2.length c] w (Ans (.bool (wellC e)) w) := by
  have x1 := heap_alloc_new w (.cells #[.int .i64 e.1.1, bv, .slice A e.2.length c] 38)
  have hb0 := alloc1B w (.cells #[.int .i64 e.1.1, bv, .slice A e.2.length c] 38)
  have HA := Lib.hid (fun n W => gAtMost_any n W)
  have hE := fun W (hb : Below w.heap.size w W) => eachE_any A c e.2 (0, 7) W (h.below hb)
  have hW := fun W => wellE_any e.1 bv W
  unfold wellC
  generalize hq1 : wellE e.1 = q1 at *
  generalize hq2 : eachE e.2 (0, 7) = q2 at *
  have HE := Lib.hid hE
  have HW := Lib.hid hW
  clear h hE hW hq1 hq2
  generalize e.1.1 = s at *
  generalize e.2.length = n at *
  go_enter Tryz.func212, Tryz.ntmps212
  go_upto_region 1 with fail
  generalize hw0 : w.alloc _ = w0 at *
  have HK := Lib.hid (show ∀ W, Below w0.heap.size w0 W → SCt w0 w.heap.size s bv (.slice A n c) W from fun W h => ⟨h, cellB (rowCell x1 0 _ rfl) h, cellB (rowCell x1 1 _ rfl) h, cellB (rowCell x1 2 _ rfl) h⟩)
  have HB0 := Lib.hid hb0
  have HD := Lib.hid (show Below w0.heap.size w0 w0.drew from (Below.refl _ _).drew)
  clear hb0 hw0
  cases q1
  · skip -- FALSE-BRANCH
    refine wp_region_held_drew (S := SCt w0 w.heap.size s bv (.slice A n c)) (by kernel_rfl) (HK.out _ HD.out) (fun hHeld => ?_)
    refine tk 0 ?_
    (try simp only [Act.put, sA, sB, sC])
    refine tk 1 ?_
    (try simp only [Act.put, sA, sB, sC])
    refine wpAnyH_ready (rs := [2]) (by kernel_rfl) (by simp) ?_
    refine AllReadyH.cons (o := ?o3) ?g3 (fun K hK => ?j3) AllReadyH.nil
    case g3 => (simp only [gA, gB, gC]; rfl)
    go_simp
    refine (HW.out _).mono ?_
    rintro e w1 ⟨rfl, hb⟩
    have HB1 := Lib.hid (bel2M HD.out hb)
    clear hb
    refine hK.out _ _ ?_ (fun hHeld => ?_)
    · (try dsimp only); exact HK.out _ HB1.out
    clear hK K
    (try simp only [Act.put, sA, sB, sC])
    refine tk 3 ?_
    (try simp only [Act.put, sA, sB, sC])
    refine sk 4 ?_
    (try simp only [Act.put, sA, sB, sC])
    refine sk 5 ?_
    (try simp only [Act.put, sA, sB, sC])
    refine sk 6 ?_
    (try simp only [Act.put, sA, sB, sC])
    refine sk 7 ?_
    (try simp only [Act.put, sA, sB, sC])
    refine tk 8 ?_
    (try simp only [Act.put, sA, sB, sC])
    refine tk 9 ?_
    (try simp only [Act.put, sA, sB, sC])
    refine wpAnyH_done (by kernel_rfl) ?_ _
    go_wp2
    go_ret
    exact ⟨rfl, bel2M HB0.out HB1.out⟩
  · go_region_held3 (SCt w0 w.heap.size s bv (.slice A n c)) (first | exact HK.out _ HD.out | exact HK.out _ HB1.out | exact HK.out _ HB2.out | exact HK.out _ HB3.out) (first
      | (go_at_call 210; refine (HW.out _).mono ?_; rintro e w1 ⟨rfl, hb⟩; have HB1 := Lib.hid (bel2M HD.out hb); clear hb)
      | (go_at_call 205; refine (HA.out _ _).mono ?_; rintro e w2 ⟨rfl, hb⟩; have HB2 := Lib.hid (bel2M HB1.out hb); clear hb)
      | (go_at_call 209; refine (HE.out _ (bel2M HB0.out HB2.out)).mono ?_; rintro e w3 ⟨rfl, hb⟩; have HB3 := Lib.hid (bel2M HB2.out hb); clear hb))
    go_wp2
    go_ret
    exact ⟨rfl, bel2M HB0.out HB3.out⟩
theorem crt_open {w : World} {A : Option Addr} {c : Nat} {l : List Crt} (h : CrtK w A c l) (k : Nat) (hk : k < l.length) : ∃ ad bv VA vc, A = some ad ∧ ad.block < w.heap.size ∧ w.cell? (ad.add (k * 3)) = some (.int .i64 l[k].1.1) ∧ w.cell? ⟨(ad.add (k * 3)).block, (ad.add (k * 3)).off + 1, none⟩ = some bv ∧ Bs w bv l[k].1.2 ∧
    w.cell? ⟨(ad.add (k * 3)).block, (ad.add (k * 3)).off + 2, none⟩ = some (.slice VA l[k].2.length vc) ∧ EnvK w VA vc l[k].2 := by
  obtain ⟨ad, e1, e2, ⟨e3, bv, e4, e5⟩, VA, vc, e6, e7⟩ := h.2.2.2 k hk
  exact ⟨ad, bv, VA, vc, e1, e2, e3, e4, e5, e6, e7⟩
set_option maxHeartbeats 1000000 in
theorem eachC_any (A : Option Addr) (c : Nat) (l : List Crt) (b : Int × Int) (w : World) (h : CrtK w A c l) : Calls Tryz.prog 211 #[.slice A l.length c, agBd b, .func (Fn.func 212) #[] #[]] w (Ans (.bool (eachC l b)) w) := by
  have hm : l.length ≤ 9223372036854775807 := by have h1 := h.1; have h2 := h.2.1; unfold maxLen at h2; omega
  unfold eachC
  have HAL := Lib.hid (fun b n W => gAllow_any b n W)
  have HW := Lib.hid (fun e bv VA vc W h => wellC_any e bv VA vc W h)
  have HX := Lib.hid (fun k hk => crt_open h k hk)
  have hb0 := alloc1B w (.cells #[.int .i64 b.1, .int .i64 b.2] 234)
  have HB0 := Lib.hid hb0
  clear h hb0
  cases ha : allowB b (l.length : Nat)
  · go_enter Tryz.func211, Tryz.ntmps211
    go_wp2_with (go_at_call 208; refine (HAL.out _ _ _).mono ?_; rintro e w1 ⟨rfl, hb⟩; have HB1 := Lib.hid (bel2M HB0.out hb); rw [ha]; clear hb)
    go_ret
    exact ⟨rfl, HB1.out⟩
  · go_enter Tryz.func211, Tryz.ntmps211
    go_wp2_with (go_at_call 208; refine (HAL.out _ _ _).mono ?_; rintro e w1 ⟨rfl, hb⟩; have HB1 := Lib.hid (bel2M HB0.out hb); rw [ha]; clear hb)
    go_loopw [16] (fun i wr => ∃ k : Nat, k ≤ l.length ∧ i = .int .i64 k ∧ Below w.heap.size w wr ∧ ∀ j (hj : j < l.length), j < k → wellC l[j] = true) (fun i _ => l.length - (intOf i).toNat)
    case atStart => exact ⟨0, Nat.zero_le _, rfl, HB1.out, fun j _ hj => absurd hj (Nat.not_lt_zero _)⟩
    case round =>
      obtain ⟨k, hk, rfl, hb, hall⟩ := hrel
      have HB := Lib.hid hb
      have HA := Lib.hid hall
      clear hb hall HB1
      by_cases hlt : k < l.length
      · have hltI : (k : Int) < (l.length : Int) := by omega
        obtain ⟨ad, bv, VA, vc, rfl, hbl, h1, h2, hbv, h3, h4⟩ := HX.out k hlt
        obtain ⟨BA, bc, rfl, -⟩ := hbv.open
        clear hbv
        have c1 := (HB.out.cell (p := ad.add (k * 3)) (by rw [block_add]; exact hbl)).trans h1
        have c2 := (HB.out.cell (p := ⟨(ad.add (k * 3)).block, (ad.add (k * 3)).off + 1, none⟩) (by rw [block_add]; exact hbl)).trans h2
        have c3 := (HB.out.cell (p := ⟨(ad.add (k * 3)).block, (ad.add (k * 3)).off + 2, none⟩) (by rw [block_add]; exact hbl)).trans h3
        generalize hx : l[k] = x at h1 h2 h3 h4 c1 c2 c3
        have HXX := Lib.hid hx
        have hq : ∃ q, wellC x = q := ⟨_, rfl⟩
        obtain ⟨q, hq⟩ := hq
        have HC := Lib.hid (fun W (hb : Below w.heap.size w W) => show Calls Tryz.prog 212 #[.agg #[.int .i64 x.1.1, .slice BA x.1.2.length bc, .slice VA x.2.length vc]] W (Ans (.bool q) W) from by have := HW.out x (.slice BA x.1.2.length bc) VA vc W (h4.below hb); rw [hq] at this; exact this)
        have HQ := Lib.hid (show wellC l[k] = q by rw [hx]; exact hq)
        have HLT := Lib.hid hlt
        clear h1 h2 h3 h4 hq hx HXX
        generalize x.1.1 = s at *
        generalize x.1.2.length = bn at *
        generalize x.2.length = vn at *
        cases q
        · go_wp2_with (go_at_call 212; refine (HC.out _ (bel2M HB.out (alloc1B _ _))).mono ?_; rintro e w3 ⟨rfl, hb⟩; have HB3 := Lib.hid (bel2M (bel2M HB.out (alloc1B _ _)) hb); clear hb)
          go_ret
          exact ⟨ret_bool (by rw [all_take_no k HLT.out HQ.out]; rfl), HB3.out⟩
        · go_wp2_with (go_at_call 212; refine (HC.out _ (bel2M HB.out (alloc1B _ _))).mono ?_; rintro e w3 ⟨rfl, hb⟩; have HB3 := Lib.hid (bel2M (bel2M HB.out (alloc1B _ _)) hb); clear hb)
          go_roundw
          case rel =>
            refine ⟨k + 1, by have := HLT.out; omega, by go_num, HB3.out, fun j hj hj1 => ?_⟩
            by_cases hjk : j < k
            · exact HA.out j hj hjk
            · obtain rfl : j = k := by omega
              exact HQ.out
          case measure => simp [intOf]; have := HLT.out; omega
      · obtain rfl : k = l.length := by omega
        have hltI : ¬ (l.length : Int) < (l.length : Int) := by omega
        go_wp2
        go_ret
        exact ⟨ret_bool (by rw [all_take_all (fun j hj => HA.out j hj hj)]), HB.out⟩

end Go.Proofs.YticfnjihjpgneaaGreat

namespace Go.Proofs.YticfnjihjpgneaaGreat
set_option linter.unusedVariables false

def cntP (f : Int) (l : List Int) : Nat := (List.range (3 * f + 1).toNat).countP fun r : Nat => decide ((r : Int) ∈ l)
theorem cnt_range (l : List Int) (x : Int) : ∀ n : Nat, (List.range n).countP (fun r : Nat => decide ((r : Int) ∈ l ++ [x])) = (List.range n).countP (fun r : Nat => decide ((r : Int) ∈ l)) + if 0 ≤ x ∧ x < n ∧ x ∉ l then 1 else 0
  | 0 => by
    have : ¬ (0 ≤ x ∧ x < ((0 : Nat) : Int) ∧ x ∉ l) := by omega
    rw [if_neg this]; rfl
  | n + 1 => by
    rw [List.range_succ, List.countP_append, List.countP_append, cnt_range l x n, List.countP_singleton, List.countP_singleton]
    by_cases hx : x = n
    · subst hx
      by_cases hm : ((n : Int)) ∈ l
      · simp [hm]
      · have h1 : ¬ (0 ≤ (n : Int) ∧ (n : Int) < (n : Int) ∧ (n : Int) ∉ l) := by omega
        have h2 : 0 ≤ (n : Int) ∧ (n : Int) < ((n + 1 : Nat) : Int) ∧ (n : Int) ∉ l := ⟨by omega, by omega, hm⟩
        rw [if_neg h1, if_pos h2]
        simp [hm]
    · have h1 : (n : Int) ≠ x := fun e => hx e.symm
      have h2 : (decide ((n : Int) ∈ l ++ [x])) = decide ((n : Int) ∈ l) := by simp [h1]
      have h3 : (0 ≤ x ∧ x < ((n + 1 : Nat) : Int) ∧ x ∉ l) ↔ (0 ≤ x ∧ x < (n : Int) ∧ x ∉ l) := by
        constructor
        · rintro ⟨a, b, c⟩; exact ⟨a, by omega, c⟩
        · rintro ⟨a, b, c⟩; exact ⟨a, by omega, c⟩
      rw [h2]
      simp only [h3]
      omega

theorem cnt_snoc (f : Int) (hf : 0 ≤ f) (l : List Int) (x : Int) : cntP f (l ++ [x]) = cntP f l + if (repB f x && !decide (x ∈ l)) = true then 1 else 0 := by
  unfold cntP
  rw [cnt_range l x]
  congr 1
  have e : (((3 * f + 1).toNat : Nat) : Int) = 3 * f + 1 := by omega
  rw [e]
  unfold repB
  by_cases h : 0 ≤ x ∧ x < 3 * f + 1 ∧ x ∉ l
  · rw [if_pos h, if_pos (by simp [h.1, h.2.1, h.2.2])]
  · rw [if_neg h, if_neg (by simp only [Bool.and_eq_true, decide_eq_true_eq, Bool.not_eq_true', decide_eq_false_iff_not]; exact fun h' => h ⟨h'.1.1, h'.1.2, h'.2⟩)]
theorem cnt_nil (f : Int) : cntP f [] = 0 := by simp [cntP]
def badAt (f : Int) (l : List Int) (k : Nat) : Bool := !repB f (l.getD k 0) || decide (l.getD k 0 ∈ l.take k)
def disE (f : Int) (l : List Int) : Int := match (List.range l.length).find? (badAt f l) with
  | none => 0
  | some k => if repB f (l.getD k 0) = true then 33 else 30
theorem disE_ok {f : Int} {l : List Int} (h : ∀ j, j < l.length → badAt f l j = false) : disE f l = 0 := by
  unfold disE
  rw [List.find?_range_eq_none.2 (fun j hj => by rw [h j hj]; rfl)]
theorem disE_at {f : Int} {l : List Int} {k : Nat} (hk : k < l.length) (h : ∀ j, j < k → badAt f l j = false) (hb : badAt f l k = true) : disE f l = if repB f l[k] = true then 33 else 30 := by
  unfold disE
  rw [List.find?_range_eq_some.2 ⟨hb, List.mem_range.2 hk, fun j hj => by rw [h j hj]; rfl⟩]
  simp [hk]
theorem disE_zero {f : Int} {l : List Int} (h : disE f l = 0) : ∀ j, j < l.length → badAt f l j = false := by
  intro j hj
  rcases hb : badAt f l j with _ | _
  · rfl
  · exfalso
    rcases hfi : (List.range l.length).find? (badAt f l) with _ | k
    · have := List.find?_range_eq_none.1 hfi j hj
      rw [hb] at this; cases this
    · unfold disE at h
      rw [hfi] at h
      simp only at h
      split at h <;> omega
theorem disE_cnt {f : Int} (hf : 0 ≤ f) {l : List Int} (h : disE f l = 0) : cntP f l = l.length := by
  have hz := disE_zero h
  have : ∀ k, k ≤ l.length → cntP f (l.take k) = k := by
    intro k
    induction k with
    | zero => intro _; simp [cnt_nil]
    | succ k ih =>
      intro hk
      have hb := hz k (by omega)
      unfold badAt at hb
      simp only [Bool.or_eq_false_iff, Bool.not_eq_false', decide_eq_false_iff_not] at hb
      have e : l.getD k 0 = l[k] := by simp [show k < l.length by omega]
      rw [e] at hb
      rw [List.take_succ_eq_append_getElem (by omega), cnt_snoc f hf, ih (by omega), hb.1]
      simp [hb.2]
  have := this l.length (Nat.le_refl _)
  rwa [List.take_length] at this

theorem count_both (p q : Nat → Bool) (R : List Nat) : R.countP p + R.countP q ≤ R.countP (fun r => p r && q r) + R.length := by
  induction R with
  | nil => simp
  | cons r R ih =>
    simp only [List.countP_cons, List.length_cons]
    cases p r <;> cases q r <;> simp <;> omega
theorem cnt_both (f : Int) (l m : List Int) : cntP f l + cntP f m ≤ cntP f (l.filter fun x => decide (x ∈ m)) + (3 * f + 1).toNat := by
  have h := count_both (fun r : Nat => decide ((r : Int) ∈ l)) (fun r : Nat => decide ((r : Int) ∈ m)) (List.range (3 * f + 1).toNat)
  rw [List.length_range] at h
  have e : (fun r : Nat => decide ((r : Int) ∈ l.filter fun x => decide (x ∈ m))) = fun r : Nat => decide ((r : Int) ∈ l) && decide ((r : Int) ∈ m) := by
    funext r
    rw [← Bool.decide_and]
    congr 1
    simp
  unfold cntP
  rw [e]
  exact h

end Go.Proofs.YticfnjihjpgneaaGreat

namespace Go.Proofs.YticfnjihjpgneaaGreat
open Go.RowKit
set_option linter.unusedVariables false
set_option linter.unusedSimpArgs false
set_option maxRecDepth 20000

theorem intinfo : (Tryz.prog.info? 3).map (fun i => (i.zero, i.size, i.bytes)) = some (some (.int .i64 0), 1, 8) := by kernel_rfl

def ic (x : Int) : Value := .int .i64 x
def Ns (w : World) (v : Value) (l : List Int) : Prop := Rd w v (l.map ic)
theorem Ns.below {w w' : World} {v : Value} {l : List Int} {B : Nat} (h : Ns w v l) (hb : Below B w w') (hB : w.heap.size ≤ B) : Ns w' v l := Rd.below h hb hB
theorem Ns.drewN {w : World} {v : Value} {l : List Int} (h : Ns w v l) (n : Nat) : Ns (w.drewN n) v l := h
theorem Ns.nil (w : World) : Ns w (.slice none 0 0) [] := Rd.nil w
theorem Ns.open {w : World} {v : Value} {l : List Int} (h : Ns w v l) : ∃ A c, v = .slice A l.length c ∧ l.length ≤ c ∧ c ≤ maxLen ∧ (∀ k (hk : k < l.length), ∃ ad, A = some ad ∧ w.cell? (ad.add k) = some (.int .i64 l[k])) := by
  obtain ⟨A, c, hv, hc, hm, hn, hx⟩ := h
  rw [List.length_map] at hv hc
  refine ⟨A, c, hv, hc, hm, fun k hk => ?_⟩
  obtain ⟨ad, ha, hb, hr⟩ := hx (by intro e; have := congrArg List.length e; simp at this; subst this; simp at hk)
  exact ⟨ad, ha, hr k _ (by simp [hk, ic])⟩

theorem mem_take {l : List Int} {x : Int} {k : Nat} (hlt : k < l.length) : x ∈ l.take (k + 1) ↔ x ∈ l.take k ∨ x = l[k] := by
  rw [List.take_succ_eq_append_getElem hlt, List.mem_append, List.mem_singleton]

def Where (x : Int) (l : List Int) (w : World) (e : Ending) (w' : World) : Prop := ∃ n : Int, e = .returned (.int .i64 n) ∧ (decide (0 ≤ n) = decide (x ∈ l)) ∧ w' = w

set_option maxHeartbeats 1000000 in
theorem Index_any (v : Value) (l : List Int) (x : Int) (w : World) (h : Ns w v l) : Calls Tryz.prog 118 #[v, .int .i64 x] w (Where x l w) := by
  obtain ⟨A, c, rfl, hc, hm, hx⟩ := h.open
  have hll : l.length ≤ 9223372036854775807 := by have := hm; unfold maxLen at this; omega
  have HX := Lib.hid hx
  clear h hx hc hm
  go_enter Tryz.func118, Tryz.ntmps118
  go_wp2
  go_loop [8] (fun i => ∃ k : Nat, k ≤ l.length ∧ i = .int .i64 k ∧ x ∉ l.take k) (fun i => l.length - (intOf i).toNat)
  case atStart => exact ⟨0, Nat.zero_le _, rfl, by simp⟩
  case round =>
    obtain ⟨k, hk, rfl, hall⟩ := hrel
    have HALL := Lib.hid hall
    clear hall
    by_cases hlt : k < l.length
    · obtain ⟨ad, rfl, hcell⟩ := HX.out k hlt
      by_cases he : x = l[k]
      · go_wp2
        go_ret
        exact ⟨_, rfl, by simp, rfl⟩
      · have HN := Lib.hid (show x ∉ l.take (k + 1) from fun hi => by rcases (mem_take hlt).1 hi with hi | hi; exact HALL.out hi; exact he hi)
        go_wp2
        go_round
        case rel => exact ⟨k + 1, by omega, by go_num, HN.out⟩
        case measure => simp [intOf]; omega
    · obtain rfl : k = l.length := by omega
      have HIN := Lib.hid (show decide ((0 : Int) ≤ (-1 : Int)) = decide (x ∈ l) by have := HALL.out; rw [List.take_length] at this; simp [this])
      go_wp2
      go_ret
      exact ⟨_, rfl, HIN.out, rfl⟩

theorem Contains_any (v : Value) (l : List Int) (x : Int) (w : World) (h : Ns w v l) : Calls Tryz.prog 60 #[v, .int .i64 x] w (Says (.bool (decide (x ∈ l))) w) := by
  go_enter Tryz.func60, Tryz.ntmps60
  go_wp2_with (first
    | (go_at_call 118; refine (Index_any v l x _ h).mono ?_; rintro e w' ⟨n, rfl, hn, rfl⟩))
  go_ret
  exact ⟨rfl, rfl⟩

def cntK (l : List Int) (k : Nat) : Nat := (List.range k).countP fun r : Nat => decide ((r : Int) ∈ l)
theorem cntK_succ (l : List Int) (k : Nat) : cntK l (k + 1) = cntK l k + if decide ((k : Int) ∈ l) = true then 1 else 0 := by
  unfold cntK
  rw [List.range_succ, List.countP_append, List.countP_singleton]
theorem cntK_le (l : List Int) (k : Nat) : cntK l k ≤ k := by
  have := List.countP_le_length (p := fun r : Nat => decide ((r : Int) ∈ l)) (l := List.range k)
  rwa [List.length_range] at this

set_option maxHeartbeats 1000000 in
theorem auCount_any (g bm : Nat) (f c : Int) (v : Value) (l : List Int) (w : World) (h : AuH w g bm f c) (hv : Ns w v l) :
    Calls Tryz.prog 20 #[.pointer (some ⟨g, 0, none⟩), v] w (Says (.int .i64 (cntP f l)) w) := by
  obtain ⟨n, hn⟩ : ∃ n : Nat, 3 * f + 1 = n := ⟨(3 * f + 1).toNat, by have := h.2.1; omega⟩
  have hn7 : n ≤ 7 := by have := h.2.2.1; omega
  have hcn : cntP f l = cntK l n := by unfold cntP cntK; rw [hn]; rfl
  have hN := N_any h
  rw [hn] at hN
  rw [hcn]
  have HN := Lib.hid hN
  have HCO := Lib.hid (fun x : Int => Contains_any v l x w hv)
  clear hN hn hcn h hv
  go_enter Tryz.func20, Tryz.ntmps20
  go_wp2_with (first
    | (go_at_call 25; refine HN.out.mono ?_; rintro e w' ⟨rfl, rfl⟩))
  go_loop [5, 9] (fun m i => ∃ k : Nat, k ≤ n ∧ i = .int .i64 k ∧ m = .int .i64 (cntK l k)) (fun _ i => n - (intOf i).toNat)
  case atStart => exact ⟨0, Nat.zero_le _, rfl, rfl⟩
  case round =>
    obtain ⟨k, hk, rfl, rfl⟩ := hrel
    have hck := cntK_le l k
    have hcs := cntK_succ l k
    by_cases hlt : k < n
    · have hC := HCO.out k
      rcases hd : decide ((k : Int) ∈ l) with _ | _
      · rw [hd] at hC hcs
        have HC := Lib.hid hC
        have HCS := Lib.hid hcs
        clear hd hC hcs
        go_wp2_with (first
          | (go_at_call 60; refine HC.out.mono ?_; rintro e w' ⟨rfl, rfl⟩))
        go_round
        case rel => exact ⟨k + 1, by omega, by go_num, by rw [HCS.out]; simp⟩
        case measure => simp [intOf]; omega
      · rw [hd] at hC hcs
        have HC := Lib.hid hC
        have HCS := Lib.hid hcs
        clear hd hC hcs
        go_wp2_with (first
          | (go_at_call 60; refine HC.out.mono ?_; rintro e w' ⟨rfl, rfl⟩))
        go_round
        case rel => exact ⟨k + 1, by omega, by go_num, by rw [HCS.out]; go_num⟩
        case measure => simp [intOf]; omega
    · obtain rfl : k = n := by omega
      clear hcs
      go_wp2
      go_ret
      exact ⟨rfl, rfl⟩

theorem Es.below {w w' : World} {v : Value} {xs : List (Int × Value)} {B : Nat} (h : Es w v xs) (hb : Below B w w') (hB : w.heap.size ≤ B) : Es w' v xs := by
  obtain ⟨A, c, hv, hc, hm, hn, hx⟩ := h
  refine ⟨A, c, hv, hc, hm, hn, fun he => ?_⟩
  obtain ⟨ad, ha, hl, hr⟩ := hx he
  refine ⟨ad, ha, Nat.lt_of_lt_of_le hl hb.size, fun k hk => ⟨?_, ?_⟩⟩
  · exact (hb.cell (by rw [block_add]; omega)).trans (hr k hk).1
  · exact (hb.cell (by show (ad.add (k * 2)).block < _; rw [block_add]; omega)).trans (hr k hk).2
theorem Es.drewN {w : World} {v : Value} {xs : List (Int × Value)} (h : Es w v xs) (n : Nat) : Es (w.drewN n) v xs := h
theorem Es.open {w : World} {v : Value} {xs : List (Int × Value)} (h : Es w v xs) : ∃ A c, v = .slice A xs.length c ∧ xs.length ≤ c ∧ c ≤ maxLen ∧
    (∀ k (hk : k < xs.length), ∃ ad, A = some ad ∧ w.cell? (ad.add (k * 2)) = some (.int .i64 xs[k].1) ∧ w.cell? ⟨(ad.add (k * 2)).block, (ad.add (k * 2)).off + 1, none⟩ = some xs[k].2) := by
  obtain ⟨A, c, hv, hc, hm, hn, hx⟩ := h
  refine ⟨A, c, hv, hc, hm, fun k hk => ?_⟩
  obtain ⟨ad, ha, -, hr⟩ := hx (by rintro rfl; simp at hk)
  exact ⟨ad, ha, hr k hk⟩
theorem Es.take {w : World} {A : Option Addr} {n c : Nat} {xs : List (Int × Value)} (h : Es w (.slice A n c) xs) (k : Nat) (hk : k ≤ xs.length) : Es w (.slice A k c) (xs.take k) := by
  obtain ⟨A', c', hv, hc, hm, hn, hx⟩ := h
  injection hv with h1 h2 h3
  subst h1 h2 h3
  have e : (xs.take k).length = k := by rw [List.length_take]; omega
  refine ⟨A, c, by rw [e], by rw [e]; omega, hm, hn, fun he => ?_⟩
  obtain ⟨ad, ha, hl, hr⟩ := hx (by rintro rfl; simp at he)
  refine ⟨ad, ha, hl, fun j hj => ?_⟩
  have hj' : j < xs.length := by rw [e] at hj; omega
  rw [List.getElem_take]
  exact hr j hj'

theorem of_any (b : Nat) (s t : Int) (y : Value) (w : World) (hc : w.cell? ⟨b, 0, none⟩ = some (.int .i64 s)) (hbl : b < w.heap.size) :
    Calls Tryz.prog 179 #[.agg #[.int .i64 t, y], .pointer (some ⟨b, 0, none⟩)] w fun e w' => e = .returned (.bool (decide (t = s))) ∧ Below w.heap.size w w' := by
  have hc2 : (w.alloc (.cells #[.int .i64 t, y] 35)).cell? ⟨b, 0, none⟩ = some (.int .i64 s) := ((Below.refl w.heap.size w).alloc (Nat.le_refl _) _).cell (p := ⟨b, 0, none⟩) hbl |>.trans hc
  go_enter Tryz.func179, Tryz.ntmps179
  go_wp2
  go_ret
  exact ⟨ret_bool (by by_cases h : t = s <;> simp [h]), (Below.refl _ _).alloc (Nat.le_refl _) _⟩

def WhereF (s : Int) (l : List Int) (w : World) (e : Ending) (w' : World) : Prop := ∃ n : Int, e = .returned (.int .i64 n) ∧ (decide (0 ≤ n) = decide (s ∈ l)) ∧ Below w.heap.size w w'

theorem mem_take_map {xs : List (Int × Value)} {s : Int} {k : Nat} (hlt : k < xs.length) : s ∈ (xs.take (k + 1)).map (·.1) ↔ s ∈ (xs.take k).map (·.1) ∨ s = xs[k].1 := by
  rw [List.take_succ_eq_append_getElem hlt, List.map_append, List.mem_append, List.map_singleton, List.mem_singleton]

set_option maxHeartbeats 1000000 in
theorem IndexFunc_any (v : Value) (xs : List (Int × Value)) (b : Nat) (s : Int) (w : World) (h : Es w v xs) (hc : w.cell? ⟨b, 0, none⟩ = some (.int .i64 s)) (hbl : b < w.heap.size) :
    Calls Tryz.prog 204 #[v, .func (Fn.func 179) #[] #[.pointer (some ⟨b, 0, none⟩)]] w (WhereF s (xs.map (·.1)) w) := by
  have HV := Lib.hid h
  obtain ⟨A, c, rfl, hcc, hm, -⟩ := h.open
  have hll : xs.length ≤ 9223372036854775807 := by have := hm; unfold maxLen at this; omega
  have HC := Lib.hid hc
  clear h hcc hm hc
  go_enter Tryz.func204, Tryz.ntmps204
  go_wp2
  go_loopw [8] (fun i wr => ∃ k : Nat, k ≤ xs.length ∧ i = .int .i64 k ∧ s ∉ (xs.take k).map (·.1) ∧ Below w.heap.size w wr) (fun i _ => xs.length - (intOf i).toNat)
  case atStart => exact ⟨0, Nat.zero_le _, rfl, by simp, Below.refl _ _⟩
  case round =>
    obtain ⟨k, hk, rfl, hall, hbel⟩ := hrel
    have HALL := Lib.hid hall
    clear hall
    by_cases hlt : k < xs.length
    · obtain ⟨A', c', e, -, -, hx⟩ := (HV.out.below hbel (Nat.le_refl _)).open
      injection e with e e2 e3
      subst e
      clear e2 e3
      obtain ⟨ad, rfl, hcell, hcell2⟩ := hx k hlt
      clear hx
      have hof := of_any b s xs[k].1 xs[k].2 wr ((hbel.cell (p := ⟨b, 0, none⟩) hbl).trans HC.out) (Nat.lt_of_lt_of_le hbl hbel.size)
      rcases hd : decide (xs[k].1 = s) with _ | _
      · rw [hd] at hof
        have HOF := Lib.hid hof
        have HN := Lib.hid (show s ∉ (xs.take (k + 1)).map (·.1) from fun hi => by rcases (mem_take_map hlt).1 hi with hi | hi; exact HALL.out hi; exact (by simpa using hd : ¬ xs[k].1 = s) hi.symm)
        clear hof hd
        go_wp2_with (first
          | (go_at_call 179; refine HOF.out.mono ?_; rintro e w1 ⟨rfl, hb1⟩))
        have hB := hbel.trans (hb1.mono hbel.size)
        go_roundw
        case rel => exact ⟨k + 1, by omega, by go_num, HN.out, hB⟩
        case measure => simp [intOf]; omega
      · rw [hd] at hof
        have HOF := Lib.hid hof
        have HIN := Lib.hid (show decide (s ∈ xs.map (·.1)) = true by simp only [decide_eq_true_eq] at hd ⊢; rw [← hd]; exact List.mem_map_of_mem (List.getElem_mem hlt))
        clear hof hd
        go_wp2_with (first
          | (go_at_call 179; refine HOF.out.mono ?_; rintro e w1 ⟨rfl, hb1⟩))
        go_ret
        exact ⟨_, rfl, by rw [HIN.out]; simp, hbel.trans (hb1.mono hbel.size)⟩
    · obtain rfl : k = xs.length := by omega
      have HIN := Lib.hid (show decide ((0 : Int) ≤ (-1 : Int)) = decide (s ∈ xs.map (·.1)) by have := HALL.out; rw [List.take_length] at this; rw [decide_eq_false this]; decide)
      go_wp2
      go_ret
      exact ⟨_, rfl, HIN.out, hbel⟩

theorem ContainsFunc_any (v : Value) (xs : List (Int × Value)) (b : Nat) (s : Int) (w : World) (h : Es w v xs) (hc : w.cell? ⟨b, 0, none⟩ = some (.int .i64 s)) (hbl : b < w.heap.size) :
    Calls Tryz.prog 178 #[v, .func (Fn.func 179) #[] #[.pointer (some ⟨b, 0, none⟩)]] w fun e w' => e = .returned (.bool (decide (s ∈ xs.map (·.1)))) ∧ Below w.heap.size w w' := by
  have H := Lib.hid (IndexFunc_any v xs b s w h hc hbl)
  clear h hc hbl
  go_enter Tryz.func178, Tryz.ntmps178
  go_wp2_with (first
    | (go_at_call 204; refine H.out.mono ?_; rintro e w' ⟨n, rfl, hn, hb⟩; have HN := Lib.hid hn; clear hn))
  go_ret
  exact ⟨ret_bool HN.out, hb⟩

theorem signedBy_any (v : Value) (xs : List (Int × Value)) (s : Int) (w : World) (h : Es w v xs) :
    Calls Tryz.prog 155 #[v, .int .i64 s] w fun e w' => e = .returned (.bool (decide (s ∈ xs.map (·.1)))) ∧ Below w.heap.size w w' := by
  have hb0 : Below w.heap.size w (w.alloc (.cells #[.int .i64 s] 3)) := (Below.refl _ _).alloc (Nat.le_refl _) _
  have hc : (w.alloc (.cells #[.int .i64 s] 3)).cell? ⟨w.heap.size, 0, none⟩ = some (.int .i64 s) := (cell_of_row _ _ 0 _ 3 (0, 0) (heap_alloc_new w _)).trans rfl
  have H := Lib.hid (ContainsFunc_any v xs w.heap.size s _ (h.below hb0 (Nat.le_refl _)) hc (by simp))
  clear h hc
  go_enter Tryz.func155, Tryz.ntmps155
  go_wp2_with (first
    | (go_at_call 178; refine H.out.mono ?_; rintro e w' ⟨rfl, hb⟩))
  go_ret
  exact ⟨rfl, hb0.trans (hb.mono hb0.size)⟩

theorem run_front (A : Option Addr) (L c k : Nat) (h : k ≤ c) (w : World) : (Instr.slice 36 (.slice A L c) none (some (.int .i64 (k : Int))) none).run Tryz.prog w = .ok (.slice A k c) w := by
  have hz : (sizeOf (Tryz.prog.elem 36)).run Tryz.prog w = .ok 2 w := by rfl
  rw [run_slice_h (P := Tryz.prog) w 36 A L c Tryz.underlying36 .i64 (k : Int) (by omega) (by omega), hz]
  simp only [Result.andThen, sliced, Int.toNat_natCast, Nat.sub_zero, Nat.zero_mul]
  cases A with
  | none => simp
  | some ad =>
    by_cases hc : c = 0
    · simp [hc]
    · simp [hc, Addr.add_zero']

set_option maxHeartbeats 1000000 in
theorem Distinct_any (g bm : Nat) (f c : Int) (v : Value) (xs : List (Int × Value)) (w : World) (h : AuH w g bm f c) (hv : Es w v xs) (hsv : ∀ p ∈ xs, ∃ A n c, p.2 = .slice A n c) :
    Calls Tryz.prog 117 #[.pointer (some ⟨g, 0, none⟩), v] w fun e w' => e = .returned (.int .i64 (disE f (xs.map (·.1)))) ∧ Below w.heap.size w w' := by
  have HV := Lib.hid hv
  have HSV := Lib.hid hsv
  have H := Lib.hid h
  obtain ⟨A, cc, rfl, hcc, hm, -⟩ := hv.open
  have hll : xs.length ≤ 9223372036854775807 := by have := hm; unfold maxLen at this; omega
  have hzl : (xs.map (·.1)).length = xs.length := List.length_map _
  have HZL := Lib.hid hzl
  have HCC := Lib.hid hcc
  have hsl := fun (k : Nat) (hk : k ≤ cc) => run_front A xs.length cc k hk
  have HSL := Lib.hid hsl
  clear h hv hm hzl hsl hcc hsv
  go_enter Tryz.func117, Tryz.ntmps117
  go_wp2
  go_loopw [9] (fun i wr => ∃ k : Nat, k ≤ xs.length ∧ i = .int .i64 k ∧ (∀ j, j < k → badAt f (xs.map (·.1)) j = false) ∧ Below w.heap.size w wr) (fun i _ => xs.length - (intOf i).toNat)
  case atStart => exact ⟨0, Nat.zero_le _, rfl, by intro j hj; omega, Below.refl _ _⟩
  case round =>
    obtain ⟨k, hk, rfl, hall, hbel⟩ := hrel
    have HALL := Lib.hid hall
    clear hall
    by_cases hlt : k < xs.length
    · obtain ⟨A', c', e, -, -, hx⟩ := (HV.out.below hbel (Nat.le_refl _)).open
      injection e with e e2 e3
      subst e
      clear e2 e3
      obtain ⟨ad, rfl, hcell, hcell2⟩ := hx k hlt
      clear hx
      obtain ⟨Ax, nx, cx, hbx⟩ := HSV.out _ (List.getElem_mem hlt)
      rw [hbx] at hcell2
      clear hbx
      have hsk := HSL.out k (by have := HCC.out; omega)
      have hb0 : ∀ o, Below w.heap.size w (wr.alloc o) := fun o => hbel.alloc hbel.size o
      have hR := Replica_any (w := wr.alloc (.cells #[.int .i64 xs[k].1, (.slice Ax nx cx)] 35)) (H.out.below (hb0 _) (Nat.le_refl _)) xs[k].1
      have hgd : (xs.map (·.1)).getD k 0 = xs[k].1 := by simp [hlt]
      rcases hr : repB f xs[k].1 with _ | _
      · rw [hr] at hR
        have hres : disE f (xs.map (·.1)) = 30 := by
          rw [disE_at (k := k) (by rw [HZL.out]; exact hlt) HALL.out (by unfold badAt; rw [hgd, hr]; rfl)]
          simp [hr]
        have HRES := Lib.hid hres
        have HR := Lib.hid hR
        clear hR hr hgd hres
        go_wp2_with (first
          | (go_at_call 87; refine HR.out.mono ?_; rintro e w' ⟨rfl, hww⟩; rw [hww]; clear hww w'))
        go_ret
        exact ⟨ret_int HRES.out.symm, hb0 _⟩
      · rw [hr] at hR
        rcases hd : decide (xs[k].1 ∈ (xs.map (·.1)).take k) with _ | _
        · have HST := Lib.hid (show ∀ j, j < k + 1 → badAt f (xs.map (·.1)) j = false from fun j hj => by
            by_cases h : j < k
            · exact HALL.out j h
            · obtain rfl : j = k := by omega
              unfold badAt
              rw [hgd, hr, hd]; rfl)
          have hSB : ∀ W, Below w.heap.size w W → Calls Tryz.prog 155 #[.slice (some ad) k cc, .int .i64 xs[k].1] W fun e w' => e = .returned (.bool false) ∧ Below W.heap.size W w' := fun W hb => by
            have := signedBy_any (.slice (some ad) k cc) (xs.take k) xs[k].1 W ((HV.out.below hb (Nat.le_refl _)).take k hk)
            rwa [show decide (xs[k].1 ∈ (xs.take k).map (·.1)) = false from by rw [List.map_take]; exact hd] at this
          have HSB := Lib.hid hSB
          have HR := Lib.hid hR
          clear hR hSB hd hr hgd
          go_wp2_with (first
            | (go_at_call 87; refine HR.out.mono ?_; rintro e w' ⟨rfl, hww⟩; rw [hww]; clear hww w'))
          have hev := Ev.open (show Ev (wr.alloc (.cells #[.int .i64 xs[k].1, (.slice Ax nx cx)] 35)) wr.heap.size (.int .i64 xs[k].1) (.slice Ax nx cx) from heap_alloc_new _ _)
          have hB1 := (hb0 (.cells #[.int .i64 xs[k].1, (.slice Ax nx cx)] 35))
          generalize wr.alloc (.cells #[.int .i64 xs[k].1, (.slice Ax nx cx)] 35) = wa at *
          have hS0 : wa.drew.cell? ⟨wr.heap.size, 0, none⟩ = some (.int .i64 xs[k].1) := hev.1
          go_region_held3 (fun W => W.cell? ⟨wr.heap.size, 0, none⟩ = some (.int .i64 xs[k].1)) (first | exact hS0 | exact hlater) (first | (go_at_call 155; refine (HSB.out _ hB1.drew).mono ?_; rintro e wb ⟨rfl, hbb⟩; have hlater : wb.cell? ⟨wr.heap.size, 0, none⟩ = some (.int .i64 xs[k].1) := (hbb.cell (p := ⟨wr.heap.size, 0, none⟩) hev.2.2.2.2).trans hS0))
          go_wp2
          go_roundw
          case rel => exact ⟨k + 1, by omega, by go_num, HST.out, hB1.drew.trans (hbb.mono hB1.drew.size)⟩
          case measure => simp [intOf]; omega
        · have hres : disE f (xs.map (·.1)) = 33 := by
            rw [disE_at (k := k) (by rw [HZL.out]; exact hlt) HALL.out (by unfold badAt; rw [hgd, hd]; simp)]
            simp [hr]
          have HRES := Lib.hid hres
          clear hres
          have hSB : ∀ W, Below w.heap.size w W → Calls Tryz.prog 155 #[.slice (some ad) k cc, .int .i64 xs[k].1] W fun e w' => e = .returned (.bool true) ∧ Below W.heap.size W w' := fun W hb => by
            have := signedBy_any (.slice (some ad) k cc) (xs.take k) xs[k].1 W ((HV.out.below hb (Nat.le_refl _)).take k hk)
            rwa [show decide (xs[k].1 ∈ (xs.take k).map (·.1)) = true from by rw [List.map_take]; exact hd] at this
          have HSB := Lib.hid hSB
          have HR := Lib.hid hR
          clear hR hSB hd hr hgd
          go_wp2_with (first
            | (go_at_call 87; refine HR.out.mono ?_; rintro e w' ⟨rfl, hww⟩; rw [hww]; clear hww w'))
          have hev := Ev.open (show Ev (wr.alloc (.cells #[.int .i64 xs[k].1, (.slice Ax nx cx)] 35)) wr.heap.size (.int .i64 xs[k].1) (.slice Ax nx cx) from heap_alloc_new _ _)
          have hB1 := (hb0 (.cells #[.int .i64 xs[k].1, (.slice Ax nx cx)] 35))
          generalize wr.alloc (.cells #[.int .i64 xs[k].1, (.slice Ax nx cx)] 35) = wa at *
          have hS0 : wa.drew.cell? ⟨wr.heap.size, 0, none⟩ = some (.int .i64 xs[k].1) := hev.1
          go_region_held3 (fun W => W.cell? ⟨wr.heap.size, 0, none⟩ = some (.int .i64 xs[k].1)) (first | exact hS0 | exact hlater) (first | (go_at_call 155; refine (HSB.out _ hB1.drew).mono ?_; rintro e wb ⟨rfl, hbb⟩; have hlater : wb.cell? ⟨wr.heap.size, 0, none⟩ = some (.int .i64 xs[k].1) := (hbb.cell (p := ⟨wr.heap.size, 0, none⟩) hev.2.2.2.2).trans hS0))
          go_wp2
          go_ret
          exact ⟨ret_int HRES.out.symm, hB1.drew.trans (hbb.mono hB1.drew.size)⟩
    · obtain rfl : k = xs.length := by omega
      have hres : disE f (xs.map (·.1)) = 0 := disE_ok (by rw [HZL.out]; exact HALL.out)
      have HRES := Lib.hid hres
      clear hres
      go_wp2
      go_ret
      exact ⟨ret_int HRES.out.symm, hbel⟩

theorem isVote_any (k : Int) (w : World) : Calls Tryz.prog 154 #[.int .i64 k] w (Says (.bool (decide (k = 3) || decide (k = 4) || decide (k = 5))) w) := by
  by_cases h3 : k = 3
  · subst h3
    go_enter Tryz.func154, Tryz.ntmps154
    go_wp2
    go_ret
    exact ⟨rfl, rfl⟩
  by_cases h4 : k = 4
  · subst h4
    go_enter Tryz.func154, Tryz.ntmps154
    go_wp2
    go_ret
    exact ⟨rfl, rfl⟩
  have q3 : (k == 3) = false := by simpa using h3
  have q4 : (k == 4) = false := by simpa using h4
  rw [decide_eq_false h3, decide_eq_false h4]
  go_enter Tryz.func154, Tryz.ntmps154
  go_wp2
  go_ret
  exact ⟨ret_bool (by by_cases h : k = 5 <;> simp [h]), rfl⟩
theorem digH_ne {l m : List UInt8} (h : ¬ l = m) : ((strB l).toList == (strB m).toList) = false := by
  simpa [strB] using h
def votesC (p m : Msg) : Int := if m.v = p.v then (if m.s = p.s then (if m.d = p.d then 0 else 132) else 131) else 130
theorem votesFor_any (p m : Msg) (P Q : Plc) (w : World) : Calls Tryz.prog 59 #[agM p P, agM m Q] w (Ans (.int .i64 (votesC p m)) w) := by
  obtain ⟨x1, x2, x3⟩ := box2B w (msC p P) (msC m Q) 46 46
  unfold votesC
  by_cases h1 : m.v = p.v
  · rw [if_pos h1]
    have q1 : (m.v != p.v) = false := by simpa using h1
    by_cases h2 : m.s = p.s
    · rw [if_pos h2]
      have q2 : (m.s != p.s) = false := by simpa using h2
      by_cases h3 : m.d = p.d
      · rw [if_pos h3]
        have q3 : ((strB m.d).toList == (strB p.d).toList) = true := by rw [h3]; simp
        clear h1 h2 h3
        have HX1 := Lib.hid x1
        have HX2 := Lib.hid x2
        have HB := Lib.hid x3
        clear x1 x2 x3
        go_enter Tryz.func59, Tryz.ntmps59
        go_upto_region 1 with fail
        generalize hw0 : (w.alloc _).alloc _ = w0 at *
        have a1 := rowCell HX1.out 1 (.int .i64 p.v) rfl
        have a2 := rowCell HX1.out 2 (.int .i64 p.s) rfl
        have a5 := rowCell HX1.out 5 (.string (strB p.d)) rfl
        have b1 := rowCell HX2.out 1 (.int .i64 m.v) rfl
        have b2 := rowCell HX2.out 2 (.int .i64 m.s) rfl
        have b5 := rowCell HX2.out 5 (.string (strB m.d)) rfl
        clear hw0
        go_wp2
        go_ret
        exact ⟨rfl, HB.out⟩
      · rw [if_neg h3]
        have q3 := digH_ne h3
        clear h1 h2 h3
        have HX1 := Lib.hid x1
        have HX2 := Lib.hid x2
        have HB := Lib.hid x3
        clear x1 x2 x3
        go_enter Tryz.func59, Tryz.ntmps59
        go_upto_region 1 with fail
        generalize hw0 : (w.alloc _).alloc _ = w0 at *
        have a1 := rowCell HX1.out 1 (.int .i64 p.v) rfl
        have a2 := rowCell HX1.out 2 (.int .i64 p.s) rfl
        have a5 := rowCell HX1.out 5 (.string (strB p.d)) rfl
        have b1 := rowCell HX2.out 1 (.int .i64 m.v) rfl
        have b2 := rowCell HX2.out 2 (.int .i64 m.s) rfl
        have b5 := rowCell HX2.out 5 (.string (strB m.d)) rfl
        clear hw0
        go_wp2
        go_ret
        exact ⟨rfl, HB.out⟩
    · rw [if_neg h2]
      have q2 : (m.s != p.s) = true := by simpa using h2
      clear h1 h2
      have HX1 := Lib.hid x1
      have HX2 := Lib.hid x2
      have HB := Lib.hid x3
      clear x1 x2 x3
      go_enter Tryz.func59, Tryz.ntmps59
      go_upto_region 1 with fail
      generalize hw0 : (w.alloc _).alloc _ = w0 at *
      have a1 := rowCell HX1.out 1 (.int .i64 p.v) rfl
      have a2 := rowCell HX1.out 2 (.int .i64 p.s) rfl
      have a5 := rowCell HX1.out 5 (.string (strB p.d)) rfl
      have b1 := rowCell HX2.out 1 (.int .i64 m.v) rfl
      have b2 := rowCell HX2.out 2 (.int .i64 m.s) rfl
      have b5 := rowCell HX2.out 5 (.string (strB m.d)) rfl
      clear hw0
      go_wp2
      go_ret
      exact ⟨rfl, HB.out⟩
  · rw [if_neg h1]
    have q1 : (m.v != p.v) = true := by simpa using h1
    clear h1
    have HX1 := Lib.hid x1
    have HX2 := Lib.hid x2
    have HB := Lib.hid x3
    clear x1 x2 x3
    go_enter Tryz.func59, Tryz.ntmps59
    go_upto_region 1 with fail
    generalize hw0 : (w.alloc _).alloc _ = w0 at *
    have a1 := rowCell HX1.out 1 (.int .i64 p.v) rfl
    have a2 := rowCell HX1.out 2 (.int .i64 p.s) rfl
    have a5 := rowCell HX1.out 5 (.string (strB p.d)) rfl
    have b1 := rowCell HX2.out 1 (.int .i64 m.v) rfl
    have b2 := rowCell HX2.out 2 (.int .i64 m.s) rfl
    have b5 := rowCell HX2.out 5 (.string (strB m.d)) rfl
    clear hw0
    go_wp2
    go_ret
    exact ⟨rfl, HB.out⟩
abbrev SPc (w0 : World) (b2 : Nat) (s0 t : Int) (ad : Addr) (n cc : Nat) (k : Nat) (W : World) : Prop := Below w0.heap.size w0 W ∧ W.cell? ⟨b2, 0, none⟩ = some (.int .i64 s0) ∧ W.cell? ⟨b2, 2, none⟩ = some (.slice (some ad) n cc) ∧ W.cell? (ad.add (k * 2)) = some (.int .i64 t)
def primC (p m : Msg) (t s0 : Int) : Int := if votesC p m = 0 then (if t = s0 then 133 else 0) else votesC p m
theorem mustP_any (p m : Msg) (P Q : Plc) (k : Nat) (b1 b2 : Nat) (s0 : Int) (bv : Value) (A : Option Addr) (cc : Nat) (l : List (Int × List UInt8)) (w : World) (h1 : w.heap[b1]? = some (.cells (msC p P) 46 (0, 0)))
    (h2 : w.heap[b2]? = some (.cells #[.int .i64 s0, bv, .slice A l.length cc] 38 (0, 0))) (hl : EnvK w A cc l) (hk : k < l.length) :
    Calls Tryz.prog 58 #[.int .i64 k, agM m Q, .pointer (some ⟨b1, 0, none⟩), .pointer (some ⟨b2, 0, none⟩)] w (Ans (.int .i64 (primC p m l[k].1 s0)) w) := by
  have hb0 := alloc1B w (.cells (msC m Q) 46)
  have HX := Lib.hid (heap_alloc_new w (.cells (msC m Q) 46))
  have H1 := Lib.hid (heapB h1 hb0)
  have H2 := Lib.hid (heapB h2 hb0)
  have HB := Lib.hid hb0
  have HV := Lib.hid (fun W => votesFor_any p m P Q W)
  obtain ⟨ad, bv1, rfl, hbl, hc, -, -⟩ := env_open hl k hk
  have hc1 := cellM hb0 (p := ad.add (k * 2)) (by rw [block_add]; exact hbl) hc
  have HC := Lib.hid hc1
  have hltI : (k : Int) < (l.length : Int) := by omega
  have hn63 : l.length ≤ 9223372036854775807 := by have h3 := hl.1; have h4 := hl.2.1; unfold maxLen at h4; omega
  generalize l[k].1 = t at *
  generalize l.length = n at *
  unfold primC
  clear hb0 h1 h2 hl hc hc1
  by_cases hv : votesC p m = 0
  · rw [if_pos hv]
    rw [hv] at HV
    clear hv
    by_cases ht : t = s0
    · rw [if_pos ht]
      have q1 : (t == s0) = true := by simpa using ht
      clear ht
      go_enter Tryz.func58, Tryz.ntmps58
      go_upto_region 1 with fail
      generalize hw0 : w.alloc _ = w0 at *
      clear hw0
      go_upto_region 4 with (first
          | (go_at_call 59; refine (HV.out _).mono ?_; rintro e w1 ⟨rfl, hb⟩; have H2 := Lib.hid (heapB H2.out hb); have HC := Lib.hid (cellM hb (World.block_lt_of_cell? _ _ HC.out) HC.out); have HB := Lib.hid (bel2M HB.out hb); clear hb)
          | (refine wpList_load_mid rfl 46 _ rfl w.heap.size 0 rfl _ _ (heap_all HX.out) Tryz.underlying46 rfl (by kernel_rfl) ?_)
          | (refine wpList_load_mid rfl 46 _ rfl b1 0 rfl _ _ (heap_all H1.out) Tryz.underlying46 rfl (by kernel_rfl) ?_))
      have HK := Lib.hid (show ∀ W, Below w1.heap.size w1 W → SPc w b2 s0 t ad n cc k W from fun W h => ⟨bel2M HB.out h, cellB (rowCell H2.out 0 _ rfl) h, cellB (rowCell H2.out 2 _ rfl) h, cellB HC.out h⟩)
      have HD := Lib.hid (HK.out w1.drew (Below.refl _ _).drew)
      go_region_held3 (SPc w b2 s0 t ad n cc k) (exact HD.out) (fail)
      go_wp2
      go_ret
      exact ⟨rfl, HD.out.1⟩
    · rw [if_neg ht]
      have q1 : (t == s0) = false := by simpa using ht
      clear ht
      go_enter Tryz.func58, Tryz.ntmps58
      go_upto_region 1 with fail
      generalize hw0 : w.alloc _ = w0 at *
      clear hw0
      go_upto_region 4 with (first
          | (go_at_call 59; refine (HV.out _).mono ?_; rintro e w1 ⟨rfl, hb⟩; have H2 := Lib.hid (heapB H2.out hb); have HC := Lib.hid (cellM hb (World.block_lt_of_cell? _ _ HC.out) HC.out); have HB := Lib.hid (bel2M HB.out hb); clear hb)
          | (refine wpList_load_mid rfl 46 _ rfl w.heap.size 0 rfl _ _ (heap_all HX.out) Tryz.underlying46 rfl (by kernel_rfl) ?_)
          | (refine wpList_load_mid rfl 46 _ rfl b1 0 rfl _ _ (heap_all H1.out) Tryz.underlying46 rfl (by kernel_rfl) ?_))
      have HK := Lib.hid (show ∀ W, Below w1.heap.size w1 W → SPc w b2 s0 t ad n cc k W from fun W h => ⟨bel2M HB.out h, cellB (rowCell H2.out 0 _ rfl) h, cellB (rowCell H2.out 2 _ rfl) h, cellB HC.out h⟩)
      have HD := Lib.hid (HK.out w1.drew (Below.refl _ _).drew)
      go_region_held3 (SPc w b2 s0 t ad n cc k) (exact HD.out) (fail)
      go_wp2
      go_ret
      exact ⟨rfl, HD.out.1⟩
  · rw [if_neg hv]
    have q1 : (votesC p m != 0) = true := by simpa using hv
    generalize votesC p m = u at *
    go_enter Tryz.func58, Tryz.ntmps58
    go_upto_region 1 with fail
    generalize hw0 : w.alloc _ = w0 at *
    clear hw0
    go_wp2_with (first
      | (go_at_call 59; refine (HV.out _).mono ?_; rintro e w1 ⟨rfl, hb⟩; have H2 := Lib.hid (heapB H2.out hb); have HC := Lib.hid (cellM hb (World.block_lt_of_cell? _ _ HC.out) HC.out); have HB := Lib.hid (bel2M HB.out hb); clear hb)
      | (refine wpList_load_mid rfl 46 _ rfl w.heap.size 0 rfl _ _ (heap_all HX.out) Tryz.underlying46 rfl (by kernel_rfl) ?_)
      | (refine wpList_load_mid rfl 46 _ rfl b1 0 rfl _ _ (heap_all H1.out) Tryz.underlying46 rfl (by kernel_rfl) ?_))
    go_ret
    exact ⟨rfl, HB.out⟩
structure StB (b1 b2 : Nat) (s : Int) (d : List UInt8) (w : World) : Prop where
  s : w.heap[b1]? = some (.cells #[.int .i64 s] 3 (0, 0))
  d : w.heap[b2]? = some (.cells #[.string (strB d)] 40 (0, 0))
theorem StB.below {b1 b2 : Nat} {s : Int} {d : List UInt8} {w w' : World} (h : StB b1 b2 s d w) (hb : Below w.heap.size w w') : StB b1 b2 s d w' := ⟨heapB h.s hb, heapB h.d hb⟩
theorem StB.set {b1 b2 : Nat} {s : Int} {d d' : List UInt8} {w : World} (h : StB b1 b2 s d w) : StB b1 b2 s d' (w.setCell ⟨b2, 0, none⟩ (.string (strB d'))) := by
  have h1 := h.s
  have h2 := h.d
  have hne : b1 ≠ b2 := by rintro rfl; rw [h1] at h2; injection h2 with h2; injection h2 with h2; simp at h2
  exact ⟨by simp [World.setCell, Array.getElem?_modify, h1, Ne.symm hne], by simp [World.setCell, Array.getElem?_modify, h2]⟩

def voteX (o : Msg × Int) (iv rep : Bool) : Msg × Int := if o.2 = 0 then (if iv = true then (if rep = true then (o.1, 0) else (msg0, 30)) else (msg0, 120)) else (msg0, o.2)
set_option maxHeartbeats 4000000 in
theorem hVote_of (pa : Value) (e : Int × List UInt8) (bv : Value) (kind : Int) (o : Msg × Int) (iv rep : Bool) (w : World) (hv : Bs w bv e.2)
    (hO : ∀ W, Below w.heap.size w W → Calls Tryz.prog 109 #[pa, agE e.1 bv, .int .i64 kind] W (DecN o W))
    (hI : ∀ W, Calls Tryz.prog 154 #[.int .i64 kind] W (Says (.bool iv) W))
    (hR : ∀ W, Below w.heap.size w W → Calls Tryz.prog 87 #[pa, .int .i64 e.1] W (Says (.bool rep) W)) :
    Calls Tryz.prog 116 #[pa, agE e.1 bv, .int .i64 kind] w (DecN (voteX o iv rep) w) := by
  obtain ⟨BA, bc0, rfl, -⟩ := hv.open
  have HO := Lib.hid hO
  have HI := Lib.hid hI
  have HRP := Lib.hid hR
  clear hO hv hI hR
  obtain ⟨x1, x2, x3⟩ := box2B w #[.int .i64 e.1, .slice BA e.2.length bc0] msH 35 46
  obtain ⟨m, y⟩ := o
  by_cases h0 : y = 0
  · subst h0
    cases iv
    · rw [show voteX (m, 0) false rep = (msg0, 120) from rfl]
      go_enter Tryz.func116, Tryz.ntmps116
      go_upto_region 1 with fail
      generalize hw0 : (w.alloc _).alloc _ = w0 at *
      have HR := Lib.hid x1
      have HX := Lib.hid x2
      have HB := Lib.hid x3
      clear x1 x2 x3 hw0
      go_wp2_with (first
        | (go_at_call 109; go_loud (refine (HO.out _ HB.out).mono ?_; rintro e w2 ⟨P, rfl, hk, hb⟩; have HB1 := Lib.hid HB.out; have HK := Lib.hid hk; have HP := Lib.hid (keep_alloc (B := w0.heap.size) w2 (.cells (msC m P) 46)); have HZ1 := Lib.hid (Array.getElem?_eq_some_iff.1 HX.out).1; have HR := Lib.hid (heapB HR.out hb); have HX := Lib.hid (heapB HX.out hb); have HB := Lib.hid (bel2M HB.out hb); have HBX := Lib.hid (heap_alloc_new w2 (.cells (msC m P) 46)); have HR := Lib.hid (heapB HR.out (alloc1B w2 (.cells (msC m P) 46))); have HX := Lib.hid (heapB HX.out (alloc1B w2 (.cells (msC m P) 46))); have HB := Lib.hid (bel2M HB.out (alloc1B w2 (.cells (msC m P) 46))); have r0 := rowCell HR.out 0 (.int .i64 e.1) rfl; have m0 := rowCell HBX.out 0 (.int .i64 m.k) rfl; clear hb hk))
        | (refine wpList_load_mid rfl 35 _ rfl w.heap.size 0 rfl _ _ (heap_all HR.out) Tryz.underlying35 rfl (by kernel_rfl) ?_)
        | (refine wpList_storeAll rfl 46 _ _ rfl (w.heap.size + 1) _ _ rfl rfl HX.out rfl (by kernel_rfl) (by kernel_rfl) ?_; intro w9 hz hh ho; have HY := Lib.hid hh; have HB9 := Lib.hid (onlyBelow HB.out ho (by omega) (Nat.le_refl _)); have HO9 := Lib.hid ho; clear hz hh ho)
        | (go_at_call 154; refine (HI.out _).mono ?_; rintro e w5 ⟨rfl, hww⟩; rw [hww]; clear hww w5)
        | (go_at_call 87; refine (HRP.out _ HB.out).mono ?_; rintro e w6 ⟨rfl, hww⟩; rw [hww]; clear hww w6))
      refine bodyPost_ret (results_cell2 rfl _ _ (w.heap.size + 1) 46 _ (0, 0) _ rfl HY.out Tryz.underlying46 rfl (by kernel_rfl)) rfl ?_
      exact decN0 w _ 120 HB9.out
    · cases rep
      · rw [show voteX (m, 0) true false = (msg0, 30) from rfl]
        go_enter Tryz.func116, Tryz.ntmps116
        go_upto_region 1 with fail
        generalize hw0 : (w.alloc _).alloc _ = w0 at *
        have HR := Lib.hid x1
        have HX := Lib.hid x2
        have HB := Lib.hid x3
        clear x1 x2 x3 hw0
        go_wp2_with (first
          | (go_at_call 109; go_loud (refine (HO.out _ HB.out).mono ?_; rintro e w2 ⟨P, rfl, hk, hb⟩; have HB1 := Lib.hid HB.out; have HK := Lib.hid hk; have HP := Lib.hid (keep_alloc (B := w0.heap.size) w2 (.cells (msC m P) 46)); have HZ1 := Lib.hid (Array.getElem?_eq_some_iff.1 HX.out).1; have HR := Lib.hid (heapB HR.out hb); have HX := Lib.hid (heapB HX.out hb); have HB := Lib.hid (bel2M HB.out hb); have HBX := Lib.hid (heap_alloc_new w2 (.cells (msC m P) 46)); have HR := Lib.hid (heapB HR.out (alloc1B w2 (.cells (msC m P) 46))); have HX := Lib.hid (heapB HX.out (alloc1B w2 (.cells (msC m P) 46))); have HB := Lib.hid (bel2M HB.out (alloc1B w2 (.cells (msC m P) 46))); have r0 := rowCell HR.out 0 (.int .i64 e.1) rfl; have m0 := rowCell HBX.out 0 (.int .i64 m.k) rfl; clear hb hk))
          | (refine wpList_load_mid rfl 35 _ rfl w.heap.size 0 rfl _ _ (heap_all HR.out) Tryz.underlying35 rfl (by kernel_rfl) ?_)
          | (refine wpList_storeAll rfl 46 _ _ rfl (w.heap.size + 1) _ _ rfl rfl HX.out rfl (by kernel_rfl) (by kernel_rfl) ?_; intro w9 hz hh ho; have HY := Lib.hid hh; have HB9 := Lib.hid (onlyBelow HB.out ho (by omega) (Nat.le_refl _)); have HO9 := Lib.hid ho; clear hz hh ho)
          | (go_at_call 154; refine (HI.out _).mono ?_; rintro e w5 ⟨rfl, hww⟩; rw [hww]; clear hww w5)
          | (go_at_call 87; refine (HRP.out _ HB.out).mono ?_; rintro e w6 ⟨rfl, hww⟩; rw [hww]; clear hww w6))
        refine bodyPost_ret (results_cell2 rfl _ _ (w.heap.size + 1) 46 _ (0, 0) _ rfl HY.out Tryz.underlying46 rfl (by kernel_rfl)) rfl ?_
        exact decN0 w _ 30 HB9.out
      · rw [show voteX (m, 0) true true = (m, 0) from rfl]
        go_enter Tryz.func116, Tryz.ntmps116
        go_upto_region 1 with fail
        generalize hw0 : (w.alloc _).alloc _ = w0 at *
        have HR := Lib.hid x1
        have HX := Lib.hid x2
        have HB := Lib.hid x3
        clear x1 x2 x3 hw0
        go_wp2_with (first
          | (go_at_call 109; go_loud (refine (HO.out _ HB.out).mono ?_; rintro e w2 ⟨P, rfl, hk, hb⟩; have HB1 := Lib.hid HB.out; have HK := Lib.hid hk; have HP := Lib.hid (keep_alloc (B := w0.heap.size) w2 (.cells (msC m P) 46)); have HZ1 := Lib.hid (Array.getElem?_eq_some_iff.1 HX.out).1; have HR := Lib.hid (heapB HR.out hb); have HX := Lib.hid (heapB HX.out hb); have HB := Lib.hid (bel2M HB.out hb); have HBX := Lib.hid (heap_alloc_new w2 (.cells (msC m P) 46)); have HR := Lib.hid (heapB HR.out (alloc1B w2 (.cells (msC m P) 46))); have HX := Lib.hid (heapB HX.out (alloc1B w2 (.cells (msC m P) 46))); have HB := Lib.hid (bel2M HB.out (alloc1B w2 (.cells (msC m P) 46))); have r0 := rowCell HR.out 0 (.int .i64 e.1) rfl; have m0 := rowCell HBX.out 0 (.int .i64 m.k) rfl; clear hb hk))
          | (refine wpList_load_mid rfl 35 _ rfl w.heap.size 0 rfl _ _ (heap_all HR.out) Tryz.underlying35 rfl (by kernel_rfl) ?_)
          | (refine wpList_storeAll rfl 46 _ _ rfl (w.heap.size + 1) _ _ rfl rfl HX.out rfl (by kernel_rfl) (by kernel_rfl) ?_; intro w9 hz hh ho; have HY := Lib.hid hh; have HB9 := Lib.hid (onlyBelow HB.out ho (by omega) (Nat.le_refl _)); have HO9 := Lib.hid ho; clear hz hh ho)
          | (go_at_call 154; refine (HI.out _).mono ?_; rintro e w5 ⟨rfl, hww⟩; rw [hww]; clear hww w5)
          | (go_at_call 87; refine (HRP.out _ HB.out).mono ?_; rintro e w6 ⟨rfl, hww⟩; rw [hww]; clear hww w6)
          | (refine wpList_load_mid rfl 46 _ rfl w2.heap.size 0 rfl _ _ (heap_all HBX.out) Tryz.underlying46 rfl (by kernel_rfl) ?_))
        refine bodyPost_ret (results_cell2 rfl _ _ (w.heap.size + 1) 46 _ (0, 0) _ rfl HY.out Tryz.underlying46 rfl (by kernel_rfl)) rfl ?_
        exact ⟨P, rfl, fun W hW => HK.out W (kpb_to (keep_only HP.out HO9.out HZ1.out) hW HB1.out.size), HB9.out⟩
  · rw [show voteX (m, y) iv rep = (msg0, y) from if_neg h0]
    have hq : (y != 0) = true := by simpa using h0
    clear h0
    go_enter Tryz.func116, Tryz.ntmps116
    go_upto_region 1 with fail
    generalize hw0 : (w.alloc _).alloc _ = w0 at *
    have HR := Lib.hid x1
    have HX := Lib.hid x2
    have HB := Lib.hid x3
    clear x1 x2 x3 hw0
    go_wp2_with (first
      | (go_at_call 109; go_loud (refine (HO.out _ HB.out).mono ?_; rintro e w2 ⟨P, rfl, hk, hb⟩; have HB1 := Lib.hid HB.out; have HK := Lib.hid hk; have HP := Lib.hid (keep_alloc (B := w0.heap.size) w2 (.cells (msC m P) 46)); have HZ1 := Lib.hid (Array.getElem?_eq_some_iff.1 HX.out).1; have HR := Lib.hid (heapB HR.out hb); have HX := Lib.hid (heapB HX.out hb); have HB := Lib.hid (bel2M HB.out hb); have HBX := Lib.hid (heap_alloc_new w2 (.cells (msC m P) 46)); have HR := Lib.hid (heapB HR.out (alloc1B w2 (.cells (msC m P) 46))); have HX := Lib.hid (heapB HX.out (alloc1B w2 (.cells (msC m P) 46))); have HB := Lib.hid (bel2M HB.out (alloc1B w2 (.cells (msC m P) 46))); have r0 := rowCell HR.out 0 (.int .i64 e.1) rfl; have m0 := rowCell HBX.out 0 (.int .i64 m.k) rfl; clear hb hk))
      | (refine wpList_load_mid rfl 35 _ rfl w.heap.size 0 rfl _ _ (heap_all HR.out) Tryz.underlying35 rfl (by kernel_rfl) ?_)
      | (refine wpList_storeAll rfl 46 _ _ rfl (w.heap.size + 1) _ _ rfl rfl HX.out rfl (by kernel_rfl) (by kernel_rfl) ?_; intro w9 hz hh ho; have HY := Lib.hid hh; have HB9 := Lib.hid (onlyBelow HB.out ho (by omega) (Nat.le_refl _)); have HO9 := Lib.hid ho; clear hz hh ho)
      | (go_at_call 154; refine (HI.out _).mono ?_; rintro e w5 ⟨rfl, hww⟩; rw [hww]; clear hww w5)
      | (go_at_call 87; refine (HRP.out _ HB.out).mono ?_; rintro e w6 ⟨rfl, hww⟩; rw [hww]; clear hww w6))
    refine bodyPost_ret (results_cell2 rfl _ _ (w.heap.size + 1) 46 _ (0, 0) _ rfl HY.out Tryz.underlying46 rfl (by kernel_rfl)) rfl ?_
    exact decN0 w _ y HB9.out
abbrev Rqt := (Int × Int × List UInt8) × Int
def ReqN (x : Rqt) (w : World) (e : Ending) (w' : World) : Prop := ∃ A c, e = .returned (.tuple #[.agg #[.int .i64 x.1.1, .int .i64 x.1.2.1, .slice A x.1.2.2.length c], .int .i64 x.2]) ∧ (∀ W, KpB w.heap.size w' W → Bs W (.slice A x.1.2.2.length c) x.1.2.2) ∧ Below w.heap.size w w'
theorem reqN0 (w w' : World) (n : Int) (h : Below w.heap.size w w') : ReqN ((0, 0, []), n) w (.returned (.tuple #[.agg #[.int .i64 0, .int .i64 0, .slice none 0 0], .int .i64 n])) w' := ⟨none, 0, rfl, fun W _ => Bs.nil W, h⟩
def reqX (o : Msg × Int) (s : Int) : Rqt := if o.2 = 0 then (if o.1.c = s then ((o.1.c, o.1.t, o.1.x), 0) else ((0, 0, []), 120)) else ((0, 0, []), o.2)
set_option maxHeartbeats 4000000 in
theorem hReq_of (pa : Value) (e : Int × List UInt8) (bv : Value) (o : Msg × Int) (w : World) (hv : Bs w bv e.2)
    (hO : ∀ W, Below w.heap.size w W → Calls Tryz.prog 109 #[pa, agE e.1 bv, .int .i64 1] W (DecN o W)) :
    Calls Tryz.prog 50 #[pa, agE e.1 bv] w (ReqN (reqX o e.1) w) := by
  obtain ⟨BA, bc0, rfl, -⟩ := hv.open
  have HO := Lib.hid hO
  clear hO hv
  obtain ⟨x1, x2, x3⟩ := box2B w #[.int .i64 e.1, .slice BA e.2.length bc0] #[.int .i64 0, .int .i64 0, .slice none 0 0] 35 102
  obtain ⟨m, y⟩ := o
  by_cases h0 : y = 0
  · subst h0
    by_cases h1 : m.c = e.1
    · rw [show reqX (m, 0) e.1 = ((m.c, m.t, m.x), 0) from if_pos h1]
      have hq : (m.c != e.1) = false := by simpa using h1
      clear h1
      go_enter Tryz.func50, Tryz.ntmps50
      go_upto_region 1 with fail
      generalize hw0 : (w.alloc _).alloc _ = w0 at *
      have HR := Lib.hid x1
      have HX := Lib.hid x2
      have HB := Lib.hid x3
      clear x1 x2 x3 hw0
      go_wp2_with (first
        | (go_at_call 109; go_loud (refine (HO.out _ HB.out).mono ?_; rintro e w2 ⟨P, rfl, hk, hb⟩; have HB1 := Lib.hid HB.out; have HK := Lib.hid hk; have HP := Lib.hid (keep_alloc (B := w0.heap.size) w2 (.cells (msC m P) 46)); have HZ1 := Lib.hid (Array.getElem?_eq_some_iff.1 HX.out).1; have HR := Lib.hid (heapB HR.out hb); have HX := Lib.hid (heapB HX.out hb); have HB := Lib.hid (bel2M HB.out hb); have HBX := Lib.hid (heap_alloc_new w2 (.cells (msC m P) 46)); have HR := Lib.hid (heapB HR.out (alloc1B w2 (.cells (msC m P) 46))); have HX := Lib.hid (heapB HX.out (alloc1B w2 (.cells (msC m P) 46))); have HB := Lib.hid (bel2M HB.out (alloc1B w2 (.cells (msC m P) 46))); have r0 := rowCell HR.out 0 (.int .i64 e.1) rfl; have m3 := rowCell HBX.out 3 (.int .i64 m.c) rfl; have m4 := rowCell HBX.out 4 (.int .i64 m.t) rfl; have m6 := rowCell HBX.out 6 (.slice P.x.1 m.x.length P.x.2) rfl; clear hb hk))
        | (refine wpList_load_mid rfl 35 _ rfl w.heap.size 0 rfl _ _ (heap_all HR.out) Tryz.underlying35 rfl (by kernel_rfl) ?_)
        | (refine wpList_storeAll rfl 102 _ _ rfl (w.heap.size + 1) _ _ rfl rfl HX.out rfl (by kernel_rfl) (by kernel_rfl) ?_; intro w9 hz hh ho; have HY := Lib.hid hh; have HB9 := Lib.hid (onlyBelow HB.out ho (by omega) (Nat.le_refl _)); have HO9 := Lib.hid ho; clear hz hh ho))
      refine bodyPost_ret (results_cell2 rfl _ _ (w.heap.size + 1) 102 _ (0, 0) _ rfl HY.out Tryz.underlying102 rfl (by kernel_rfl)) rfl ?_
      exact ⟨P.x.1, P.x.2, rfl, fun W hW => (HK.out W (kpb_to (keep_only HP.out HO9.out HZ1.out) hW HB1.out.size)).x, HB9.out⟩
    · rw [show reqX (m, 0) e.1 = ((0, 0, []), 120) from if_neg h1]
      have hq : (m.c != e.1) = true := by simpa using h1
      clear h1
      go_enter Tryz.func50, Tryz.ntmps50
      go_upto_region 1 with fail
      generalize hw0 : (w.alloc _).alloc _ = w0 at *
      have HR := Lib.hid x1
      have HX := Lib.hid x2
      have HB := Lib.hid x3
      clear x1 x2 x3 hw0
      go_wp2_with (first
        | (go_at_call 109; go_loud (refine (HO.out _ HB.out).mono ?_; rintro e w2 ⟨P, rfl, hk, hb⟩; have HB1 := Lib.hid HB.out; have HK := Lib.hid hk; have HP := Lib.hid (keep_alloc (B := w0.heap.size) w2 (.cells (msC m P) 46)); have HZ1 := Lib.hid (Array.getElem?_eq_some_iff.1 HX.out).1; have HR := Lib.hid (heapB HR.out hb); have HX := Lib.hid (heapB HX.out hb); have HB := Lib.hid (bel2M HB.out hb); have HBX := Lib.hid (heap_alloc_new w2 (.cells (msC m P) 46)); have HR := Lib.hid (heapB HR.out (alloc1B w2 (.cells (msC m P) 46))); have HX := Lib.hid (heapB HX.out (alloc1B w2 (.cells (msC m P) 46))); have HB := Lib.hid (bel2M HB.out (alloc1B w2 (.cells (msC m P) 46))); have r0 := rowCell HR.out 0 (.int .i64 e.1) rfl; have m3 := rowCell HBX.out 3 (.int .i64 m.c) rfl; have m4 := rowCell HBX.out 4 (.int .i64 m.t) rfl; have m6 := rowCell HBX.out 6 (.slice P.x.1 m.x.length P.x.2) rfl; clear hb hk))
        | (refine wpList_load_mid rfl 35 _ rfl w.heap.size 0 rfl _ _ (heap_all HR.out) Tryz.underlying35 rfl (by kernel_rfl) ?_)
        | (refine wpList_storeAll rfl 102 _ _ rfl (w.heap.size + 1) _ _ rfl rfl HX.out rfl (by kernel_rfl) (by kernel_rfl) ?_; intro w9 hz hh ho; have HY := Lib.hid hh; have HB9 := Lib.hid (onlyBelow HB.out ho (by omega) (Nat.le_refl _)); have HO9 := Lib.hid ho; clear hz hh ho))
      refine bodyPost_ret (results_cell2 rfl _ _ (w.heap.size + 1) 102 _ (0, 0) _ rfl HY.out Tryz.underlying102 rfl (by kernel_rfl)) rfl ?_
      exact reqN0 w _ 120 HB9.out
  · rw [show reqX (m, y) e.1 = ((0, 0, []), y) from if_neg h0]
    have hq : (y != 0) = true := by simpa using h0
    clear h0
    go_enter Tryz.func50, Tryz.ntmps50
    go_upto_region 1 with fail
    generalize hw0 : (w.alloc _).alloc _ = w0 at *
    have HR := Lib.hid x1
    have HX := Lib.hid x2
    have HB := Lib.hid x3
    clear x1 x2 x3 hw0
    go_wp2_with (first
      | (go_at_call 109; go_loud (refine (HO.out _ HB.out).mono ?_; rintro e w2 ⟨P, rfl, hk, hb⟩; have HB1 := Lib.hid HB.out; have HK := Lib.hid hk; have HP := Lib.hid (keep_alloc (B := w0.heap.size) w2 (.cells (msC m P) 46)); have HZ1 := Lib.hid (Array.getElem?_eq_some_iff.1 HX.out).1; have HR := Lib.hid (heapB HR.out hb); have HX := Lib.hid (heapB HX.out hb); have HB := Lib.hid (bel2M HB.out hb); have HBX := Lib.hid (heap_alloc_new w2 (.cells (msC m P) 46)); have HR := Lib.hid (heapB HR.out (alloc1B w2 (.cells (msC m P) 46))); have HX := Lib.hid (heapB HX.out (alloc1B w2 (.cells (msC m P) 46))); have HB := Lib.hid (bel2M HB.out (alloc1B w2 (.cells (msC m P) 46))); have r0 := rowCell HR.out 0 (.int .i64 e.1) rfl; have m3 := rowCell HBX.out 3 (.int .i64 m.c) rfl; have m4 := rowCell HBX.out 4 (.int .i64 m.t) rfl; have m6 := rowCell HBX.out 6 (.slice P.x.1 m.x.length P.x.2) rfl; clear hb hk))
      | (refine wpList_load_mid rfl 35 _ rfl w.heap.size 0 rfl _ _ (heap_all HR.out) Tryz.underlying35 rfl (by kernel_rfl) ?_)
      | (refine wpList_storeAll rfl 102 _ _ rfl (w.heap.size + 1) _ _ rfl rfl HX.out rfl (by kernel_rfl) (by kernel_rfl) ?_; intro w9 hz hh ho; have HY := Lib.hid hh; have HB9 := Lib.hid (onlyBelow HB.out ho (by omega) (Nat.le_refl _)); have HO9 := Lib.hid ho; clear hz hh ho))
    refine bodyPost_ret (results_cell2 rfl _ _ (w.heap.size + 1) 102 _ (0, 0) _ rfl HY.out Tryz.underlying102 rfl (by kernel_rfl)) rfl ?_
    exact reqN0 w _ y HB9.out

theorem nil_ownG (W : World) (B : Nat) : W.ownsRow B 5 1 (.slice none 0 0) ([] : List UInt8).length (([] : List UInt8).map bc) := World.ownsRow_nil W _ _ _
theorem puts_nil (w w' : World) (hb : Below w.heap.size w w') : Puts w [] (.returned (.slice none 0 0)) w' := ⟨_, rfl, nil_ownG _ _, hb⟩
theorem gPutInt_any (n : Int) (w : World) : Calls Tryz.prog 168 #[.int .i64 n] w (Puts w (i8B n)) := by
  have HP := Lib.hid (show Calls Tryz.prog 181 #[.slice none 0 0, .int .i64 n] w (Puts w (i8B n)) from PutInt_any (.slice none 0 0) [] n w (Bs.nil w) (by simp))
  go_enter Tryz.func168, Tryz.ntmps168
  go_wp2_with (go_at_call 181; refine HP.out.mono ?_; rintro e w1 ⟨v1, rfl, ho1, hb1⟩)
  go_ret
  exact ⟨v1, rfl, ho1, hb1⟩
abbrev SEp (w0 : World) (b : Nat) (s : Int) (bv : Value) : World → Prop := fun W => Below w0.heap.size w0 W ∧ W.cell? ⟨b, 0, none⟩ = some (.int .i64 s) ∧ W.cell? ⟨b, 1, none⟩ = some bv
set_option maxHeartbeats 1000000 in
theorem gPutEnv_any (e : Int × List UInt8) (bv : Value) (w : World) (hv : Bs w bv e.2) (hl : e.2.length ≤ 1000000) : Calls Tryz.prog 144 #[agE e.1 bv] w (Puts w (envW e)) := by
  obtain ⟨i0, hi, hz0, hz1, hz2⟩ := info_parts u8info
  obtain ⟨BA, bc0, rfl, -⟩ := hv.open
  have x1 := heap_alloc_new w (.cells #[.int .i64 e.1, .slice BA e.2.length bc0] 35)
  have hb0 := alloc1B w (.cells #[.int .i64 e.1, .slice BA e.2.length bc0] 35)
  have HI := Lib.hid (fun W => gPutInt_any e.1 W)
  have HP := Lib.hid (fun W (hb : Below w.heap.size w W) => show Calls Tryz.prog 169 #[.slice none 0 0, .slice BA e.2.length bc0] W (Puts W (partB e.2)) from by
    have := PutBytes_any (.slice none 0 0) _ [] e.2 W (Bs.nil W) (hv.below hb (Nat.le_refl _)) (by simp) (by omega)
    simpa [partB] using this)
  unfold envW
  have hq : (i8B e.1).length + ((partB e.2).map bc).length ≤ 2000000 := by rw [List.length_map, i8B_length, partB_length]; omega
  have HQ := Lib.hid hq
  generalize i8B e.1 = l1 at *
  generalize partB e.2 = l2 at *
  generalize e.2.length = n at *
  generalize e.1 = s at *
  go_enter Tryz.func144, Tryz.ntmps144
  go_upto_region 1 with fail
  generalize hw0 : w.alloc _ = w0 at *
  have HK := Lib.hid (show ∀ W, Below w0.heap.size w0 W → SEp w0 w.heap.size s (.slice BA n bc0) W from fun W h => ⟨h, cellB (rowCell x1 0 _ rfl) h, cellB (rowCell x1 1 _ rfl) h⟩)
  have HB0 := Lib.hid hb0
  have HD := Lib.hid (show Below w0.heap.size w0 w0.drew from (Below.refl _ _).drew)
  clear x1 hb0 hw0 hv hl hq
  go_region_held3 (SEp w0 w.heap.size s (.slice BA n bc0)) (first | exact HK.out _ HD.out | exact HK.out _ HB1.out | exact HK.out _ HB2.out | exact HK.out _ HB3.out) (first
    | (go_at_call 168; refine (HI.out _).mono ?_; rintro e w1 ⟨v1, rfl, ho1, hb⟩; have HB1 := Lib.hid (bel2M HD.out hb); have HO1 := Lib.hid ho1; clear hb ho1)
    | (go_at_call 169; refine (HP.out _ (bel2M HB0.out HB1.out)).mono ?_; rintro e w2 ⟨v2, rfl, ho2, hb⟩; have HO1 := Lib.hid (own_belowM HO1.out hb); have HB2 := Lib.hid (bel2M HB1.out hb); have HV2 := Lib.hid (own_bs ho2); clear hb ho2)
    | (refine step_append_rd rfl (.tmp 5) (.tmp 8) 33 rfl w0.drew.heap.size 5 i0 (.int .u8 0) 1 Tryz.underlying33 hi hz0 hz1 hz2 rfl _ _ _ rfl HO1.out _ _ rfl HV2.out (bc_one _) (by have := HQ.out; unfold maxLen; omega) (by have := HQ.out; omega) HB2.out.size ?_; intro v3 w3 hown3 hg3 hob3; rw [← List.map_append, List.length_map, ← List.length_append] at hown3; have HO3 := Lib.hid hown3; have HB3 := Lib.hid (HB2.out.grown hg3 HB2.out.size (fun g hg => (HO1.out.lt g hg).1)); clear hown3 hg3 hob3))
  go_wp2
  go_ret
  exact ⟨v3, rfl, own_mono HO3.out HB0.out.size, bel2M HB0.out HB3.out⟩

def batB (l : List (Int × List UInt8)) : List UInt8 := encT 8 (l.map envW)
theorem envW_length (e : Int × List UInt8) : (envW e).length = 12 + e.2.length := by
  unfold envW
  rw [List.length_append, i8B_length, partB_length]; omega

def AskB (x : Bool) (w : World) (e : Ending) (w' : World) : Prop := e = .returned (.bool x) ∧ Below w.heap.size w w'

set_option maxHeartbeats 1000000 in
theorem rEnv_any (e : Int × List UInt8) (bv : Value) (w : World) (hv : Bs w bv e.2) (hl : e.2.length ≤ 1000000) : Calls Tryz.prog 54 #[.slice none 0 0, agE e.1 bv] w (Puts w (envW e)) := by
  obtain ⟨BA, bc0, rfl, -⟩ := hv.open
  have x1 := heap_alloc_new w (.cells #[.int .i64 e.1, .slice BA e.2.length bc0] 35)
  have hb0 := alloc1B w (.cells #[.int .i64 e.1, .slice BA e.2.length bc0] 35)
  have HI := Lib.hid (fun W => show Calls Tryz.prog 114 #[.slice none 0 0, .int .i64 e.1] W (Puts W (i8B e.1)) from rInt_any _ [] e.1 W (Bs.nil W) (by simp))
  have HP := Lib.hid (fun u W (hu : Bs W u (i8B e.1)) (hb : Below w.heap.size w W) => show Calls Tryz.prog 113 #[u, .slice BA e.2.length bc0] W (Puts W (envW e)) from by
    have := rBytes_any u _ (i8B e.1) e.2 W hu (hv.below hb (Nat.le_refl _)) (by rw [i8B_length]; omega) (by omega)
    unfold envW
    simpa [partB] using this)
  generalize i8B e.1 = l1 at *
  generalize envW e = l2 at *
  generalize e.2.length = n at *
  generalize e.1 = s at *
  go_enter Tryz.func54, Tryz.ntmps54
  go_upto_region 1 with fail
  generalize hw0 : w.alloc _ = w0 at *
  have HK := Lib.hid (show ∀ W, Below w0.heap.size w0 W → SEp w0 w.heap.size s (.slice BA n bc0) W from fun W h => ⟨h, cellB (rowCell x1 0 _ rfl) h, cellB (rowCell x1 1 _ rfl) h⟩)
  have HB0 := Lib.hid hb0
  have HD := Lib.hid (show Below w0.heap.size w0 w0.drew from (Below.refl _ _).drew)
  clear x1 hb0 hw0 hv hl
  go_region_held3 (SEp w0 w.heap.size s (.slice BA n bc0)) (first | exact HK.out _ HD.out | exact HK.out _ HB1.out | exact HK.out _ HB2.out) (first
    | (go_at_call 114; refine (HI.out _).mono ?_; rintro e w1 ⟨v1, rfl, ho1, hb⟩; have HB1 := Lib.hid (bel2M HD.out hb); have HO1 := Lib.hid (own_bs ho1); clear hb ho1)
    | (go_at_call 113; refine (HP.out _ _ HO1.out (bel2M HB0.out HB1.out)).mono ?_; rintro e w2 ⟨v2, rfl, ho2, hb⟩; have HO2 := Lib.hid (own_mono ho2 (bel2M HB0.out HB1.out).size); have HB2 := Lib.hid (bel2M HB1.out hb); clear hb ho2))
  go_wp2
  go_ret
  exact ⟨v2, rfl, HO2.out, bel2M HB0.out HB2.out⟩

abbrev BigE (l : List (Int × List UInt8)) : Prop := l.length ≤ 30 ∧ ∀ e ∈ l, e.2.length ≤ 1000000
theorem partsB_big (K : Nat) (ls : List (List UInt8)) (h : ∀ l ∈ ls, l.length ≤ K) : (partsB ls).length ≤ (K + 4) * ls.length := by
  induction ls with
  | nil => simp [partsB]
  | cons l ls ih =>
    have h1 := h l (by simp)
    have h2 := ih (fun j hj => h j (by simp [hj]))
    have h3 : partsB (l :: ls) = partB l ++ partsB ls := by simp [partsB]
    rw [h3, List.length_append, partB_length, List.length_cons, Nat.mul_add]
    omega
theorem big_le {l : List (Int × List UInt8)} (h : BigE l) : (l.map envW).length ≤ 30 ∧ (∀ x ∈ l.map envW, x.length ≤ 1000012) ∧ (batB l).length ≤ 10000000000000 := by
  obtain ⟨h1, h2⟩ := h
  have h3 : ∀ x ∈ l.map envW, x.length ≤ 1000012 := fun x hx => by
    obtain ⟨e, he, rfl⟩ := List.mem_map.1 hx
    have := h2 e he
    rw [envW_length]; omega
  have h4 : (l.map envW).length ≤ 30 := by rw [List.length_map]; exact h1
  refine ⟨h4, h3, ?_⟩
  unfold batB
  rw [encT_length]
  have := partsB_big 1000012 (l.map envW) h3
  omega
set_option maxHeartbeats 2000000 in
theorem hBatch_any (A : Option Addr) (c : Nat) (l : List (Int × List UInt8)) (w : World) (h : EnvK w A c l) (hf : BigE l) : Calls Tryz.prog 99 #[.slice A l.length c] w (Tells (batB l) w) := by
  obtain ⟨hf1, hf2⟩ := id hf
  obtain ⟨g1, g2, g3⟩ := big_le hf
  have HX := Lib.hid (fun k hk => env_open h k hk)
  have HD := Lib.hid hf2
  have HOF := Lib.hid (fun v W (hv : Bss W v (l.map envW)) => Of_any 8 v (l.map envW) W hv (by omega) (fun x hx => by have := g2 x hx; omega) g3)
  have hmk := fun (W : World) => run_make_row' (P := Tryz.prog) 112 33 (.slice none 0 0) 24 Tryz.underlying112 rowinfo rfl .i64 .i64 l.length (by omega) (by omega) W
  have hn63 : l.length ≤ 9223372036854775807 := by omega
  have hm0 := World.rowIs_made w (.slice none 0 0) l.length 33
  have HM0 := Lib.hid hm0
  have HL30 := Lib.hid hf1
  unfold batB
  clear hm0 h hf hf2 g1 g2 g3
  go_enter Tryz.func99, Tryz.ntmps99
  go_wp2
  go_loopw [11] (fun i wr => ∃ (k : Nat) (xs : Nat → Value), k ≤ l.length ∧ i = .int .i64 k ∧ wr.rowIs w.heap.size 33 l.length xs ∧ (∀ j (hj : j < l.length), j < k → Bs wr (xs j) (envW l[j]) ∧ (∀ g, (xs j).ownBlock = some g → g ≠ w.heap.size)) ∧ Below w.heap.size w wr) (fun i _ => l.length - (intOf i).toNat)
  case atStart => exact ⟨0, _, Nat.zero_le _, rfl, HM0.out, fun j hj h => absurd h (Nat.not_lt_zero _), alloc1B _ _⟩
  case round =>
    obtain ⟨k, xs, hk, rfl, hrow, hxs, hbel⟩ := hrel
    have HROW := Lib.hid hrow
    have HXS := Lib.hid hxs
    have HBEL := Lib.hid hbel
    clear hrow hxs hbel
    by_cases hlt : k < l.length
    · have hltI : (k : Int) < (l.length : Int) := by omega
      obtain ⟨ad, bv, rfl, hbl, h1, h2, h3⟩ := HX.out k hlt
      obtain ⟨BA, bc1, rfl, -⟩ := h3.open
      have c1 := cellM HBEL.out (p := ad.add (k * 2)) (by rw [block_add]; exact hbl) h1
      have c2 := cellM HBEL.out (p := ⟨(ad.add (k * 2)).block, (ad.add (k * 2)).off + 1, none⟩) (by rw [block_add]; exact hbl) h2
      have hle := HD.out _ (List.getElem_mem hlt)
      generalize hx : l[k] = x at h1 h2 h3 c1 c2 hle
      have HXX := Lib.hid hx
      have HP := Lib.hid (fun W (hb : Below w.heap.size w W) => show Calls Tryz.prog 144 #[.agg #[.int .i64 x.1, .slice BA x.2.length bc1]] W (Puts W (envW x)) from gPutEnv_any x _ W (h3.below hb (Nat.le_refl _)) (by omega))
      clear h1 h2 h3 hx hle
      generalize hex : envW x = lf at *
      have HEX := Lib.hid hex
      clear hex
      generalize x.1 = s at *
      generalize x.2.length = xn at *
      go_wp2_with (first
        | (go_at_call 144; refine (HP.out _ (bel2M HBEL.out (alloc1B _ _))).mono ?_; rintro e w2 ⟨v2, rfl, ho2, hb2⟩; have HO2 := Lib.hid ho2; have HB2 := Lib.hid (bel2M (alloc1B wr _) hb2); obtain ⟨A2, cc2, he2, -⟩ := (own_bs ho2).open; subst he2; have hrow2 := HROW.out.of_block (HB2.out.block _ HROW.out.lt); have hc2 := hrow2.cell hlt; have hf2 := hrow2.frozen k; have HROW2 := Lib.hid hrow2; clear ho2 hb2 hrow2))
      go_roundw
      case rel =>
        have hz := HB2.out.size
        have hz2 := HBEL.out.size
        have hz3 := HROW.out.lt
        refine ⟨k + 1, fun j => if j = k then _ else xs j, by omega, by go_num, HROW2.out.set k _, fun j hj hjk => ?_, (bel2M HBEL.out HB2.out).setCell (by simp) _⟩
        have hoff : ∀ g, (Value.slice A2 lf.length cc2).ownBlock = some g → g ≠ w.heap.size := fun g hg => by
          have h0 : (wr.alloc (.cells #[.int .i64 s, .slice BA xn bc1] 35)).heap.size ≤ g := (HO2.out.lt g hg).1
          rw [World.size_alloc] at h0
          omega
        by_cases h : j = k
        · subst h
          simp only [if_pos]
          refine ⟨?_, hoff⟩
          rw [HXX.out, HEX.out]
          exact keepB (own_bs HO2.out) (by simp) (fun g hg => Go.Deep.blk_setCell_other _ _ _ _ (hoff g hg))
        · have h2 := HXS.out j hj (by omega)
          simp only [if_neg h]
          refine ⟨keepB (h2.1.below HB2.out (Nat.le_refl _)) (by simp) (fun g hg => Go.Deep.blk_setCell_other _ _ _ _ (h2.2 g hg)), h2.2⟩
      case measure => simp [intOf]; omega
    · obtain rfl : k = l.length := by omega
      have hltI : ¬ (l.length : Int) < (l.length : Int) := by omega
      have hmapl : (l.map envW).length = l.length := List.length_map ..
      have hbs := bss_rowIs (ls := l.map envW) (xs := xs) (by rw [hmapl]; exact HROW.out) (fun j hj => by rw [List.getElem_map]; exact (HXS.out j (by rw [hmapl] at hj; exact hj) (by rw [hmapl] at hj; exact hj)).1) (by rw [hmapl]; have := HL30.out; omega)
      rw [hmapl] at hbs
      have HBS := Lib.hid hbs
      clear hbs hmapl
      go_wp2_with (go_at_call 145; refine (HOF.out _ _ HBS.out).mono ?_; rintro e w2 ⟨rfl, hb2⟩)
      go_ret
      exact ⟨rfl, bel2M HBEL.out hb2⟩
set_option maxHeartbeats 2000000 in
theorem rhBatch_any (A : Option Addr) (c : Nat) (l : List (Int × List UInt8)) (w : World) (h : EnvK w A c l) (hf : BigE l) : Calls Tryz.prog 16 #[.slice A l.length c] w (Tells (batB l) w) := by
  obtain ⟨i0, hi0, hz0, hz1, hz2⟩ := info_parts rowinfo
  obtain ⟨hf1, hf2⟩ := id hf
  obtain ⟨g1, g2, g3⟩ := big_le hf
  have HX := Lib.hid (fun k hk => env_open h k hk)
  have HD := Lib.hid hf2
  have HOF := Lib.hid (fun v W (hv : Bss W v (l.map envW)) => rOf_any 8 v (l.map envW) W hv (by omega) (fun x hx => by have := g2 x hx; omega) g3)
  have hn63 : l.length ≤ 9223372036854775807 := by omega
  have HTK := Lib.hid (fun k (hk : k < l.length) => show (l.take (k + 1)).map envW = (l.take k).map envW ++ [envW l[k]] by rw [List.take_succ_eq_append_getElem hk, List.map_append]; rfl)
  unfold batB
  clear h hf hf2 g1 g2 g3
  go_enter Tryz.func16, Tryz.ntmps16
  go_wp2
  go_loopw [3, 4] (fun v i wr => ∃ (k : Nat), k ≤ l.length ∧ i = .int .i64 k ∧ Grows w.heap.size wr v ((l.take k).map envW) ∧ Below w.heap.size w wr) (fun _ i _ => l.length - (intOf i).toNat)
  case atStart => exact ⟨0, Nat.zero_le _, rfl, Grows.start _ _, Below.refl _ _⟩
  case round =>
    obtain ⟨k, hk, rfl, hrow, hbel⟩ := hrel
    have HROW := Lib.hid hrow
    have HBEL := Lib.hid hbel
    clear hrow hbel
    by_cases hlt : k < l.length
    · have hltI : (k : Int) < (l.length : Int) := by omega
      obtain ⟨ad, bv, rfl, hbl, h1, h2, h3⟩ := HX.out k hlt
      obtain ⟨BA, bc1, rfl, -⟩ := h3.open
      have c1 := cellM HBEL.out (p := ad.add (k * 2)) (by rw [block_add]; exact hbl) h1
      have c2 := cellM HBEL.out (p := ⟨(ad.add (k * 2)).block, (ad.add (k * 2)).off + 1, none⟩) (by rw [block_add]; exact hbl) h2
      have hle := HD.out _ (List.getElem_mem hlt)
      have htk := HTK.out k hlt
      generalize hx : l[k] = x at h1 h2 h3 c1 c2 hle htk
      have HP := Lib.hid (fun W (hb : Below w.heap.size w W) => show Calls Tryz.prog 54 #[.slice none 0 0, .agg #[.int .i64 x.1, .slice BA x.2.length bc1]] W (Puts W (envW x)) from rEnv_any x _ W (h3.below hb (Nat.le_refl _)) (by omega))
      have HTT := Lib.hid htk
      clear h1 h2 h3 hx hle htk
      generalize envW x = lf at *
      generalize x.1 = s at *
      generalize x.2.length = xn at *
      obtain ⟨xs, hown, hin⟩ := HROW.out
      have hxl : ((l.take k).map envW).length = k := by simp; omega
      have hxn : xs.length = ((l.take k).map envW).length := by have := hown.1; simp at this; simp; omega
      rw [hxl] at hown
      have HOWN := Lib.hid hown
      have HIN := Lib.hid hin
      have HXN := Lib.hid hxn
      clear hown hin hxl hxn
      go_wp2_with (first
        | (go_at_call 54; refine (HP.out _ HBEL.out).mono ?_; rintro e w2 ⟨v2, rfl, ho2, hb2⟩; have HO2 := Lib.hid ho2; have HB2 := Lib.hid hb2; obtain ⟨A2, cc2, he2, -⟩ := (own_bs ho2).open; subst he2; have HB3 := Lib.hid (bel2M HB2.out (alloc1B w2 (.cells #[.slice A2 lf.length cc2] 33))); have HOW := Lib.hid (own_belowM HOWN.out HB3.out); clear ho2 hb2)
        | (at_builtin; refine wpList_append_rdo _ rfl (.tmp 11) (.tmp 17) 112 rfl w.heap.size 33 i0 _ 24 Tryz.underlying112 hi0 hz0 hz1 hz2 rfl _ k xs rfl HOW.out _ [.slice A2 lf.length cc2] rfl (Rd.one w2 _ 33) (by intro u hu; simp at hu; subst hu; rfl) (by simp; unfold maxLen; omega) (by simp; omega) (Nat.le_trans HBEL.out.size HB3.out.size) ?_; intro v3 w3 hown3 hg3 hob3))
      have hgr := Grows.push (l := lf) (B := w.heap.size) (ls := (l.take k).map envW) (fun j y m hy hm => ⟨(HIN.out j y m hy hm).1.below HB3.out (Nat.le_refl _), (HIN.out j y m hy hm).2⟩) HXN.out ((own_bs HO2.out).below (alloc1B w2 _) (Nat.le_refl _)) (fun _ g hg e => by
        have h0 : wr.heap.size ≤ g := (HO2.out.lt g hg).1
        have := (HOWN.out.lt g e).2
        omega) hown3 hg3 hob3
      rw [← HTT.out] at hgr
      have hb4 := (bel2M HBEL.out HB3.out).grown hg3 (Nat.le_trans HBEL.out.size HB3.out.size) (fun g hg => (HOW.out.lt g hg).1)
      go_roundw
      case rel => exact ⟨k + 1, by omega, by go_num, hgr, hb4⟩
      case measure => simp [intOf]; omega
    · obtain rfl : k = l.length := by omega
      have hltI : ¬ (l.length : Int) < (l.length : Int) := by omega
      have hbs := HROW.out.bss
      rw [List.take_length] at hbs
      have HBS := Lib.hid hbs
      clear hbs
      go_wp2_with (go_at_call 55; refine (HOF.out _ _ HBS.out).mono ?_; rintro e w2 ⟨rfl, hb2⟩)
      go_ret
      exact ⟨rfl, bel2M HBEL.out hb2⟩

def preX (o : Msg × Int) (s pr bt : Int) : Msg × Int := if o.2 = 0 then (if s = pr then (if o.1.d = batB o.1.b then (if bt = 0 then (o.1, 0) else (msg0, bt)) else (msg0, 132)) else (msg0, 133)) else (msg0, o.2)
theorem preX_1 (m : Msg) (s pr bt : Int) (h : ¬ s = pr) : preX (m, 0) s pr bt = (msg0, 133) := by unfold preX; rw [if_pos rfl, if_neg h]
theorem preX_2 (m : Msg) (s pr bt : Int) (h : s = pr) (h2 : ¬ m.d = batB m.b) : preX (m, 0) s pr bt = (msg0, 132) := by unfold preX; rw [if_pos rfl, if_pos h, if_neg h2]
theorem preX_3 (m : Msg) (s pr bt : Int) (h : s = pr) (h2 : m.d = batB m.b) (h3 : ¬ bt = 0) : preX (m, 0) s pr bt = (msg0, bt) := by unfold preX; rw [if_pos rfl, if_pos h, if_pos h2, if_neg h3]
theorem preX_4 (m : Msg) (s pr : Int) (h : s = pr) (h2 : m.d = batB m.b) : preX (m, 0) s pr 0 = (m, 0) := by unfold preX; rw [if_pos rfl, if_pos h, if_pos h2, if_pos rfl]
abbrev SPa (w3 : World) (a b : Addr) (x y : Value) : World → Prop := fun W => Below w3.heap.size w3 W ∧ W.cell? a = some x ∧ W.cell? b = some y
set_option maxHeartbeats 4000000 in
theorem hPre_of (pa : Value) (e : Int × List UInt8) (bv : Value) (o : Msg × Int) (pr bt : Int) (w : World) (hv : Bs w bv e.2)
    (hO : ∀ W, Below w.heap.size w W → Calls Tryz.prog 109 #[pa, agE e.1 bv, .int .i64 2] W (DecN o W))
    (hP : o.2 = 0 → ∀ W, Below w.heap.size w W → Calls Tryz.prog 102 #[pa, .int .i64 o.1.v] W (Says (.int .i64 pr) W))
    (hG : o.2 = 0 → ∀ W P, MsgK W o.1 P → Calls Tryz.prog 99 #[.slice P.b.1 o.1.b.length P.b.2] W (Tells (batB o.1.b) W))
    (hT : o.2 = 0 → ∀ W P, Below w.heap.size w W → MsgK W o.1 P → Calls Tryz.prog 110 #[pa, .slice P.b.1 o.1.b.length P.b.2] W (Ans (.int .i64 bt) W)) :
    Calls Tryz.prog 49 #[pa, agE e.1 bv] w (DecN (preX o e.1 pr bt) w) := by
  obtain ⟨BA, bc0, rfl, -⟩ := hv.open
  have HO := Lib.hid hO
  clear hO hv
  obtain ⟨x1, x2, x3⟩ := box2B w #[.int .i64 e.1, .slice BA e.2.length bc0] msH 35 46
  obtain ⟨m, y⟩ := o
  simp only at *
  by_cases h0 : y = 0
  · subst h0
    have HPR := Lib.hid (hP rfl)
    have HG := Lib.hid (hG rfl)
    have HT := Lib.hid (hT rfl)
    clear hP hG hT
    by_cases h1 : e.1 = pr
    · by_cases h2 : m.d = batB m.b
      · have q1 : (e.1 != pr) = false := by simpa using h1
        have q2 : ((strB m.d).toList == (strB (batB m.b)).toList) = true := by rw [h2]; simp
        by_cases h3 : bt = 0
        · subst h3
          rw [preX_4 m _ _ h1 h2]
          clear h1 h2
          generalize batB m.b = dg at *
          go_enter Tryz.func49, Tryz.ntmps49
          go_upto_region 1 with fail
          generalize hw0 : (w.alloc _).alloc _ = w0 at *
          have HR := Lib.hid x1
          have HX := Lib.hid x2
          have HB := Lib.hid x3
          clear x1 x2 x3 hw0
          go_upto_region 4 with (first
            | (go_at_call 109; go_loud (refine (HO.out _ HB.out).mono ?_; rintro e w2 ⟨P, rfl, hk, hb⟩; have HB1 := Lib.hid HB.out; have HK := Lib.hid hk; have HP := Lib.hid (keep_alloc (B := w0.heap.size) w2 (.cells (msC m P) 46)); have HZ1 := Lib.hid (Array.getElem?_eq_some_iff.1 HX.out).1; have HR := Lib.hid (heapB HR.out hb); have HX := Lib.hid (heapB HX.out hb); have HB := Lib.hid (bel2M HB.out hb); have HBX := Lib.hid (heap_alloc_new w2 (.cells (msC m P) 46)); have HR := Lib.hid (heapB HR.out (alloc1B w2 (.cells (msC m P) 46))); have HX := Lib.hid (heapB HX.out (alloc1B w2 (.cells (msC m P) 46))); have HB := Lib.hid (bel2M HB.out (alloc1B w2 (.cells (msC m P) 46))); have HZ := Lib.hid True.intro; clear hb hk))
            | (refine wpList_load_mid rfl 35 _ rfl w.heap.size 0 rfl _ _ (heap_all HR.out) Tryz.underlying35 rfl (by kernel_rfl) ?_)
            | (refine wpList_storeAll rfl 46 _ _ rfl (w.heap.size + 1) _ _ rfl rfl HX.out rfl (by kernel_rfl) (by kernel_rfl) ?_; intro w9 hz hh ho; have HY := Lib.hid hh; have HB9 := Lib.hid (onlyBelow HB.out ho (by omega) (Nat.le_refl _)); have HO9 := Lib.hid ho; clear hz hh ho))
          generalize hw3 : w2.alloc _ = w3 at *
          have HK1 := Lib.hid (show ∀ W, Below w3.heap.size w3 W → SPa w3 ⟨w.heap.size, 0, none⟩ ⟨w2.heap.size, 1, none⟩ (.int .i64 e.1) (.int .i64 m.v) W from fun W h => ⟨h, cellB (rowCell HR.out 0 _ rfl) h, cellB (rowCell HBX.out 1 _ rfl) h⟩)
          have HD := Lib.hid (HK1.out w3.drew (Below.refl _ _).drew)
          clear hw3
          go_region_held3 (SPa w3 ⟨w.heap.size, 0, none⟩ ⟨w2.heap.size, 1, none⟩ (.int .i64 e.1) (.int .i64 m.v)) (exact HD.out) (first | (go_at_call 102; refine (HPR.out _ (bel2M HB.out HD.out.1)).mono ?_; rintro e w5 ⟨rfl, rfl⟩))
          go_upto_region 6 with fail
          have HK2 := Lib.hid (show ∀ W, Below w3.heap.size w3 W → SPa w3 ⟨w2.heap.size, 5, none⟩ ⟨w2.heap.size, 9, none⟩ (.string (strB m.d)) (.slice P.b.1 m.b.length P.b.2) W from fun W h => ⟨h, cellB (rowCell HBX.out 5 _ rfl) h, cellB (rowCell HBX.out 9 _ rfl) h⟩)
          have HE := Lib.hid (HK2.out w3.drew.drew HD.out.1.drew)
          have HMK := Lib.hid (show MsgK w3.drew.drew m P from HK.out _ (keep_below HP.out HE.out.1))
          go_region_held3 (SPa w3 ⟨w2.heap.size, 5, none⟩ ⟨w2.heap.size, 9, none⟩ (.string (strB m.d)) (.slice P.b.1 m.b.length P.b.2)) (first | exact HE.out | exact HE6.out) (first | (go_at_call 99; refine (HG.out _ P HMK.out).mono ?_; rintro e w6 ⟨rfl, hb6⟩; have HE6 := Lib.hid (HK2.out w6 (bel2M HE.out.1 hb6)); have HB6 := Lib.hid hb6; clear hb6))
          have HR := Lib.hid (heapB HR.out HE6.out.1)
          have HX := Lib.hid (heapB HX.out HE6.out.1)
          have HBX := Lib.hid (heapB HBX.out HE6.out.1)
          have m9 := rowCell HBX.out 9 (.slice P.b.1 m.b.length P.b.2) rfl
          have HB := Lib.hid (bel2M HB.out HE6.out.1)
          have HP := Lib.hid (keep_below HP.out HE6.out.1)
          go_wp2_with (first
            | (go_at_call 110; go_loud (refine (HT.out _ P HB.out (HK.out _ HP.out)).mono ?_; rintro e w7 ⟨rfl, hb⟩; have HR := Lib.hid (heapB HR.out hb); have HX := Lib.hid (heapB HX.out hb); have HBX := Lib.hid (heapB HBX.out hb); have HP := Lib.hid (keep_below HP.out hb); have HB := Lib.hid (bel2M HB.out hb); clear hb))
            | (refine wpList_load_mid rfl 46 _ rfl w2.heap.size 0 rfl _ _ (heap_all HBX.out) Tryz.underlying46 rfl (by kernel_rfl) ?_)
            | (refine wpList_storeAll rfl 46 _ _ rfl (w.heap.size + 1) _ _ rfl rfl HX.out rfl (by kernel_rfl) (by kernel_rfl) ?_; intro w9 hz hh ho; have HY := Lib.hid hh; have HB9 := Lib.hid (onlyBelow HB.out ho (by omega) (Nat.le_refl _)); have HO9 := Lib.hid ho; clear hz hh ho))
          refine bodyPost_ret (results_cell2 rfl _ _ (w.heap.size + 1) 46 _ (0, 0) _ rfl HY.out Tryz.underlying46 rfl (by kernel_rfl)) rfl ?_
          exact ⟨P, rfl, fun W hW => HK.out W (kpb_to (keep_only HP.out HO9.out HZ1.out) hW HB1.out.size), HB9.out⟩
        · rw [preX_3 m _ _ _ h1 h2 h3]
          have q3 : (bt != 0) = true := by simpa using h3
          clear h1 h2 h3
          generalize batB m.b = dg at *
          go_enter Tryz.func49, Tryz.ntmps49
          go_upto_region 1 with fail
          generalize hw0 : (w.alloc _).alloc _ = w0 at *
          have HR := Lib.hid x1
          have HX := Lib.hid x2
          have HB := Lib.hid x3
          clear x1 x2 x3 hw0
          go_upto_region 4 with (first
            | (go_at_call 109; go_loud (refine (HO.out _ HB.out).mono ?_; rintro e w2 ⟨P, rfl, hk, hb⟩; have HB1 := Lib.hid HB.out; have HK := Lib.hid hk; have HP := Lib.hid (keep_alloc (B := w0.heap.size) w2 (.cells (msC m P) 46)); have HZ1 := Lib.hid (Array.getElem?_eq_some_iff.1 HX.out).1; have HR := Lib.hid (heapB HR.out hb); have HX := Lib.hid (heapB HX.out hb); have HB := Lib.hid (bel2M HB.out hb); have HBX := Lib.hid (heap_alloc_new w2 (.cells (msC m P) 46)); have HR := Lib.hid (heapB HR.out (alloc1B w2 (.cells (msC m P) 46))); have HX := Lib.hid (heapB HX.out (alloc1B w2 (.cells (msC m P) 46))); have HB := Lib.hid (bel2M HB.out (alloc1B w2 (.cells (msC m P) 46))); have HZ := Lib.hid True.intro; clear hb hk))
            | (refine wpList_load_mid rfl 35 _ rfl w.heap.size 0 rfl _ _ (heap_all HR.out) Tryz.underlying35 rfl (by kernel_rfl) ?_)
            | (refine wpList_storeAll rfl 46 _ _ rfl (w.heap.size + 1) _ _ rfl rfl HX.out rfl (by kernel_rfl) (by kernel_rfl) ?_; intro w9 hz hh ho; have HY := Lib.hid hh; have HB9 := Lib.hid (onlyBelow HB.out ho (by omega) (Nat.le_refl _)); have HO9 := Lib.hid ho; clear hz hh ho))
          generalize hw3 : w2.alloc _ = w3 at *
          have HK1 := Lib.hid (show ∀ W, Below w3.heap.size w3 W → SPa w3 ⟨w.heap.size, 0, none⟩ ⟨w2.heap.size, 1, none⟩ (.int .i64 e.1) (.int .i64 m.v) W from fun W h => ⟨h, cellB (rowCell HR.out 0 _ rfl) h, cellB (rowCell HBX.out 1 _ rfl) h⟩)
          have HD := Lib.hid (HK1.out w3.drew (Below.refl _ _).drew)
          clear hw3
          go_region_held3 (SPa w3 ⟨w.heap.size, 0, none⟩ ⟨w2.heap.size, 1, none⟩ (.int .i64 e.1) (.int .i64 m.v)) (exact HD.out) (first | (go_at_call 102; refine (HPR.out _ (bel2M HB.out HD.out.1)).mono ?_; rintro e w5 ⟨rfl, rfl⟩))
          go_upto_region 6 with fail
          have HK2 := Lib.hid (show ∀ W, Below w3.heap.size w3 W → SPa w3 ⟨w2.heap.size, 5, none⟩ ⟨w2.heap.size, 9, none⟩ (.string (strB m.d)) (.slice P.b.1 m.b.length P.b.2) W from fun W h => ⟨h, cellB (rowCell HBX.out 5 _ rfl) h, cellB (rowCell HBX.out 9 _ rfl) h⟩)
          have HE := Lib.hid (HK2.out w3.drew.drew HD.out.1.drew)
          have HMK := Lib.hid (show MsgK w3.drew.drew m P from HK.out _ (keep_below HP.out HE.out.1))
          go_region_held3 (SPa w3 ⟨w2.heap.size, 5, none⟩ ⟨w2.heap.size, 9, none⟩ (.string (strB m.d)) (.slice P.b.1 m.b.length P.b.2)) (first | exact HE.out | exact HE6.out) (first | (go_at_call 99; refine (HG.out _ P HMK.out).mono ?_; rintro e w6 ⟨rfl, hb6⟩; have HE6 := Lib.hid (HK2.out w6 (bel2M HE.out.1 hb6)); have HB6 := Lib.hid hb6; clear hb6))
          have HR := Lib.hid (heapB HR.out HE6.out.1)
          have HX := Lib.hid (heapB HX.out HE6.out.1)
          have HBX := Lib.hid (heapB HBX.out HE6.out.1)
          have m9 := rowCell HBX.out 9 (.slice P.b.1 m.b.length P.b.2) rfl
          have HB := Lib.hid (bel2M HB.out HE6.out.1)
          have HP := Lib.hid (keep_below HP.out HE6.out.1)
          go_wp2_with (first
            | (go_at_call 110; go_loud (refine (HT.out _ P HB.out (HK.out _ HP.out)).mono ?_; rintro e w7 ⟨rfl, hb⟩; have HR := Lib.hid (heapB HR.out hb); have HX := Lib.hid (heapB HX.out hb); have HBX := Lib.hid (heapB HBX.out hb); have HP := Lib.hid (keep_below HP.out hb); have HB := Lib.hid (bel2M HB.out hb); clear hb))
            | (refine wpList_load_mid rfl 46 _ rfl w2.heap.size 0 rfl _ _ (heap_all HBX.out) Tryz.underlying46 rfl (by kernel_rfl) ?_)
            | (refine wpList_storeAll rfl 46 _ _ rfl (w.heap.size + 1) _ _ rfl rfl HX.out rfl (by kernel_rfl) (by kernel_rfl) ?_; intro w9 hz hh ho; have HY := Lib.hid hh; have HB9 := Lib.hid (onlyBelow HB.out ho (by omega) (Nat.le_refl _)); have HO9 := Lib.hid ho; clear hz hh ho))
          refine bodyPost_ret (results_cell2 rfl _ _ (w.heap.size + 1) 46 _ (0, 0) _ rfl HY.out Tryz.underlying46 rfl (by kernel_rfl)) rfl ?_
          exact decN0 w _ bt HB9.out
      · rw [preX_2 m _ _ _ h1 h2]
        have q1 : (e.1 != pr) = false := by simpa using h1
        have q2 := digH_ne h2
        clear h1 h2
        generalize batB m.b = dg at *
        go_enter Tryz.func49, Tryz.ntmps49
        go_upto_region 1 with fail
        generalize hw0 : (w.alloc _).alloc _ = w0 at *
        have HR := Lib.hid x1
        have HX := Lib.hid x2
        have HB := Lib.hid x3
        clear x1 x2 x3 hw0
        go_upto_region 4 with (first
          | (go_at_call 109; go_loud (refine (HO.out _ HB.out).mono ?_; rintro e w2 ⟨P, rfl, hk, hb⟩; have HB1 := Lib.hid HB.out; have HK := Lib.hid hk; have HP := Lib.hid (keep_alloc (B := w0.heap.size) w2 (.cells (msC m P) 46)); have HZ1 := Lib.hid (Array.getElem?_eq_some_iff.1 HX.out).1; have HR := Lib.hid (heapB HR.out hb); have HX := Lib.hid (heapB HX.out hb); have HB := Lib.hid (bel2M HB.out hb); have HBX := Lib.hid (heap_alloc_new w2 (.cells (msC m P) 46)); have HR := Lib.hid (heapB HR.out (alloc1B w2 (.cells (msC m P) 46))); have HX := Lib.hid (heapB HX.out (alloc1B w2 (.cells (msC m P) 46))); have HB := Lib.hid (bel2M HB.out (alloc1B w2 (.cells (msC m P) 46))); have HZ := Lib.hid True.intro; clear hb hk))
          | (refine wpList_load_mid rfl 35 _ rfl w.heap.size 0 rfl _ _ (heap_all HR.out) Tryz.underlying35 rfl (by kernel_rfl) ?_)
          | (refine wpList_storeAll rfl 46 _ _ rfl (w.heap.size + 1) _ _ rfl rfl HX.out rfl (by kernel_rfl) (by kernel_rfl) ?_; intro w9 hz hh ho; have HY := Lib.hid hh; have HB9 := Lib.hid (onlyBelow HB.out ho (by omega) (Nat.le_refl _)); have HO9 := Lib.hid ho; clear hz hh ho))
        generalize hw3 : w2.alloc _ = w3 at *
        have HK1 := Lib.hid (show ∀ W, Below w3.heap.size w3 W → SPa w3 ⟨w.heap.size, 0, none⟩ ⟨w2.heap.size, 1, none⟩ (.int .i64 e.1) (.int .i64 m.v) W from fun W h => ⟨h, cellB (rowCell HR.out 0 _ rfl) h, cellB (rowCell HBX.out 1 _ rfl) h⟩)
        have HD := Lib.hid (HK1.out w3.drew (Below.refl _ _).drew)
        clear hw3
        go_region_held3 (SPa w3 ⟨w.heap.size, 0, none⟩ ⟨w2.heap.size, 1, none⟩ (.int .i64 e.1) (.int .i64 m.v)) (exact HD.out) (first | (go_at_call 102; refine (HPR.out _ (bel2M HB.out HD.out.1)).mono ?_; rintro e w5 ⟨rfl, rfl⟩))
        go_upto_region 6 with fail
        have HK2 := Lib.hid (show ∀ W, Below w3.heap.size w3 W → SPa w3 ⟨w2.heap.size, 5, none⟩ ⟨w2.heap.size, 9, none⟩ (.string (strB m.d)) (.slice P.b.1 m.b.length P.b.2) W from fun W h => ⟨h, cellB (rowCell HBX.out 5 _ rfl) h, cellB (rowCell HBX.out 9 _ rfl) h⟩)
        have HE := Lib.hid (HK2.out w3.drew.drew HD.out.1.drew)
        have HMK := Lib.hid (show MsgK w3.drew.drew m P from HK.out _ (keep_below HP.out HE.out.1))
        go_region_held3 (SPa w3 ⟨w2.heap.size, 5, none⟩ ⟨w2.heap.size, 9, none⟩ (.string (strB m.d)) (.slice P.b.1 m.b.length P.b.2)) (first | exact HE.out | exact HE6.out) (first | (go_at_call 99; refine (HG.out _ P HMK.out).mono ?_; rintro e w6 ⟨rfl, hb6⟩; have HE6 := Lib.hid (HK2.out w6 (bel2M HE.out.1 hb6)); have HB6 := Lib.hid hb6; clear hb6))
        have HR := Lib.hid (heapB HR.out HE6.out.1)
        have HX := Lib.hid (heapB HX.out HE6.out.1)
        have HBX := Lib.hid (heapB HBX.out HE6.out.1)
        have m9 := rowCell HBX.out 9 (.slice P.b.1 m.b.length P.b.2) rfl
        have HB := Lib.hid (bel2M HB.out HE6.out.1)
        have HP := Lib.hid (keep_below HP.out HE6.out.1)
        go_wp2_with (first
          | (go_at_call 110; go_loud (refine (HT.out _ P HB.out (HK.out _ HP.out)).mono ?_; rintro e w7 ⟨rfl, hb⟩; have HR := Lib.hid (heapB HR.out hb); have HX := Lib.hid (heapB HX.out hb); have HBX := Lib.hid (heapB HBX.out hb); have HP := Lib.hid (keep_below HP.out hb); have HB := Lib.hid (bel2M HB.out hb); clear hb))
          | (refine wpList_load_mid rfl 46 _ rfl w2.heap.size 0 rfl _ _ (heap_all HBX.out) Tryz.underlying46 rfl (by kernel_rfl) ?_)
          | (refine wpList_storeAll rfl 46 _ _ rfl (w.heap.size + 1) _ _ rfl rfl HX.out rfl (by kernel_rfl) (by kernel_rfl) ?_; intro w9 hz hh ho; have HY := Lib.hid hh; have HB9 := Lib.hid (onlyBelow HB.out ho (by omega) (Nat.le_refl _)); have HO9 := Lib.hid ho; clear hz hh ho))
        refine bodyPost_ret (results_cell2 rfl _ _ (w.heap.size + 1) 46 _ (0, 0) _ rfl HY.out Tryz.underlying46 rfl (by kernel_rfl)) rfl ?_
        exact decN0 w _ 132 HB9.out
    · rw [preX_1 m _ _ _ h1]
      have q1 : (e.1 != pr) = true := by simpa using h1
      clear h1
      generalize batB m.b = dg at *
      go_enter Tryz.func49, Tryz.ntmps49
      go_upto_region 1 with fail
      generalize hw0 : (w.alloc _).alloc _ = w0 at *
      have HR := Lib.hid x1
      have HX := Lib.hid x2
      have HB := Lib.hid x3
      clear x1 x2 x3 hw0
      go_upto_region 4 with (first
        | (go_at_call 109; go_loud (refine (HO.out _ HB.out).mono ?_; rintro e w2 ⟨P, rfl, hk, hb⟩; have HB1 := Lib.hid HB.out; have HK := Lib.hid hk; have HP := Lib.hid (keep_alloc (B := w0.heap.size) w2 (.cells (msC m P) 46)); have HZ1 := Lib.hid (Array.getElem?_eq_some_iff.1 HX.out).1; have HR := Lib.hid (heapB HR.out hb); have HX := Lib.hid (heapB HX.out hb); have HB := Lib.hid (bel2M HB.out hb); have HBX := Lib.hid (heap_alloc_new w2 (.cells (msC m P) 46)); have HR := Lib.hid (heapB HR.out (alloc1B w2 (.cells (msC m P) 46))); have HX := Lib.hid (heapB HX.out (alloc1B w2 (.cells (msC m P) 46))); have HB := Lib.hid (bel2M HB.out (alloc1B w2 (.cells (msC m P) 46))); have HZ := Lib.hid True.intro; clear hb hk))
        | (refine wpList_load_mid rfl 35 _ rfl w.heap.size 0 rfl _ _ (heap_all HR.out) Tryz.underlying35 rfl (by kernel_rfl) ?_)
        | (refine wpList_storeAll rfl 46 _ _ rfl (w.heap.size + 1) _ _ rfl rfl HX.out rfl (by kernel_rfl) (by kernel_rfl) ?_; intro w9 hz hh ho; have HY := Lib.hid hh; have HB9 := Lib.hid (onlyBelow HB.out ho (by omega) (Nat.le_refl _)); have HO9 := Lib.hid ho; clear hz hh ho))
      generalize hw3 : w2.alloc _ = w3 at *
      have HK1 := Lib.hid (show ∀ W, Below w3.heap.size w3 W → SPa w3 ⟨w.heap.size, 0, none⟩ ⟨w2.heap.size, 1, none⟩ (.int .i64 e.1) (.int .i64 m.v) W from fun W h => ⟨h, cellB (rowCell HR.out 0 _ rfl) h, cellB (rowCell HBX.out 1 _ rfl) h⟩)
      have HD := Lib.hid (HK1.out w3.drew (Below.refl _ _).drew)
      clear hw3
      go_region_held3 (SPa w3 ⟨w.heap.size, 0, none⟩ ⟨w2.heap.size, 1, none⟩ (.int .i64 e.1) (.int .i64 m.v)) (exact HD.out) (first | (go_at_call 102; refine (HPR.out _ (bel2M HB.out HD.out.1)).mono ?_; rintro e w5 ⟨rfl, rfl⟩))
      have HX := Lib.hid (heapB HX.out HD.out.1)
      have HB := Lib.hid (bel2M HB.out HD.out.1)
      go_wp2_with (first
        | (refine wpList_storeAll rfl 46 _ _ rfl (w.heap.size + 1) _ _ rfl rfl HX.out rfl (by kernel_rfl) (by kernel_rfl) ?_; intro w9 hz hh ho; have HY := Lib.hid hh; have HB9 := Lib.hid (onlyBelow HB.out ho (by omega) (Nat.le_refl _)); have HO9 := Lib.hid ho; clear hz hh ho))
      refine bodyPost_ret (results_cell2 rfl _ _ (w.heap.size + 1) 46 _ (0, 0) _ rfl HY.out Tryz.underlying46 rfl (by kernel_rfl)) rfl ?_
      exact decN0 w _ 133 HB9.out
  · rw [show preX (m, y) e.1 pr bt = (msg0, y) from if_neg h0]
    have hq : (y != 0) = true := by simpa using h0
    clear h0 hP hG hT
    go_enter Tryz.func49, Tryz.ntmps49
    go_upto_region 1 with fail
    generalize hw0 : (w.alloc _).alloc _ = w0 at *
    have HR := Lib.hid x1
    have HX := Lib.hid x2
    have HB := Lib.hid x3
    clear x1 x2 x3 hw0
    go_wp2_with (first
      | (go_at_call 109; go_loud (refine (HO.out _ HB.out).mono ?_; rintro e w2 ⟨P, rfl, hk, hb⟩; have HB1 := Lib.hid HB.out; have HK := Lib.hid hk; have HP := Lib.hid (keep_alloc (B := w0.heap.size) w2 (.cells (msC m P) 46)); have HZ1 := Lib.hid (Array.getElem?_eq_some_iff.1 HX.out).1; have HR := Lib.hid (heapB HR.out hb); have HX := Lib.hid (heapB HX.out hb); have HB := Lib.hid (bel2M HB.out hb); have HBX := Lib.hid (heap_alloc_new w2 (.cells (msC m P) 46)); have HR := Lib.hid (heapB HR.out (alloc1B w2 (.cells (msC m P) 46))); have HX := Lib.hid (heapB HX.out (alloc1B w2 (.cells (msC m P) 46))); have HB := Lib.hid (bel2M HB.out (alloc1B w2 (.cells (msC m P) 46))); have r0 := rowCell HR.out 0 (.int .i64 e.1) rfl; have m0 := rowCell HBX.out 0 (.int .i64 m.k) rfl; clear hb hk))
      | (refine wpList_load_mid rfl 35 _ rfl w.heap.size 0 rfl _ _ (heap_all HR.out) Tryz.underlying35 rfl (by kernel_rfl) ?_)
      | (refine wpList_storeAll rfl 46 _ _ rfl (w.heap.size + 1) _ _ rfl rfl HX.out rfl (by kernel_rfl) (by kernel_rfl) ?_; intro w9 hz hh ho; have HY := Lib.hid hh; have HB9 := Lib.hid (onlyBelow HB.out ho (by omega) (Nat.le_refl _)); have HO9 := Lib.hid ho; clear hz hh ho))
    refine bodyPost_ret (results_cell2 rfl _ _ (w.heap.size + 1) 46 _ (0, 0) _ rfl HY.out Tryz.underlying46 rfl (by kernel_rfl)) rfl ?_
    exact decN0 w _ y HB9.out

def findX (n : Nat) (r : Nat → Int) (d : Int) : Int := match (List.range n).find? fun k => decide (r k ≠ 0) with
  | some k => r k
  | none => d
theorem findX_ok {n : Nat} {r : Nat → Int} {d : Int} (h : ∀ j, j < n → r j = 0) : findX n r d = d := by
  unfold findX
  have : (List.range n).find? (fun k => decide (r k ≠ 0)) = none := by
    rw [List.find?_eq_none]
    intro x hx
    simp [h x (List.mem_range.1 hx)]
  rw [this]
theorem findX_at {n k : Nat} {r : Nat → Int} {d : Int} (hk : k < n) (h : ∀ j, j < k → r j = 0) (h0 : r k ≠ 0) : findX n r d = r k := by
  unfold findX
  have : (List.range n).find? (fun k => decide (r k ≠ 0)) = some k := by
    rw [List.find?_range_eq_some]
    refine ⟨by simpa using h0, by simpa using hk, fun j hj => ?_⟩
    simp [h j hj]
  rw [this]
theorem findX_zero {n : Nat} {r : Nat → Int} {d : Int} (h : findX n r d = 0) : (∀ j, j < n → r j = 0) ∧ d = 0 := by
  by_cases hall : ∀ j, j < n → r j = 0
  · exact ⟨hall, by rw [findX_ok hall] at h; exact h⟩
  · exfalso
    unfold findX at h
    split at h
    · rename_i k hk
      have := List.find?_some hk
      simp only [ne_eq, decide_eq_true_eq] at this
      exact this h
    · rename_i hn
      rw [List.find?_eq_none] at hn
      exact hall fun j hj => by simpa using hn j (List.mem_range.2 hj)
def batX (n : Nat) (rq : Nat → Rqt) : Int := if 4 < n then 11 else findX n (fun k => (rq k).2) 0
theorem knows_any (pa : Value) (n : Int) (w : World) (h : Calls Tryz.prog 25 #[pa] w (Says (.int .i64 n) w)) : Calls Tryz.prog 106 #[pa] w (Says (.bool (decide (n = 0))) w) := by
  have H := Lib.hid h
  clear h
  go_enter Tryz.func106, Tryz.ntmps106
  go_wp2_with (go_at_call 25; refine H.out.mono ?_; rintro e w5 ⟨rfl, hww⟩; rw [hww]; clear hww w5)
  go_ret
  exact ⟨ret_bool (by by_cases h : n = 0 <;> simp [h]), rfl⟩
set_option maxHeartbeats 2000000 in
theorem hBatch_of (pa : Value) (A : Option Addr) (c : Nat) (l : List (Int × List UInt8)) (w : World) (rq : Nat → Rqt) (hl : EnvK w A c l)
    (hK : ∀ W, Below w.heap.size w W → Calls Tryz.prog 106 #[pa] W (Says (.bool false) W))
    (hQ : ∀ (k : Nat) (hk : k < l.length) W bv, Below w.heap.size w W → Bs W bv l[k].2 → Calls Tryz.prog 50 #[pa, agE l[k].1 bv] W (ReqN (rq k) W)) :
    Calls Tryz.prog 110 #[pa, .slice A l.length c] w (Ans (.int .i64 (batX l.length rq)) w) := by
  have hn63 : l.length ≤ 9223372036854775807 := by have h3 := hl.1; have h4 := hl.2.1; unfold maxLen at h4; omega
  have HK := Lib.hid hK
  have HQ := Lib.hid hQ
  have HX := Lib.hid (fun k hk => env_open hl k hk)
  have HB0 := Lib.hid (Below.refl w.heap.size w)
  clear hK hQ hl
  by_cases h4 : 4 < l.length
  · rw [show batX l.length rq = 11 from if_pos h4]
    have hI : (4 : Int) < (l.length : Int) := by omega
    go_enter Tryz.func110, Tryz.ntmps110
    go_wp2_with (go_at_call 106; refine (HK.out _ HB0.out).mono ?_; rintro e w5 ⟨rfl, hww⟩; rw [hww]; clear hww w5)
    go_ret
    exact ⟨rfl, HB0.out⟩
  · rw [show batX l.length rq = findX l.length (fun k => (rq k).2) 0 from if_neg h4]
    have hI : ¬ (4 : Int) < (l.length : Int) := by omega
    clear h4
    go_enter Tryz.func110, Tryz.ntmps110
    go_wp2_with (go_at_call 106; refine (HK.out _ HB0.out).mono ?_; rintro e w5 ⟨rfl, hww⟩; rw [hww]; clear hww w5)
    go_loopw [16] (fun i wr => ∃ (k : Nat), k ≤ l.length ∧ i = .int .i64 k ∧ (∀ j, j < k → (rq j).2 = 0) ∧ Below w.heap.size w wr) (fun i _ => l.length - (intOf i).toNat)
    case atStart => exact ⟨0, Nat.zero_le _, rfl, fun j hj => absurd hj (Nat.not_lt_zero _), Below.refl _ _⟩
    case round =>
      obtain ⟨k, hk, rfl, hall, hbel⟩ := hrel
      have HALL := Lib.hid hall
      have HBEL := Lib.hid hbel
      clear hall hbel
      by_cases hlt : k < l.length
      · have hltI : (k : Int) < (l.length : Int) := by omega
        have HQK := Lib.hid (HQ.out k hlt)
        obtain ⟨ad, bv, rfl, hbl, h1, h2, h3⟩ := HX.out k hlt
        obtain ⟨BA, bc1, rfl, -⟩ := h3.open
        have c1 := cellM HBEL.out (p := ad.add (k * 2)) (by rw [block_add]; exact hbl) h1
        have c2 := cellM HBEL.out (p := ⟨(ad.add (k * 2)).block, (ad.add (k * 2)).off + 1, none⟩) (by rw [block_add]; exact hbl) h2
        have HV := Lib.hid h3
        have HLT := Lib.hid hlt
        generalize l[k] = x at *
        clear h1 h2 h3 hlt
        have HQL := Lib.hid (fun W (hb : Below w.heap.size w W) => HQK.out W _ hb (HV.out.below hb (Nat.le_refl _)))
        by_cases h0 : (rq k).2 = 0
        · have HA2 := Lib.hid (show ∀ j, j < k + 1 → (rq j).2 = 0 from fun j hj => by
            by_cases hjk : j < k
            · exact HALL.out j hjk
            · obtain rfl : j = k := by omega
              exact h0)
          clear HALL
          rcases hrq : rq k with ⟨⟨rc, rt, rx⟩, re⟩
          rw [hrq] at HQL h0
          simp only at h0
          subst h0
          clear hrq
          go_wp2_with (first
            | (go_at_call 50; refine (HQL.out _ (bel2M HBEL.out (alloc1B _ _))).mono ?_; rintro e w2 ⟨A2, c2', rfl, hk2, hb⟩; have HB2 := Lib.hid (bel2M (bel2M HBEL.out (alloc1B wr _)) hb); clear hb hk2))
          go_roundw
          case rel => exact ⟨k + 1, by have := HLT.out; omega, by go_num, HA2.out, bel2M HB2.out (alloc1B _ _)⟩
          case measure => simp [intOf]; have := HLT.out; omega
        · have hf := findX_at (n := l.length) (d := 0) (r := fun k => (rq k).2) HLT.out HALL.out h0
          (try simp only at hf)
          have HF := Lib.hid hf
          clear hf HALL
          rcases hrq : rq k with ⟨⟨rc, rt, rx⟩, re⟩
          rw [hrq] at HQL h0 HF
          simp only at h0 HF
          have hq : (re != 0) = true := by simpa using h0
          clear hrq h0
          go_wp2_with (first
            | (go_at_call 50; refine (HQL.out _ (bel2M HBEL.out (alloc1B _ _))).mono ?_; rintro e w2 ⟨A2, c2', rfl, hk2, hb⟩; have HB2 := Lib.hid (bel2M (bel2M HBEL.out (alloc1B wr _)) hb); clear hb hk2))
          go_ret
          exact ⟨by rw [HF.out]; rfl, bel2M HB2.out (alloc1B _ _)⟩
      · obtain rfl : k = l.length := by omega
        have hltI : ¬ (l.length : Int) < (l.length : Int) := by omega
        have HF := Lib.hid (findX_ok (d := 0) (r := fun k => (rq k).2) HALL.out)
        go_wp2
        go_ret
        exact ⟨by rw [HF.out]; rfl, HBEL.out⟩

theorem belB {B : Nat} {a b c : World} (h : Below B a b) (hB : B ≤ a.heap.size) (h2 : Below b.heap.size b c) : Below B a c := h.trans (h2.mono (Nat.le_trans hB h.size))
def rndX (vo : Nat → Msg × Int) (mu ds : Nat → Int) (k : Nat) : Int := if (vo k).2 = 0 then (if mu k = 0 then ds (k + 1) else mu k) else (vo k).2
def talX (n : Nat) (enough : Int) (vo : Nat → Msg × Int) (mu ds : Nat → Int) : Int := findX n (rndX vo mu ds) (if (n : Int) < enough then 32 else 0)
theorem rnd_1 {vo : Nat → Msg × Int} {mu ds : Nat → Int} {k : Nat} (h : ¬ (vo k).2 = 0) : rndX vo mu ds k = (vo k).2 := if_neg h
theorem rnd_2 {vo : Nat → Msg × Int} {mu ds : Nat → Int} {k : Nat} (h : (vo k).2 = 0) (h2 : ¬ mu k = 0) : rndX vo mu ds k = mu k := by unfold rndX; rw [if_pos h, if_neg h2]
theorem rnd_3 {vo : Nat → Msg × Int} {mu ds : Nat → Int} {k : Nat} (h : (vo k).2 = 0) (h2 : mu k = 0) : rndX vo mu ds k = ds (k + 1) := by unfold rndX; rw [if_pos h, if_pos h2]
theorem tal_at {n : Nat} {enough : Int} {vo : Nat → Msg × Int} {mu ds : Nat → Int} {k : Nat} (hk : k < n) (h : ∀ j, j < k → rndX vo mu ds j = 0) (h0 : rndX vo mu ds k ≠ 0) : talX n enough vo mu ds = rndX vo mu ds k := findX_at hk h h0
theorem tal_few {n : Nat} {enough : Int} {vo : Nat → Msg × Int} {mu ds : Nat → Int} (h : ∀ j, j < n → rndX vo mu ds j = 0) (he : (n : Int) < enough) : talX n enough vo mu ds = 32 := by unfold talX; rw [findX_ok h, if_pos he]
theorem tal_ok {n : Nat} {enough : Int} {vo : Nat → Msg × Int} {mu ds : Nat → Int} (h : ∀ j, j < n → rndX vo mu ds j = 0) (he : ¬ (n : Int) < enough) : talX n enough vo mu ds = 0 := by unfold talX; rw [findX_ok h, if_neg he]
def TalP (B : Nat) (x : Int) (J : World → Prop) (w : World) (e : Ending) (w' : World) : Prop := e = .returned (.int .i64 x) ∧ Below B w w' ∧ (x = 0 → J w')
set_option maxHeartbeats 4000000 in
theorem tally_P (pa : Value) (b1 b2 : Nat) (A : Option Addr) (c : Nat) (l : List (Int × List UInt8)) (enough : Int) (w0 w : World) (vo : Nat → Msg × Int) (mu ds : Nat → Int) (J : Nat → World → Prop) (hl : EnvK w0 A c l) (hb : Below w0.heap.size w0 w) (hj0 : J 0 w)
    (hJS : ∀ k W W', J k W → Below W.heap.size W W' → J k W')
    (hV : ∀ (k : Nat) (hk : k < l.length) W bv, Below w0.heap.size w0 W → Bs W bv l[k].2 → Calls Tryz.prog 116 #[pa, agE l[k].1 bv, .int .i64 3] W (DecN (vo k) W))
    (hM : ∀ (k : Nat) (hk : k < l.length), (vo k).2 = 0 → ∀ W P, Below w0.heap.size w0 W → J k W → Calls Tryz.prog 58 #[.int .i64 k, agM (vo k).1 P, .pointer (some ⟨b1, 0, none⟩), .pointer (some ⟨b2, 0, none⟩)] W (TalP w0.heap.size (mu k) (J (k + 1)) W))
    (hD : ∀ (k : Nat) (hk : k ≤ l.length) W, Below w0.heap.size w0 W → Calls Tryz.prog 117 #[pa, .slice A k c] W (Ans (.int .i64 (ds k)) W)) :
    Calls Tryz.prog 57 #[pa, .slice A l.length c, .int .i64 3, .int .i64 enough, .func (Fn.func 58) #[] #[.pointer (some ⟨b1, 0, none⟩), .pointer (some ⟨b2, 0, none⟩)]] w (TalP w0.heap.size (talX l.length enough vo mu ds) (J l.length) w) := by
  have hn63 : l.length ≤ 9223372036854775807 := by have h3 := hl.1; have h4 := hl.2.1; unfold maxLen at h4; omega
  have hlc := hl.1
  have HLC := Lib.hid hlc
  have HV := Lib.hid hV
  have HMM := Lib.hid hM
  have HDD := Lib.hid hD
  have HJS := Lib.hid hJS
  have HX := Lib.hid (fun k hk => env_open hl k hk)
  have HB00 := Lib.hid hb
  have HSZ := Lib.hid hb.size
  have HJ0 := Lib.hid hj0
  clear hV hM hD hl hJS hb hj0 hlc
  go_enter Tryz.func57, Tryz.ntmps57
  go_wp2
  go_loopw [17] (fun i wr => ∃ (k : Nat), k ≤ l.length ∧ i = .int .i64 k ∧ (∀ j, j < k → rndX vo mu ds j = 0) ∧ Below w0.heap.size w wr ∧ J k wr) (fun i _ => l.length - (intOf i).toNat)
  case atStart => exact ⟨0, Nat.zero_le _, rfl, fun j hj => absurd hj (Nat.not_lt_zero _), Below.refl _ _, HJ0.out⟩
  case round =>
    obtain ⟨k, hk, rfl, hall, hbel, hj⟩ := hrel
    have HALL := Lib.hid hall
    have HB := Lib.hid hbel
    have HJ := Lib.hid hj
    have HB0 := Lib.hid (HB00.out.trans hbel)
    clear hall hbel hj
    by_cases hlt : k < l.length
    · have hltI : (k : Int) < (l.length : Int) := by omega
      have HVK := Lib.hid (HV.out k hlt)
      have HMK := Lib.hid (HMM.out k hlt)
      have HDK := Lib.hid (HDD.out (k + 1) hlt)
      obtain ⟨ad, bv, rfl, hbl, h1, h2, h3⟩ := HX.out k hlt
      obtain ⟨BA, bc1, rfl, -⟩ := h3.open
      have c1 := cellM HB0.out (p := ad.add (k * 2)) (by rw [block_add]; exact hbl) h1
      have c2 := cellM HB0.out (p := ⟨(ad.add (k * 2)).block, (ad.add (k * 2)).off + 1, none⟩) (by rw [block_add]; exact hbl) h2
      have HV := Lib.hid h3
      have HLT := Lib.hid hlt
      have hsl : ∀ W, (Instr.slice 36 (.slice (some ad) l.length c) none (some (.int .i64 ((k : Int) + 1))) none).run Tryz.prog W = .ok (.slice (some ad) (k + 1) c) W := fun W => by
        have := run_front (some ad) l.length c (k + 1) (by have := HLC.out; omega) W
        simpa using this
      generalize l[k] = x at *
      clear h1 h2 h3 hlt
      have HVL := Lib.hid (fun W (hb : Below w0.heap.size w0 W) => HVK.out W _ hb (HV.out.below hb (Nat.le_refl _)))
      have HALK := Lib.hid (tal_at (enough := enough) HLT.out HALL.out)
      by_cases h0 : (vo k).2 = 0
      · have HMU := Lib.hid (HMK.out h0)
        clear HMK
        by_cases hm : mu k = 0
        · by_cases hd : ds (k + 1) = 0
          · have HA2 := Lib.hid (show ∀ j, j < k + 1 → rndX vo mu ds j = 0 from fun j hj => by
              by_cases hjk : j < k
              · exact HALL.out j hjk
              · obtain rfl : j = k := by omega
                rw [rnd_3 h0 hm]
                exact hd)
            clear HALL
            rw [hm] at HMU
            rw [hd] at HDK
            rcases hvk : vo k with ⟨m, y⟩
            rw [hvk] at HVL h0 HMU
            simp only at h0 HMU
            subst h0
            clear hvk hm hd
            go_wp2_with (first
              | (go_at_call 116; go_loud (refine (HVL.out _ (belB HB0.out (Nat.le_refl _) (alloc1B _ _))).mono ?_; rintro e w2 ⟨P, rfl, hk2, hb⟩; have HM0 := Lib.hid (belB HB0.out (Nat.le_refl _) (bel2M (bel2M (alloc1B wr _) hb) (alloc1B w2 (.cells (msC m P) 46)))); have HM := Lib.hid (belB HB.out HSZ.out (bel2M (bel2M (alloc1B wr _) hb) (alloc1B w2 (.cells (msC m P) 46)))); have HJ2 := Lib.hid (HJS.out _ _ _ HJ.out (bel2M (bel2M (alloc1B wr _) hb) (alloc1B w2 (.cells (msC m P) 46)))); have HBX := Lib.hid (heap_alloc_new w2 (.cells (msC m P) 46)); clear hb hk2))
              | (go_at_call 58; go_loud (refine (HMU.out _ P HM0.out HJ2.out).mono ?_; rintro e w3 ⟨rfl, hb, hj⟩; have HM0 := Lib.hid (HM0.out.trans hb); have HM := Lib.hid (HM.out.trans hb); have HJ3 := Lib.hid hj; clear hb hj))
              | (go_at_call 117; go_loud (refine (HDK.out _ HM0.out).mono ?_; rintro e w4 ⟨rfl, hb⟩; have HJ4 := Lib.hid (HJS.out _ _ _ (HJ3.out (by first | trivial | rfl)) hb); have HM0 := Lib.hid (belB HM0.out (Nat.le_refl _) hb); have HM := Lib.hid (belB HM.out HSZ.out hb); clear hb))
              | (refine wpList_load_mid rfl 46 _ rfl w2.heap.size 0 rfl _ _ (heap_all HBX.out) Tryz.underlying46 rfl (by kernel_rfl) ?_))
            go_roundw
            case rel => exact ⟨k + 1, by have := HLT.out; omega, by go_num, HA2.out, HM.out, HJ4.out⟩
            case measure => simp [intOf]; have := HLT.out; omega
          · have HF := Lib.hid (HALK.out (by rw [rnd_3 h0 hm]; exact hd))
            rw [rnd_3 h0 hm] at HF
            rw [hm] at HMU
            clear HALL HALK
            generalize ds (k + 1) = dd at *
            have HNE := Lib.hid hd
            have hq : (dd != 0) = true := by simpa using hd
            rcases hvk : vo k with ⟨m, y⟩
            rw [hvk] at HVL h0 HMU
            simp only at h0 HMU
            subst h0
            clear hvk hm hd
            go_wp2_with (first
              | (go_at_call 116; go_loud (refine (HVL.out _ (belB HB0.out (Nat.le_refl _) (alloc1B _ _))).mono ?_; rintro e w2 ⟨P, rfl, hk2, hb⟩; have HM0 := Lib.hid (belB HB0.out (Nat.le_refl _) (bel2M (bel2M (alloc1B wr _) hb) (alloc1B w2 (.cells (msC m P) 46)))); have HM := Lib.hid (belB HB.out HSZ.out (bel2M (bel2M (alloc1B wr _) hb) (alloc1B w2 (.cells (msC m P) 46)))); have HJ2 := Lib.hid (HJS.out _ _ _ HJ.out (bel2M (bel2M (alloc1B wr _) hb) (alloc1B w2 (.cells (msC m P) 46)))); have HBX := Lib.hid (heap_alloc_new w2 (.cells (msC m P) 46)); clear hb hk2))
              | (go_at_call 58; go_loud (refine (HMU.out _ P HM0.out HJ2.out).mono ?_; rintro e w3 ⟨rfl, hb, hj⟩; have HM0 := Lib.hid (HM0.out.trans hb); have HM := Lib.hid (HM.out.trans hb); have HJ3 := Lib.hid hj; clear hb hj))
              | (go_at_call 117; go_loud (refine (HDK.out _ HM0.out).mono ?_; rintro e w4 ⟨rfl, hb⟩; have HJ4 := Lib.hid (HJS.out _ _ _ (HJ3.out (by first | trivial | rfl)) hb); have HM0 := Lib.hid (belB HM0.out (Nat.le_refl _) hb); have HM := Lib.hid (belB HM.out HSZ.out hb); clear hb))
              | (refine wpList_load_mid rfl 46 _ rfl w2.heap.size 0 rfl _ _ (heap_all HBX.out) Tryz.underlying46 rfl (by kernel_rfl) ?_))
            go_ret
            exact ⟨by rw [HF.out]; rfl, HM.out, fun h => absurd (HF.out.symm.trans h) HNE.out⟩
        · have HF := Lib.hid (HALK.out (by rw [rnd_2 h0 hm]; exact hm))
          rw [rnd_2 h0 hm] at HF
          clear HALL HALK
          generalize mu k = mm at *
          have HNE := Lib.hid hm
          have hq : (mm == 0) = false := by simpa using hm
          have hq2 : (mm != 0) = true := by simpa using hm
          rcases hvk : vo k with ⟨m, y⟩
          rw [hvk] at HVL h0 HMU
          simp only at h0 HMU
          subst h0
          clear hvk hm
          go_wp2_with (first
            | (go_at_call 116; go_loud (refine (HVL.out _ (belB HB0.out (Nat.le_refl _) (alloc1B _ _))).mono ?_; rintro e w2 ⟨P, rfl, hk2, hb⟩; have HM0 := Lib.hid (belB HB0.out (Nat.le_refl _) (bel2M (bel2M (alloc1B wr _) hb) (alloc1B w2 (.cells (msC m P) 46)))); have HM := Lib.hid (belB HB.out HSZ.out (bel2M (bel2M (alloc1B wr _) hb) (alloc1B w2 (.cells (msC m P) 46)))); have HJ2 := Lib.hid (HJS.out _ _ _ HJ.out (bel2M (bel2M (alloc1B wr _) hb) (alloc1B w2 (.cells (msC m P) 46)))); have HBX := Lib.hid (heap_alloc_new w2 (.cells (msC m P) 46)); clear hb hk2))
            | (go_at_call 58; go_loud (refine (HMU.out _ P HM0.out HJ2.out).mono ?_; rintro e w3 ⟨rfl, hb, hj⟩; have HM0 := Lib.hid (HM0.out.trans hb); have HM := Lib.hid (HM.out.trans hb); have HJ3 := Lib.hid hj; clear hb hj))
            | (go_at_call 117; go_loud (refine (HDK.out _ HM0.out).mono ?_; rintro e w4 ⟨rfl, hb⟩; have HJ4 := Lib.hid (HJS.out _ _ _ (HJ3.out (by first | trivial | rfl)) hb); have HM0 := Lib.hid (belB HM0.out (Nat.le_refl _) hb); have HM := Lib.hid (belB HM.out HSZ.out hb); clear hb))
            | (refine wpList_load_mid rfl 46 _ rfl w2.heap.size 0 rfl _ _ (heap_all HBX.out) Tryz.underlying46 rfl (by kernel_rfl) ?_))
          go_ret
          exact ⟨by rw [HF.out]; rfl, HM.out, fun h => absurd (HF.out.symm.trans h) HNE.out⟩
      · have HF := Lib.hid (HALK.out (by rw [rnd_1 h0]; exact h0))
        rw [rnd_1 h0] at HF
        clear HALL HALK HMK
        rcases hvk : vo k with ⟨m, y⟩
        rw [hvk] at HVL h0 HF
        simp only at h0 HF
        have HNE := Lib.hid h0
        have hq : (y == 0) = false := by simpa using h0
        have hq2 : (y != 0) = true := by simpa using h0
        clear hvk h0
        go_wp2_with (first
          | (go_at_call 116; go_loud (refine (HVL.out _ (belB HB0.out (Nat.le_refl _) (alloc1B _ _))).mono ?_; rintro e w2 ⟨P, rfl, hk2, hb⟩; have HM0 := Lib.hid (belB HB0.out (Nat.le_refl _) (bel2M (bel2M (alloc1B wr _) hb) (alloc1B w2 (.cells (msC m P) 46)))); have HM := Lib.hid (belB HB.out HSZ.out (bel2M (bel2M (alloc1B wr _) hb) (alloc1B w2 (.cells (msC m P) 46)))); have HJ2 := Lib.hid (HJS.out _ _ _ HJ.out (bel2M (bel2M (alloc1B wr _) hb) (alloc1B w2 (.cells (msC m P) 46)))); have HBX := Lib.hid (heap_alloc_new w2 (.cells (msC m P) 46)); clear hb hk2))
          | (go_at_call 58; go_loud (refine (HMU.out _ P HM0.out HJ2.out).mono ?_; rintro e w3 ⟨rfl, hb, hj⟩; have HM0 := Lib.hid (HM0.out.trans hb); have HM := Lib.hid (HM.out.trans hb); have HJ3 := Lib.hid hj; clear hb hj))
          | (go_at_call 117; go_loud (refine (HDK.out _ HM0.out).mono ?_; rintro e w4 ⟨rfl, hb⟩; have HJ4 := Lib.hid (HJS.out _ _ _ (HJ3.out (by first | trivial | rfl)) hb); have HM0 := Lib.hid (belB HM0.out (Nat.le_refl _) hb); have HM := Lib.hid (belB HM.out HSZ.out hb); clear hb))
          | (refine wpList_load_mid rfl 46 _ rfl w2.heap.size 0 rfl _ _ (heap_all HBX.out) Tryz.underlying46 rfl (by kernel_rfl) ?_))
        go_ret
        exact ⟨by rw [HF.out]; rfl, HM.out, fun h => absurd (HF.out.symm.trans h) HNE.out⟩
    · obtain rfl : k = l.length := by omega
      have hltI : ¬ (l.length : Int) < (l.length : Int) := by omega
      by_cases he : (l.length : Int) < enough
      · have HF := Lib.hid (tal_few HALL.out he)
        go_wp2
        go_ret
        exact ⟨by rw [HF.out]; rfl, HB.out, fun h => absurd (HF.out.symm.trans h) (by decide)⟩
      · have HF := Lib.hid (tal_ok HALL.out he)
        go_wp2
        go_ret
        exact ⟨by rw [HF.out]; rfl, HB.out, fun _ => HJ.out⟩

abbrev agC (c : Crt) (bv : Value) (A : Option Addr) (cc : Nat) : Value := .agg #[.int .i64 c.1.1, bv, .slice A c.2.length cc]
def prepX (p : Msg × Int) (t : Int) : Msg × Int := if p.2 = 0 then (if t = 0 then (p.1, 0) else (msg0, t)) else (msg0, p.2)
theorem prepX_no {m : Msg} {t : Int} (h : ¬ t = 0) : prepX (m, 0) t = (msg0, t) := by unfold prepX; rw [if_pos rfl, if_neg h]
theorem prepX_ok {m : Msg} {t : Int} (h : t = 0) : prepX (m, 0) t = (m, 0) := by unfold prepX; rw [if_pos rfl, if_pos h]
def muP (p : Msg) (vo : Nat → Msg × Int) (c : Crt) (k : Nat) : Int := primC p (vo k).1 (c.2.getD k (0, [])).1 c.1.1
abbrev SPv (w3 : World) (a : Addr) (x : Value) : World → Prop := fun W => Below w3.heap.size w3 W ∧ W.cell? a = some x
set_option maxHeartbeats 4000000 in
theorem hPrep_of (pa : Value) (c : Crt) (bv : Value) (A : Option Addr) (cc : Nat) (w : World) (p : Msg × Int) (f : Int) (vo : Nat → Msg × Int) (ds : Nat → Int) (hv : Bs w bv c.1.2) (hl : EnvK w A cc c.2) (hf : 0 ≤ f ∧ f ≤ 100)
    (hP : ∀ W, Below w.heap.size w W → Calls Tryz.prog 49 #[pa, agE c.1.1 bv] W (DecN p W))
    (hF : p.2 = 0 → ∀ W, Below w.heap.size w W → Calls Tryz.prog 21 #[pa] W (Says (.int .i64 f) W))
    (hV : p.2 = 0 → ∀ (k : Nat) (hk : k < c.2.length) W bv, Below w.heap.size w W → Bs W bv c.2[k].2 → Calls Tryz.prog 116 #[pa, agE c.2[k].1 bv, .int .i64 3] W (DecN (vo k) W))
    (hD : p.2 = 0 → ∀ (k : Nat) (hk : k ≤ c.2.length) W, Below w.heap.size w W → Calls Tryz.prog 117 #[pa, .slice A k cc] W (Ans (.int .i64 (ds k)) W)) :
    Calls Tryz.prog 19 #[pa, agC c bv A cc] w (DecN (prepX p (talX c.2.length (2 * f) vo (muP p.1 vo c) ds)) w) := by
  obtain ⟨BA, bc0, rfl, -⟩ := hv.open
  have HPP := Lib.hid hP
  have HL := Lib.hid hl
  have hmu : ∀ (k : Nat) (hk : k < c.2.length), muP p.1 vo c k = primC p.1 (vo k).1 c.2[k].1 c.1.1 := fun k hk => by unfold muP; rw [List.getD_eq_getElem?_getD, List.getElem?_eq_getElem hk]; rfl
  clear hP hv hl
  obtain ⟨⟨s0, b0⟩, l⟩ := c
  obtain ⟨m, y⟩ := p
  simp only at *
  obtain ⟨x1, x2, x3⟩ := box2B w #[.int .i64 s0, .slice BA b0.length bc0, .slice A l.length cc] msH 38 46
  generalize b0.length = bn at *
  by_cases h0 : y = 0
  · subst h0
    have HF := Lib.hid (hF rfl)
    have HV := Lib.hid (hV rfl)
    have HD := Lib.hid (hD rfl)
    have hw2 : IntKind.i64.wrap (2 * f) = 2 * f := by rw [IntKind.wrap_i64]; omega
    clear hF hV hD
    rcases ht : decide (talX l.length (2 * f) vo (muP m vo ((s0, b0), l)) ds = 0) with _ | _
    · rw [show prepX (m, 0) (talX l.length (2 * f) vo (muP m vo ((s0, b0), l)) ds) = (msg0, talX l.length (2 * f) vo (muP m vo ((s0, b0), l)) ds) from prepX_no (by simpa using ht)]
      have hq : (talX l.length (2 * f) vo (muP m vo ((s0, b0), l)) ds != 0) = true := by simpa using ht
      clear ht
      go_enter Tryz.func19, Tryz.ntmps19
      go_upto_region 1 with fail
      generalize hw0 : (w.alloc _).alloc _ = w0 at *
      have HR := Lib.hid x1
      have HX := Lib.hid x2
      have HB := Lib.hid x3
      have r0 := rowCell HR.out 0 (.int .i64 s0) rfl
      have r1 := rowCell HR.out 1 (.slice BA bn bc0) rfl
      clear x1 x2 x3 hw0
      go_upto_region 4 with (first
        | (go_at_call 49; go_loud (refine (HPP.out _ HB.out).mono ?_; rintro e w2 ⟨P, rfl, hk, hb⟩; have HB1 := Lib.hid HB.out; have HK := Lib.hid hk; have HP := Lib.hid (keep_alloc (B := w0.heap.size) w2 (.cells (msC m P) 46)); have HZ1 := Lib.hid (Array.getElem?_eq_some_iff.1 HX.out).1; have HR := Lib.hid (heapB HR.out hb); have HX := Lib.hid (heapB HX.out hb); have HB := Lib.hid (bel2M HB.out hb); have HBX := Lib.hid (heap_alloc_new w2 (.cells (msC m P) 46)); have HR := Lib.hid (heapB HR.out (alloc1B w2 (.cells (msC m P) 46))); have HX := Lib.hid (heapB HX.out (alloc1B w2 (.cells (msC m P) 46))); have HB := Lib.hid (bel2M HB.out (alloc1B w2 (.cells (msC m P) 46))); clear hb hk)))
      generalize hw3 : w2.alloc _ = w3 at *
      have hb3 := HB.out
      have hEK := HL.out.below hb3
      have HT := Lib.hid (fun W (hb : Below w3.heap.size w3 W) => tally_P pa w2.heap.size w.heap.size A cc l (2 * f) w3 W vo (muP m vo ((s0, b0), l)) ds (fun _ W => Below w3.heap.size w3 W) hEK hb hb (fun _ _ _ h h2 => bel2M h h2) (fun k hk W bv h => HV.out k hk W bv (bel2M hb3 h)) (fun k hk h0 W Q h hj => by
        refine (mustP_any m (vo k).1 P Q k w2.heap.size w.heap.size s0 _ A cc l W (heapB HBX.out h) (heapB HR.out h) (hEK.below h) hk).mono ?_
        rintro e w' ⟨rfl, hb'⟩
        exact ⟨by rw [hmu k hk], hb'.mono h.size, fun _ => bel2M h hb'⟩) (fun k hk W h => HD.out k hk W (bel2M hb3 h)))
      generalize talX l.length (2 * f) vo (muP m vo ((s0, b0), l)) ds = tt at *
      have HK1 := Lib.hid (show ∀ W, Below w3.heap.size w3 W → SPv w3 ⟨w.heap.size, 2, none⟩ (.slice A l.length cc) W from fun W h => ⟨h, cellB (rowCell HR.out 2 _ rfl) h⟩)
      have HS0 := Lib.hid (HK1.out w3.drew (Below.refl _ _).drew)
      clear hw3 hb3 hEK
      go_region_held3 (SPv w3 ⟨w.heap.size, 2, none⟩ (.slice A l.length cc)) (first | exact HS0.out | exact HS5.out) (first
        | (go_at_call 21; refine (HF.out _ (bel2M HB.out HS0.out.1)).mono ?_; rintro e w5 ⟨rfl, rfl⟩)
        | (go_at_call 57; go_loud (refine (HT.out _ HS0.out.1).mono ?_; rintro e w6 ⟨rfl, hb6, -⟩; have HB6 := Lib.hid (HS0.out.1.trans hb6); have HS5 := Lib.hid (HK1.out w6 HB6.out); clear hb6)))
      all_goals
        have HX := Lib.hid (heapB HX.out HB6.out)
        have HBX := Lib.hid (heapB HBX.out HB6.out)
        have HP := Lib.hid (keep_below HP.out HB6.out)
        have HB := Lib.hid (bel2M HB.out HB6.out)
        go_wp2_with (first
          | (refine wpList_storeAll rfl 46 _ _ rfl (w.heap.size + 1) _ _ rfl rfl HX.out rfl (by kernel_rfl) (by kernel_rfl) ?_; intro w9 hz hh ho; have HY := Lib.hid hh; have HB9 := Lib.hid (onlyBelow HB.out ho (by omega) (Nat.le_refl _)); have HO9 := Lib.hid ho; clear hz hh ho))
        refine bodyPost_ret (results_cell2 rfl _ _ (w.heap.size + 1) 46 _ (0, 0) _ rfl HY.out Tryz.underlying46 rfl (by kernel_rfl)) rfl ?_
        exact decN0 w _ _ HB9.out
    · rw [show prepX (m, 0) (talX l.length (2 * f) vo (muP m vo ((s0, b0), l)) ds) = (m, 0) from prepX_ok (by simpa using ht)]
      have hq : (talX l.length (2 * f) vo (muP m vo ((s0, b0), l)) ds != 0) = false := by simpa using ht
      clear ht
      go_enter Tryz.func19, Tryz.ntmps19
      go_upto_region 1 with fail
      generalize hw0 : (w.alloc _).alloc _ = w0 at *
      have HR := Lib.hid x1
      have HX := Lib.hid x2
      have HB := Lib.hid x3
      have r0 := rowCell HR.out 0 (.int .i64 s0) rfl
      have r1 := rowCell HR.out 1 (.slice BA bn bc0) rfl
      clear x1 x2 x3 hw0
      go_upto_region 4 with (first
        | (go_at_call 49; go_loud (refine (HPP.out _ HB.out).mono ?_; rintro e w2 ⟨P, rfl, hk, hb⟩; have HB1 := Lib.hid HB.out; have HK := Lib.hid hk; have HP := Lib.hid (keep_alloc (B := w0.heap.size) w2 (.cells (msC m P) 46)); have HZ1 := Lib.hid (Array.getElem?_eq_some_iff.1 HX.out).1; have HR := Lib.hid (heapB HR.out hb); have HX := Lib.hid (heapB HX.out hb); have HB := Lib.hid (bel2M HB.out hb); have HBX := Lib.hid (heap_alloc_new w2 (.cells (msC m P) 46)); have HR := Lib.hid (heapB HR.out (alloc1B w2 (.cells (msC m P) 46))); have HX := Lib.hid (heapB HX.out (alloc1B w2 (.cells (msC m P) 46))); have HB := Lib.hid (bel2M HB.out (alloc1B w2 (.cells (msC m P) 46))); clear hb hk)))
      generalize hw3 : w2.alloc _ = w3 at *
      have hb3 := HB.out
      have hEK := HL.out.below hb3
      have HT := Lib.hid (fun W (hb : Below w3.heap.size w3 W) => tally_P pa w2.heap.size w.heap.size A cc l (2 * f) w3 W vo (muP m vo ((s0, b0), l)) ds (fun _ W => Below w3.heap.size w3 W) hEK hb hb (fun _ _ _ h h2 => bel2M h h2) (fun k hk W bv h => HV.out k hk W bv (bel2M hb3 h)) (fun k hk h0 W Q h hj => by
        refine (mustP_any m (vo k).1 P Q k w2.heap.size w.heap.size s0 _ A cc l W (heapB HBX.out h) (heapB HR.out h) (hEK.below h) hk).mono ?_
        rintro e w' ⟨rfl, hb'⟩
        exact ⟨by rw [hmu k hk], hb'.mono h.size, fun _ => bel2M h hb'⟩) (fun k hk W h => HD.out k hk W (bel2M hb3 h)))
      generalize talX l.length (2 * f) vo (muP m vo ((s0, b0), l)) ds = tt at *
      have HK1 := Lib.hid (show ∀ W, Below w3.heap.size w3 W → SPv w3 ⟨w.heap.size, 2, none⟩ (.slice A l.length cc) W from fun W h => ⟨h, cellB (rowCell HR.out 2 _ rfl) h⟩)
      have HS0 := Lib.hid (HK1.out w3.drew (Below.refl _ _).drew)
      clear hw3 hb3 hEK
      go_region_held3 (SPv w3 ⟨w.heap.size, 2, none⟩ (.slice A l.length cc)) (first | exact HS0.out | exact HS5.out) (first
        | (go_at_call 21; refine (HF.out _ (bel2M HB.out HS0.out.1)).mono ?_; rintro e w5 ⟨rfl, rfl⟩)
        | (go_at_call 57; go_loud (refine (HT.out _ HS0.out.1).mono ?_; rintro e w6 ⟨rfl, hb6, -⟩; have HB6 := Lib.hid (HS0.out.1.trans hb6); have HS5 := Lib.hid (HK1.out w6 HB6.out); clear hb6)))
      all_goals
        have HX := Lib.hid (heapB HX.out HB6.out)
        have HBX := Lib.hid (heapB HBX.out HB6.out)
        have HP := Lib.hid (keep_below HP.out HB6.out)
        have HB := Lib.hid (bel2M HB.out HB6.out)
        go_wp2_with (first
          | (refine wpList_storeAll rfl 46 _ _ rfl (w.heap.size + 1) _ _ rfl rfl HX.out rfl (by kernel_rfl) (by kernel_rfl) ?_; intro w9 hz hh ho; have HY := Lib.hid hh; have HB9 := Lib.hid (onlyBelow HB.out ho (by omega) (Nat.le_refl _)); have HO9 := Lib.hid ho; clear hz hh ho)
          | (refine wpList_load_mid rfl 46 _ rfl w2.heap.size 0 rfl _ _ (heap_all HBX.out) Tryz.underlying46 rfl (by kernel_rfl) ?_))
        refine bodyPost_ret (results_cell2 rfl _ _ (w.heap.size + 1) 46 _ (0, 0) _ rfl HY.out Tryz.underlying46 rfl (by kernel_rfl)) rfl ?_
        exact ⟨P, rfl, fun W hW => HK.out W (kpb_to (keep_only HP.out HO9.out HZ1.out) hW HB1.out.size), HB9.out⟩
  · rw [show prepX (m, y) (talX l.length (2 * f) vo (muP m vo ((s0, b0), l)) ds) = (msg0, y) from if_neg h0]
    have hq : (y != 0) = true := by simpa using h0
    clear h0 hF hV hD
    go_enter Tryz.func19, Tryz.ntmps19
    go_upto_region 1 with fail
    generalize hw0 : (w.alloc _).alloc _ = w0 at *
    have HR := Lib.hid x1
    have HX := Lib.hid x2
    have HB := Lib.hid x3
    have r0 := rowCell HR.out 0 (.int .i64 s0) rfl
    have r1 := rowCell HR.out 1 (.slice BA bn bc0) rfl
    clear x1 x2 x3 hw0
    go_wp2_with (first
      | (go_at_call 49; go_loud (refine (HPP.out _ HB.out).mono ?_; rintro e w2 ⟨P, rfl, hk, hb⟩; have HB1 := Lib.hid HB.out; have HK := Lib.hid hk; have HP := Lib.hid (keep_alloc (B := w0.heap.size) w2 (.cells (msC m P) 46)); have HZ1 := Lib.hid (Array.getElem?_eq_some_iff.1 HX.out).1; have HR := Lib.hid (heapB HR.out hb); have HX := Lib.hid (heapB HX.out hb); have HB := Lib.hid (bel2M HB.out hb); have HBX := Lib.hid (heap_alloc_new w2 (.cells (msC m P) 46)); have HR := Lib.hid (heapB HR.out (alloc1B w2 (.cells (msC m P) 46))); have HX := Lib.hid (heapB HX.out (alloc1B w2 (.cells (msC m P) 46))); have HB := Lib.hid (bel2M HB.out (alloc1B w2 (.cells (msC m P) 46))); clear hb hk))
      | (refine wpList_storeAll rfl 46 _ _ rfl (w.heap.size + 1) _ _ rfl rfl HX.out rfl (by kernel_rfl) (by kernel_rfl) ?_; intro w9 hz hh ho; have HY := Lib.hid hh; have HB9 := Lib.hid (onlyBelow HB.out ho (by omega) (Nat.le_refl _)); have HO9 := Lib.hid ho; clear hz hh ho))
    refine bodyPost_ret (results_cell2 rfl _ _ (w.heap.size + 1) 46 _ (0, 0) _ rfl HY.out Tryz.underlying46 rfl (by kernel_rfl)) rfl ?_
    exact decN0 w _ y HB9.out





def simO (ops : Array Oper) (o : Oper) (a : Act) : Option Act :=
  match Region.wanted o (yielded ops a.tmps) with
  | false => some (a.put o.dst undef)
  | true => match o.op with
    | .move x => some (a.put o.dst (a.eval x))
    | .assign x => some (a.put o.dst (a.eval x))
    | .pick c x y => match a.eval c with
      | .bool true => some (a.put o.dst (a.eval x))
      | .bool false => some (a.put o.dst (a.eval y))
      | _ => none
    | _ => none
def simA (ops : Array Oper) : List Oper → Act → Option Act
  | [], a => some a
  | o :: rest, a => match simO ops o a with
    | some b => simA ops rest b
    | none => none
theorem simO_wp {P : Program} {ops : Array Oper} {Q : Exit → Act → World → Prop} {w : World} {rest : List Oper} {o : Oper} {a b : Act} (h : simO ops o a = some b) (h2 : wpList P ops Q rest b w) : wpList P ops Q (o :: rest) a w := by
  unfold simO at h
  split at h
  · rename_i hw
    injection h with h
    subst h
    exact wpList_skip hw h2
  · rename_i hw
    refine BigFrame.wpList_want hw fun K hK => ?_
    unfold Oper.wp execOp
    split at h
    · rename_i x hx
      injection h with h
      subst h
      simp only [hx, Sem.run_bind, Sem.run_pure, Result.andThen_ok]
      exact hK _ _ h2
    · rename_i x hx
      injection h with h
      subst h
      simp only [hx, Sem.run_bind, Sem.run_pure, Result.andThen_ok]
      exact hK _ _ h2
    · rename_i c x y hx
      split at h
      · rename_i hc
        injection h with h
        subst h
        simp [hx, hc, asBool, Sem.run_bind, Sem.run_pure, Result.andThen_ok]
        exact hK _ _ h2
      · rename_i hc
        injection h with h
        subst h
        simp [hx, hc, asBool, Sem.run_bind, Sem.run_pure, Result.andThen_ok]
        exact hK _ _ h2
      · cases h
    · cases h
theorem simA_wp {P : Program} {ops : Array Oper} {Q : Exit → Act → World → Prop} {w : World} : ∀ (rest : List Oper) (a b : Act), simA ops rest a = some b → Q .normal b w → wpList P ops Q rest a w
  | [], a, b, h, h2 => by
    unfold simA at h
    injection h with h
    subst h
    exact h2
  | o :: rest, a, b, h, h2 => by
    unfold simA at h
    split at h
    · rename_i b' hb
      exact simO_wp hb (simA_wp rest b' b h h2)
    · cases h
theorem sim_end {P : Program} {ops : Array Oper} {Q : Exit → Act → World → Prop} {w : World} {rest : List Oper} {a : Act} (r : Nat) (v : Value)
    (h : ((simA ops rest a).map fun b => (b.tmps[r]?, b.defers.isEmpty)) = some (some v, true)) (h2 : ∀ b : Act, b.tmps.getD r undef = v → b.defers = [] → Q .normal b w) : wpList P ops Q rest a w := by
  rcases hs : simA ops rest a with _ | b
  · rw [hs] at h; cases h
  · rw [hs] at h
    simp only [Option.map_some, Option.some.injEq, Prod.mk.injEq] at h
    refine simA_wp rest a b hs (h2 b ?_ (by simpa using h.2))
    simp only [Array.getD_eq_getD_getElem?, h.1, Option.getD_some]
theorem wpList_exec {P : Program} {ops : Array Oper} {rest : List Oper} {op : Oper} {a : Act} {w : World} {Q : Exit → Act → World → Prop} (hw : Region.wanted op (yielded ops a.tmps) = true) (v : Value) (w' : World)
    (hx : (execOp a.eval op).run P w = .ok (.value v) w') (h : wpList P ops Q rest (a.put op.dst v) w') : wpList P ops Q (op :: rest) a w :=
  BigFrame.wpList_want hw fun _ hK => by
    unfold Oper.wp
    rw [hx]
    exact hK _ _ h
theorem wpList_loadG {P : Program} {ops : Array Oper} {rest : List Oper} {op : Oper} {a : Act} {w : World} {Q : Exit → Act → World → Prop} (hw : Region.wanted op (yielded ops a.tmps) = true) (ty : TypeId) (x : Operand) (ho : op.op = .load ty x)
    (b o : Nat) (hx : a.eval x = .pointer (some ⟨b, o, none⟩)) (cs : List Value) (d : TypeDesc) (hc : w.rangeAt b o cs)
    (hu : P.underlying ty = some d) (hd : d.isRow = true) (hi : (P.info? ty).map (·.size) = some cs.length)
    (h : wpList P ops Q rest (a.put op.dst (.agg cs.toArray)) w) : wpList P ops Q (op :: rest) a w :=
  BigFrame.wpList_want hw fun _ hK => wp_load_mid ty x ho b o hx cs d hc hu hd hi (hK _ _ h)

end Go.Proofs.YticfnjihjpgneaaGreat
