/- wb: HRd0 GGet1 GGet2 GGet3 GGet4 RefI HRd1 HDoc1 HRd2 HDoc2 HNum GSim HDoc3 GPut GBat BFew GBat2 GFew GPutL GFit GChk2 GExec GPutM GGetM GCode GFew2 HDoc4 HDoc5 HEnc HRd3 HRd4 HRf1 HBat HPre HBatch HRf2 HTally HPrep HRf3 HRg3 HRg4 HRf4 HStab GDec GAw HDec HAll HFrg HBnd HMadP HMny HRfP ALaw2 ALaw7 APlay HTwo HRfA HWd (made by shake.py). -/
import Derived.Deep.CutRange
import Derived.BigFrame
import Derived.Deep.MidRow
import Derived.BigGuard
import Derived.Deep.QuietTactic
import Derived.BigQuiet
import Derived.Test.YtjkbmmhnlhaapaaGreatwa
namespace Go.Proofs.YtjkbmmhnlhaapaaGreat
open Go.RowKit
set_option linter.unusedVariables false
set_option linter.unusedSimpArgs false
set_option maxRecDepth 20000

def loB (b : Int × Int) (n : Int) : Int × Int := if countB b = true then (0, n) else (0, 0)
theorem loB_count {b : Int × Int} {n : Int} (h : 0 < n) : countB (loB b n) = countB b := by
  unfold loB
  by_cases h1 : countB b = true
  · rw [if_pos h1, h1]
    exact decide_eq_true h
  · rw [if_neg h1]
    simp only [Bool.not_eq_true] at h1
    rw [h1]
    rfl
theorem loB_ok {b : Int × Int} {n : Int} (h : n ≤ 9223372036854775807) : OkBd (loB b n) := by
  unfold loB OkBd
  split <;> simp only <;> omega
theorem loB_allow {b : Int × Int} (hb : OkBd b) {n m : Int} (h : allowB b m = true) (hm : m ≤ n) : allowB (loB b n) m = true := by
  unfold loB
  rcases count_of hb h with ⟨h1, -⟩ | ⟨h1, rfl⟩
  · rw [if_pos h1]
    unfold allowB at h ⊢
    have := hb.1
    simp only [Bool.and_eq_true, decide_eq_true_eq] at h ⊢
    omega
  · rw [if_neg h1]
    rfl
def bytR : Rdg (List UInt8) := fun rest e => bytesF 1099511627776 rest e
def envR : Rdg (Int × List UInt8) := fun rest e => (((int8F rest e).1, (bytR (int8F rest e).2.1 (int8F rest e).2.2).1), (bytR (int8F rest e).2.1 (int8F rest e).2.2).2)
def lenR : Rdg (List (Int × List UInt8)) := lisG envR (0, 15)
def crtR : Rdg Crt := fun rest e => (((envR rest e).1, (lenR (envR rest e).2.1 (envR rest e).2.2).1), (lenR (envR rest e).2.1 (envR rest e).2.2).2)
def rowR (b : Int × Int) : Rdg (List UInt8) := rowG (loB b 1099511627776)
def lstR (b : Int × Int) : Rdg (List (Int × List UInt8)) := lisG envR (loB b 15)
def crsR (b : Int × Int) : Rdg (List Crt) := lisG crtR (loB b 8)
def bodyR (k : Int) (s : Shp) : Rdg Msg :=
  thenG (numG s.v) fun v => thenG (numG s.s) fun n => thenG (numG s.c) fun c => thenG (numG s.t) fun t => thenG (rowR s.d) fun d => thenG (rowR s.x) fun x => thenG (resG s.r) fun r =>
    thenG (lstR s.b) fun b => thenG (lstR s.p) fun p => thenG (crsR s.q) fun q => retG ⟨k, v, n, c, t, d, x, r, b, p, q⟩
def readR : Rdg Msg := thenG int8F fun k => bodyR k (shapeM k).1
/- back -/
theorem rowP_lo (b : Int × Int) (n : Int) (hn : 0 < n) : rowP (loB b n) = rowP b := by
  funext l
  unfold rowP
  rw [loB_count hn]
theorem lisP_lo {α : Type} (f : α → List UInt8) (b : Int × Int) (n : Int) (hn : 0 < n) : lisP f (loB b n) = lisP f b := by
  funext l
  unfold lisP
  rw [loB_count hn]
theorem rowR_bk (b : Int × Int) : Bk (rowR b) (rowP b) := by
  have := row_bk (loB b 1099511627776)
  rwa [rowP_lo b _ (by decide)] at this
theorem envR_bk : Bk envR envW := fun rest e h => by
  unfold envR bytR at h ⊢
  unfold envW
  obtain ⟨h2, e2⟩ := bytesF_bk h
  obtain ⟨h3, e3⟩ := int8F_ok h2
  refine ⟨h3, ?_⟩
  simp only [List.append_assoc]
  rw [← e2, ← e3]
theorem lstR_bk (b : Int × Int) : Bk (lstR b) (lisP envW b) := by
  have := lis_bk envR_bk (loB b 15)
  rwa [lisP_lo envW b _ (by decide)] at this
theorem lisP_cnt {α : Type} (f : α → List UInt8) {a b : Int × Int} (h : countB a = countB b) : lisP f a = lisP f b := by
  funext l
  unfold lisP
  rw [h]
theorem crtR_bk : Bk crtR crtW := fun rest e h => by
  unfold crtR lenR at h ⊢
  unfold crtW
  obtain ⟨h2, e2⟩ := lis_bk envR_bk (0, 15) _ _ h
  obtain ⟨h3, e3⟩ := envR_bk _ _ h2
  refine ⟨h3, ?_⟩
  rw [lisP_cnt envW (a := (0, 7)) (b := (0, 15)) rfl]
  simp only [List.append_assoc]
  rw [← e2, ← e3]
theorem crsR_bk (b : Int × Int) : Bk (crsR b) (lisP crtW b) := by
  have := lis_bk crtR_bk (loB b 8)
  rwa [lisP_lo crtW b _ (by decide)] at this
theorem bodyR_bk (k : Int) (s : Shp) : BkC (bodyR k s) (fun m => numP s.v m.v ++ (numP s.s m.s ++ (numP s.c m.c ++ (numP s.t m.t ++ (rowP s.d m.d ++ (rowP s.x m.x ++ (resP s.r m.r ++ (lisP envW s.b m.b ++ (lisP envW s.p m.p ++ (lisP crtW s.q m.q ++ [])))))))))) (fun m => m.k = k) := by
  unfold bodyR
  refine bk_then (fun m : Msg => numP s.v m.v ++ (numP s.s m.s ++ (numP s.c m.c ++ (numP s.t m.t ++ (rowP s.d m.d ++ (rowP s.x m.x ++ (resP s.r m.r ++ (lisP envW s.b m.b ++ (lisP envW s.p m.p ++ (lisP crtW s.q m.q ++ [])))))))))) (fun m => m.k = k) (fun _ m => numP s.s m.s ++ (numP s.c m.c ++ (numP s.t m.t ++ (rowP s.d m.d ++ (rowP s.x m.x ++ (resP s.r m.r ++ (lisP envW s.b m.b ++ (lisP envW s.p m.p ++ (lisP crtW s.q m.q ++ []))))))))) (fun v m => m.k = k ∧ m.v = v) (num_bk s.v) (fun v => ?_) (fun v m h => ⟨by simp only [h], by simp only [h, and_self]⟩)
  refine bk_then (fun m : Msg => numP s.s m.s ++ (numP s.c m.c ++ (numP s.t m.t ++ (rowP s.d m.d ++ (rowP s.x m.x ++ (resP s.r m.r ++ (lisP envW s.b m.b ++ (lisP envW s.p m.p ++ (lisP crtW s.q m.q ++ []))))))))) (fun m => m.k = k ∧ m.v = v) (fun _ m => numP s.c m.c ++ (numP s.t m.t ++ (rowP s.d m.d ++ (rowP s.x m.x ++ (resP s.r m.r ++ (lisP envW s.b m.b ++ (lisP envW s.p m.p ++ (lisP crtW s.q m.q ++ [])))))))) (fun n m => m.k = k ∧ m.v = v ∧ m.s = n) (num_bk s.s) (fun n => ?_) (fun n m h => ⟨by simp only [h], by simp only [h, and_self]⟩)
  refine bk_then (fun m : Msg => numP s.c m.c ++ (numP s.t m.t ++ (rowP s.d m.d ++ (rowP s.x m.x ++ (resP s.r m.r ++ (lisP envW s.b m.b ++ (lisP envW s.p m.p ++ (lisP crtW s.q m.q ++ [])))))))) (fun m => m.k = k ∧ m.v = v ∧ m.s = n) (fun _ m => numP s.t m.t ++ (rowP s.d m.d ++ (rowP s.x m.x ++ (resP s.r m.r ++ (lisP envW s.b m.b ++ (lisP envW s.p m.p ++ (lisP crtW s.q m.q ++ []))))))) (fun c m => m.k = k ∧ m.v = v ∧ m.s = n ∧ m.c = c) (num_bk s.c) (fun c => ?_) (fun c m h => ⟨by simp only [h], by simp only [h, and_self]⟩)
  refine bk_then (fun m : Msg => numP s.t m.t ++ (rowP s.d m.d ++ (rowP s.x m.x ++ (resP s.r m.r ++ (lisP envW s.b m.b ++ (lisP envW s.p m.p ++ (lisP crtW s.q m.q ++ []))))))) (fun m => m.k = k ∧ m.v = v ∧ m.s = n ∧ m.c = c) (fun _ m => rowP s.d m.d ++ (rowP s.x m.x ++ (resP s.r m.r ++ (lisP envW s.b m.b ++ (lisP envW s.p m.p ++ (lisP crtW s.q m.q ++ [])))))) (fun t m => m.k = k ∧ m.v = v ∧ m.s = n ∧ m.c = c ∧ m.t = t) (num_bk s.t) (fun t => ?_) (fun t m h => ⟨by simp only [h], by simp only [h, and_self]⟩)
  refine bk_then (fun m : Msg => rowP s.d m.d ++ (rowP s.x m.x ++ (resP s.r m.r ++ (lisP envW s.b m.b ++ (lisP envW s.p m.p ++ (lisP crtW s.q m.q ++ [])))))) (fun m => m.k = k ∧ m.v = v ∧ m.s = n ∧ m.c = c ∧ m.t = t) (fun _ m => rowP s.x m.x ++ (resP s.r m.r ++ (lisP envW s.b m.b ++ (lisP envW s.p m.p ++ (lisP crtW s.q m.q ++ []))))) (fun d m => m.k = k ∧ m.v = v ∧ m.s = n ∧ m.c = c ∧ m.t = t ∧ m.d = d) (rowR_bk s.d) (fun d => ?_) (fun d m h => ⟨by simp only [h], by simp only [h, and_self]⟩)
  refine bk_then (fun m : Msg => rowP s.x m.x ++ (resP s.r m.r ++ (lisP envW s.b m.b ++ (lisP envW s.p m.p ++ (lisP crtW s.q m.q ++ []))))) (fun m => m.k = k ∧ m.v = v ∧ m.s = n ∧ m.c = c ∧ m.t = t ∧ m.d = d) (fun _ m => resP s.r m.r ++ (lisP envW s.b m.b ++ (lisP envW s.p m.p ++ (lisP crtW s.q m.q ++ [])))) (fun x m => m.k = k ∧ m.v = v ∧ m.s = n ∧ m.c = c ∧ m.t = t ∧ m.d = d ∧ m.x = x) (rowR_bk s.x) (fun x => ?_) (fun x m h => ⟨by simp only [h], by simp only [h, and_self]⟩)
  refine bk_then (fun m : Msg => resP s.r m.r ++ (lisP envW s.b m.b ++ (lisP envW s.p m.p ++ (lisP crtW s.q m.q ++ [])))) (fun m => m.k = k ∧ m.v = v ∧ m.s = n ∧ m.c = c ∧ m.t = t ∧ m.d = d ∧ m.x = x) (fun _ m => lisP envW s.b m.b ++ (lisP envW s.p m.p ++ (lisP crtW s.q m.q ++ []))) (fun r m => m.k = k ∧ m.v = v ∧ m.s = n ∧ m.c = c ∧ m.t = t ∧ m.d = d ∧ m.x = x ∧ m.r = r) (res_bk s.r) (fun r => ?_) (fun r m h => ⟨by simp only [h], by simp only [h, and_self]⟩)
  refine bk_then (fun m : Msg => lisP envW s.b m.b ++ (lisP envW s.p m.p ++ (lisP crtW s.q m.q ++ []))) (fun m => m.k = k ∧ m.v = v ∧ m.s = n ∧ m.c = c ∧ m.t = t ∧ m.d = d ∧ m.x = x ∧ m.r = r) (fun _ m => lisP envW s.p m.p ++ (lisP crtW s.q m.q ++ [])) (fun b m => m.k = k ∧ m.v = v ∧ m.s = n ∧ m.c = c ∧ m.t = t ∧ m.d = d ∧ m.x = x ∧ m.r = r ∧ m.b = b) (lstR_bk s.b) (fun b => ?_) (fun b m h => ⟨by simp only [h], by simp only [h, and_self]⟩)
  refine bk_then (fun m : Msg => lisP envW s.p m.p ++ (lisP crtW s.q m.q ++ [])) (fun m => m.k = k ∧ m.v = v ∧ m.s = n ∧ m.c = c ∧ m.t = t ∧ m.d = d ∧ m.x = x ∧ m.r = r ∧ m.b = b) (fun _ m => lisP crtW s.q m.q ++ []) (fun p m => m.k = k ∧ m.v = v ∧ m.s = n ∧ m.c = c ∧ m.t = t ∧ m.d = d ∧ m.x = x ∧ m.r = r ∧ m.b = b ∧ m.p = p) (lstR_bk s.p) (fun p => ?_) (fun p m h => ⟨by simp only [h], by simp only [h, and_self]⟩)
  refine bk_then (fun m : Msg => lisP crtW s.q m.q ++ []) (fun m => m.k = k ∧ m.v = v ∧ m.s = n ∧ m.c = c ∧ m.t = t ∧ m.d = d ∧ m.x = x ∧ m.r = r ∧ m.b = b ∧ m.p = p) (fun _ m => []) (fun q m => m = ⟨k, v, n, c, t, d, x, r, b, p, q⟩) (crsR_bk s.q) (fun q => ?_) (fun q m h => by subst h; exact ⟨rfl, rfl, rfl, rfl, rfl, rfl, rfl, rfl, rfl, rfl, rfl⟩)
  exact bk_ret _
theorem readR_bkC : BkC readR putM (fun _ => True) := by
  unfold readR
  refine bk_then putM (fun _ => True) (fun k m => numP (shapeM k).1.v m.v ++ (numP (shapeM k).1.s m.s ++ (numP (shapeM k).1.c m.c ++ (numP (shapeM k).1.t m.t ++ (rowP (shapeM k).1.d m.d ++ (rowP (shapeM k).1.x m.x ++ (resP (shapeM k).1.r m.r ++ (lisP envW (shapeM k).1.b m.b ++ (lisP envW (shapeM k).1.p m.p ++ (lisP crtW (shapeM k).1.q m.q ++ [])))))))))) (fun k m => m.k = k) (fun _ _ h => int8F_ok h) (fun k => ?_) (fun k m h => ⟨?_, trivial⟩)
  · exact bodyR_bk k _
  · subst h
    exact put_eq (shapeM m.k).1 m
theorem readR_bk : Bk readR putM := fun rest e h => ⟨(readR_bkC rest e h).1, (readR_bkC rest e h).2.1⟩
/- forth -/
theorem envR_fo {e : Int × List UInt8} (h : in64B e.1) (hl : e.2.length ≤ 100000) : Fo envR (envW e) e := fun rest => by
  unfold envR envW bytR
  rw [List.append_assoc, int8F_put _ h]
  simp only
  rw [bytesF_fo _ _ _ (by omega) (by omega)]
theorem crtR_fo {c : Crt} (h1 : in64B c.1.1) (h2 : ∀ e ∈ c.2, in64B e.1) (h3 : c.1.2.length ≤ 100000) (h4 : c.2.length ≤ 100) (h5 : ∀ e ∈ c.2, e.2.length ≤ 100000) (hw : allowB (0, 7) (c.2.length : Nat) = true) : Fo crtR (crtW c) c := fun rest => by
  have h6 := envR_fo h1 h3
  have h8 : allowB (0, 15) (c.2.length : Nat) = true := by
    unfold allowB at hw ⊢
    simp only [Bool.and_eq_true, decide_eq_true_eq] at hw ⊢
    omega
  have h7 := lis_fo (f := envW) (b := (0, 15)) ⟨by decide, by decide⟩ (l := c.2) (by omega) h8 fun e he => envR_fo (h2 e he) (h5 e he)
  unfold crtR crtW lenR
  rw [lisP_cnt envW (a := (0, 7)) (b := (0, 15)) rfl, List.append_assoc, h6]
  simp only
  rw [h7]
theorem rowR_fo {b : Int × Int} (hb : OkBd b) {l : List UInt8} (hl : l.length < 4294967296) (h : allowB b (l.length : Nat) = true) : Fo (rowR b) (rowP b l) l := by
  have := row_fo (loB_ok (b := b) (by decide)) hl (loB_allow (n := 1099511627776) hb h (by omega))
  rwa [rowP_lo b _ (by decide)] at this
theorem lstR_fo {b : Int × Int} (hb : OkBd b) (hb8 : b.2 ≤ 8) {l : List (Int × List UInt8)} (hl : l.length < 4294967296) (h : allowB b (l.length : Nat) = true) (hG : ∀ a ∈ l, Fo envR (envW a) a) : Fo (lstR b) (lisP envW b l) l := by
  have := lis_fo (loB_ok (b := b) (n := 15) (by decide)) hl (loB_allow (n := 15) hb h (by have := allow_le h; omega)) hG
  rwa [lisP_lo envW b _ (by decide)] at this
theorem crsR_fo {b : Int × Int} (hb : OkBd b) (hb8 : b.2 ≤ 8) {l : List Crt} (hl : l.length < 4294967296) (h : allowB b (l.length : Nat) = true) (hG : ∀ a ∈ l, Fo crtR (crtW a) a) : Fo (crsR b) (lisP crtW b l) l := by
  have := lis_fo (loB_ok (b := b) (n := 8) (by decide)) hl (loB_allow (n := 8) hb h (by have := allow_le h; omega)) hG
  rwa [lisP_lo crtW b _ (by decide)] at this
theorem bodyR_fo {s : Shp} {m : Msg} (hs : OkS s) (ho : OkM m) (hd : MidM m) (hf : FitD s m) : Fo (bodyR m.k s) (numP s.v m.v ++ (numP s.s m.s ++ (numP s.c m.c ++ (numP s.t m.t ++ (rowP s.d m.d ++ (rowP s.x m.x ++ (resP s.r m.r ++ (lisP envW s.b m.b ++ (lisP envW s.p m.p ++ (lisP crtW s.q m.q ++ [])))))))))) m := by
  have k5 : m.d.length < 4294967296 := by have := hd.d; omega
  have k6 : m.x.length < 4294967296 := by have := hd.x; omega
  have k7 : m.b.length < 4294967296 := by have := hd.b.1; omega
  have k8 : m.p.length < 4294967296 := by have := hd.p.1; omega
  have k9 : m.q.length < 4294967296 := by have := hd.q.1; omega
  unfold bodyR
  refine (num_fo hs.v hf.v).then ?_
  refine (num_fo hs.s hf.s).then ?_
  refine (num_fo hs.c hf.c).then ?_
  refine (num_fo hs.t hf.t).then ?_
  refine (rowR_fo hs.d k5 hf.d).then ?_
  refine (rowR_fo hs.x k6 hf.x).then ?_
  refine (res_fo ho.r hf.r).then ?_
  refine (lstR_fo hs.b.1 hs.b.2 k7 hf.b fun e he => envR_fo (ho.b e he) (hd.b.2 e he)).then ?_
  refine (lstR_fo hs.p.1 hs.p.2 k8 hf.p fun e he => envR_fo (ho.p e he) (hd.p.2 e he)).then ?_
  refine (crsR_fo hs.q.1 hs.q.2 k9 hf.q.1 fun e he => crtR_fo (ho.q e he).1 (ho.q e he).2 (hd.q.2 e he).1 (hd.q.2 e he).2.1 (hd.q.2 e he).2.2 (hf.q.2 e he)).then ?_
  exact Fo.ret m
theorem readR_fo {m : Msg} (ho : OkM m) (hd : MidM m) (hc : checkD m = true) : Fo readR (putM m) m := by
  have hb := bodyR_fo (shape_ok m.k) ho hd (checkD_fit hc)
  have he : putM m = _ := put_eq (shapeM m.k).1 m
  rw [he]
  clear he hc
  unfold readR
  exact Fo.then (G := int8F) (F := fun k => bodyR k (shapeM k).1) (fun rest => int8F_put _ ho.k rest) hb
theorem envR_64 (rest : List UInt8) (e : Int) : in64B (envR rest e).1.1 := int8F_64 _ _
theorem crtR_64 (rest : List UInt8) (e : Int) : in64B (crtR rest e).1.1.1 ∧ ∀ e' ∈ (crtR rest e).1.2, in64B e'.1 := ⟨envR_64 _ _, lis_all (G := envR) (P := fun e => in64B e.1) envR_64 _ _ _⟩
theorem bodyR_ok (k : Int) (hk : in64B k) (s : Shp) : ∀ rest e, OkM (bodyR k s rest e).1 := by
  unfold bodyR
  refine then_all in64B (num_64 _) fun v hv => ?_
  refine then_all in64B (num_64 _) fun n hn => ?_
  refine then_all in64B (num_64 _) fun c hc => ?_
  refine then_all in64B (num_64 _) fun t ht => ?_
  refine then_all (fun _ => True) (fun _ _ => trivial) fun d _ => ?_
  refine then_all (fun _ => True) (fun _ _ => trivial) fun x _ => ?_
  refine then_all (fun r : Int × Int => in64B r.1 ∧ in64B r.2) (res_64 _) fun r hr => ?_
  refine then_all (fun l : List (Int × List UInt8) => ∀ e ∈ l, in64B e.1) (lis_all (G := envR) (P := fun e => in64B e.1) envR_64 _) fun b hb => ?_
  refine then_all (fun l : List (Int × List UInt8) => ∀ e ∈ l, in64B e.1) (lis_all (G := envR) (P := fun e => in64B e.1) envR_64 _) fun p hp => ?_
  refine then_all (fun l : List Crt => ∀ c ∈ l, in64B c.1.1 ∧ ∀ e ∈ c.2, in64B e.1) (lis_all (G := crtR) (P := fun c => in64B c.1.1 ∧ ∀ e ∈ c.2, in64B e.1) crtR_64 _) fun q hq => ?_
  exact fun rest e => ⟨hk, hv, hn, hc, ht, hr, hb, hp, hq⟩
theorem readR_ok (y : List UInt8) (e : Int) : OkM (readR y e).1 := then_all (G := int8F) (F := fun k => bodyR k (shapeM k).1) in64B int8F_64 (fun k hk => bodyR_ok k hk _) y e
def gotR (y : List UInt8) : Bool := decide (endE (readR y 0).2.1 (readR y 0).2.2 = 0) && checkD (readR y 0).1
def decR (y : List UInt8) : Msg × Int := if 16777216 < y.length then (msg0, 11) else if gotR y = true then ((readR y 0).1, 0) else (msg0, 12)
theorem endE_split {r : List UInt8} {e : Int} (h : endE r e = 0) : e = 0 ∧ r = [] := by
  unfold endE at h
  by_cases h5 : e = 0 ∧ r ≠ []
  · rw [if_pos h5] at h; exact absurd h (by decide)
  · rw [if_neg h5] at h
    exact ⟨h, Decidable.not_not.1 fun h6 => h5 ⟨h, h6⟩⟩
theorem midD_fit {s : Shp} {m : Msg} (hs : OkS s) (hf : FitD s m) (hl : ((partsM s m).flatten).length ≤ 100000) : MidM m := by
  rw [put_eq] at hl
  simp only [List.length_append] at hl
  have b1 := row_le hs.d hf.d
  have b2 := row_le hs.x hf.x
  have b3 := allow_le hf.b
  have b4 := allow_le hf.p
  have b5 := allow_le hf.q.1
  have b6 := hs.b.2
  have b7 := hs.p.2
  have b8 := hs.q.2
  refine ⟨by omega, by omega, ⟨by omega, fun e he => ?_⟩, ⟨by omega, fun e he => ?_⟩, ⟨by omega, fun c he => ?_⟩⟩
  · have h1 := lis_le envW hs.b.1 hf.b e he
    have h2 := env_le e
    omega
  · have h1 := lis_le envW hs.p.1 hf.p e he
    have h2 := env_le e
    omega
  · have h1 := lis_le crtW hs.q.1 hf.q.1 c he
    have hw2 := hf.q.2 c he
    have h3 := allow_le hw2
    have h4 : (crtW c).length = (envW c.1).length + (lisP envW (0, 7) c.2).length := by unfold crtW; rw [List.length_append]
    have h5 := env_le c.1
    simp only at h3
    refine ⟨by omega, by omega, fun e hee => ?_⟩
    have h6 := lis_le envW (b := (0, 7)) ⟨by decide, by decide⟩ hw2 e hee
    have h7 := env_le e
    omega
theorem decR_eq {y : List UInt8} (hl : y.length ≤ 100000) : decR y = decD y := by
  unfold decR decD
  have hn : ¬ 16777216 < y.length := by omega
  rw [if_neg hn, if_neg hn]
  by_cases h1 : gotR y = true
  · have h2 := h1
    unfold gotR at h2
    simp only [Bool.and_eq_true, decide_eq_true_eq] at h2
    obtain ⟨h3, h4⟩ := endE_split h2.1
    have h5 := (readR_bk y 0 h3).2
    rw [h4, List.append_nil] at h5
    have ho := readR_ok y 0
    generalize (readR y 0).1 = m at *
    have hd : MidM m := midD_fit (shape_ok m.k) (checkD_fit h2.2) (by have : (putM m).length ≤ 100000 := by rw [← h5]; exact hl
                                                                      exact this)
    have h6 := readD_fo ho hd h2.2 []
    rw [List.append_nil, ← h5] at h6
    rw [if_pos h1]
    unfold gotD
    rw [h6, if_pos (by simp [endE, h2.2])]
  · rw [if_neg h1]
    by_cases h2 : gotD y = true
    · exfalso
      have h2' := h2
      unfold gotD at h2'
      simp only [Bool.and_eq_true, decide_eq_true_eq] at h2'
      obtain ⟨h3, h4⟩ := endE_split h2'.1
      have h5 := (read_bk y 0 h3).2
      rw [h4, List.append_nil] at h5
      have ho := read_ok y 0
      generalize (readM y 0).1 = m at *
      have hd : MidM m := midD_fit (shape_ok m.k) (checkD_fit h2'.2) (by have : (putM m).length ≤ 100000 := by rw [← h5]; exact hl
                                                                         exact this)
      have h6 := readR_fo ho hd h2'.2 []
      rw [List.append_nil, ← h5] at h6
      apply h1
      unfold gotR
      rw [h6]
      simp [endE, h2'.2]
    · rw [if_neg h2]









theorem wrap64_nought : (0 : Int) = wrap64 ((0 : Nat) : Int) := by
  first | rfl | (simp; done) | (unfold wrap64; simp; done) | (unfold wrap64; decide) | (rw [wrap64_of] <;> omega)
set_option maxHeartbeats 1000000 in
theorem rfInt_at (h : Nat) (bs : List UInt8) (i : Nat) (e : Int) (w : World) (hr : RfG w h bs i e) :
    Calls Tryz.prog 136 #[.pointer (some ⟨h, 0, none⟩)] w
      (DidG h bs (.int .i64 (wrap64 (stepF 8 alInt (bs.drop i) e).1)) (stepF 8 alInt (bs.drop i) e).2.1 (stepF 8 alInt (bs.drop i) e).2.2 w) := by
  obtain ⟨A, c, -, -, -, hi, h99, hc0, hc1, hc2, hf, hlt, -⟩ := hr.open
  by_cases he : e = 0
  · subst he
    by_cases hs : 8 ≤ (bs.drop i).length
    · have hn : numF 8 (bs.drop i) = (wordN ((bs.drop i).take 8), true) := by unfold numF; rw [if_pos hs]
      have hnum := number_any h bs i 0 8 w hr (by omega)
      rw [hn] at hnum
      have hsl : 8 ≤ bs.length - i := by rw [List.length_drop] at hs; exact hs
      have hdd : (bs.drop i).drop 8 = bs.drop (i + 8) := by rw [List.drop_drop]
      have h8 := wordN_lt8 ((bs.drop i).take 8) (List.length_take_le _ _)
      have hal : alInt (wordN ((bs.drop i).take 8)) = 0 := by unfold alInt ceilE; rw [if_neg (by omega)]
      have hst : stepF 8 alInt (bs.drop i) 0 = (wordN ((bs.drop i).take 8), bs.drop (i + 8), 0) := by
        unfold stepF
        rw [if_neg (by simp), if_neg (by omega), if_neg (by rw [hal]; decide), hdd]
      rw [hst]
      clear hst hs hn hdd
      generalize wordN ((bs.drop i).take 8) = x at *
      have hx4 : (i : Int) + 8 = ((i + 8 : Nat) : Int) := by omega
      have HX4 := Lib.hid hx4
      have HNUM := Lib.hid hnum
      clear hnum hx4
      go_enter Tryz.func136, Tryz.ntmps136
      go_wp2_with (go_at_call 157; refine HNUM.out.mono ?_; rintro e w1 ⟨rfl, n, rfl⟩)
      all_goals go_ret
      all_goals exact ⟨rfl, ⟨i + 8, (hr.drewN n).setAt (i + 8) (by omega), rfl⟩, ((Only.refl _ w).below (below_drewN (Below.refl _ _) n)).set _ _⟩
    · have hn : numF 8 (bs.drop i) = (0, false) := by unfold numF; rw [if_neg hs]
      have hnum := number_any h bs i 0 8 w hr (by omega)
      rw [hn] at hnum
      have hst : stepF 8 alInt (bs.drop i) 0 = (0, bs.drop i, 10) := by unfold stepF; rw [if_neg (by simp), if_pos (by omega)]
      rw [hst]
      have HNUM := Lib.hid hnum
      clear hst hs hn hnum
      go_enter Tryz.func136, Tryz.ntmps136
      go_wp2_with (go_at_call 157; refine HNUM.out.mono ?_; rintro e w1 ⟨rfl, n, rfl⟩)
      go_ret
      exact ⟨(by first | rfl | exact ret_int wrap64_nought), ⟨i, (hr.drewN n).setErr 10, rfl⟩, ((Only.refl _ w).below (below_drewN (Below.refl _ _) n)).set _ _⟩
  · have h1 : (e != 0) = true := by simpa using he
    have hst : stepF 8 alInt (bs.drop i) e = (0, bs.drop i, e) := by unfold stepF; rw [if_pos he]
    rw [hst]
    clear hst he
    go_enter Tryz.func136, Tryz.ntmps136
    go_wp2
    go_ret
    exact ⟨(by first | rfl | exact ret_int wrap64_nought), ⟨i, hr, rfl⟩, Only.refl _ _⟩
theorem rfInt_any (h : Nat) (rest : List UInt8) (e : Int) (w : World) (hr : RfS w h rest e) :
    Calls Tryz.prog 136 #[.pointer (some ⟨h, 0, none⟩)] w
      (DidR h (.int .i64 (wrap64 (stepF 8 alInt rest e).1)) (stepF 8 alInt rest e).2.1 (stepF 8 alInt rest e).2.2 w) := by
  obtain ⟨bs, i, hr, rfl⟩ := hr
  exact (rfInt_at h bs i e w hr).mono fun _ _ ⟨h1, ⟨i', h2, h3⟩, h4⟩ => ⟨h1, ⟨bs, i', h2, h3⟩, h4⟩

theorem Bq.keepH {w w' : World} {g : Nat} {v : Value} {l : List UInt8} (h : Bq g w v l) (hz : w.heap.size ≤ w'.heap.size) (hk : ∀ (k : Nat) (cs : Array Value) (fr : Nat × Nat), w.heap[k]? = some (Obj.cells cs 5 fr) → w'.heap[k]? = w.heap[k]?) (hlow : ∀ k, k < g → w'.heap[k]? = w.heap[k]?) : Bq g w' v l := by
  rcases h with ⟨h1, h2 | h2⟩
  · exact (Bt.keepG ⟨h1, h2⟩ hz hk).bq
  · obtain ⟨A, c, hv, hc, hm, hn, hx⟩ := h1
    refine ⟨⟨A, c, hv, hc, hm, hn, fun he => ?_⟩, Or.inr h2⟩
    obtain ⟨ad, ha, hb, hr⟩ := hx he
    have hown : v.ownBlock = some ad.block := by rw [hv, ha]; rfl
    have hl : l ≠ [] := fun e => he (by rw [e]; rfl)
    have hblk := hlow _ (h2 hl _ hown)
    refine ⟨ad, ha, Nat.lt_of_lt_of_le hb hz, fun j u hu => ?_⟩
    have hb2 : (ad.add j).block = ad.block := block_add ad j
    exact (World.cell?_of_block (w := w) (w' := w') (a := ad.add j) (by rw [hb2]; exact hblk)).trans (hr j u hu)
theorem RfG.keepH {w w' : World} {g : Nat} {bs : List UInt8} {i : Nat} {e : Int} (h : RfG w g bs i e) (hz : w.heap.size ≤ w'.heap.size) (hg : w'.heap[g]? = w.heap[g]?) (hk : ∀ (k : Nat) (cs : Array Value) (fr : Nat × Nat), w.heap[k]? = some (Obj.cells cs 5 fr) → w'.heap[k]? = w.heap[k]?) (hlow : ∀ k, k < g → w'.heap[k]? = w.heap[k]?) : RfG w' g bs i e := by
  obtain ⟨bv, hh, hb, h1, h2⟩ := h
  exact ⟨bv, hg.trans hh, hb.keepH hz hk hlow, h1, h2⟩
theorem RfS.keepH {w w' : World} {g : Nat} {rest : List UInt8} {e : Int} (h : RfS w g rest e) (hz : w.heap.size ≤ w'.heap.size) (hg : w'.heap[g]? = w.heap[g]?) (hk : ∀ (k : Nat) (cs : Array Value) (fr : Nat × Nat), w.heap[k]? = some (Obj.cells cs 5 fr) → w'.heap[k]? = w.heap[k]?) (hlow : ∀ k, k < g → w'.heap[k]? = w.heap[k]?) : RfS w' g rest e := by
  obtain ⟨bs, i, h1, h2⟩ := h
  exact ⟨bs, i, h1.keepH hz hg hk hlow, h2⟩
theorem RfS.store {w w' : World} {N g : Nat} {rest : List UInt8} {err : Int} {cs : Array Value} {t : TypeId} {fr : Nat × Nat} (h : RfS w g rest err) (ho : Only N w w') (hlt : g < N) (hN : w.heap[N]? = some (.cells cs t fr)) (ht : 5 ≠ t) : RfS w' g rest err := by
  have hl := h.lt
  refine h.keepH ho.size (ho.block g hl (by intro e; injection e with e; omega)) (fun k cs2 fr2 hk => ho.block k (Array.getElem?_eq_some_iff.1 hk).1 (by intro e; injection e with e; exact other_blockG hk hN ht e)) fun k hk => ho.block k (by omega) (by intro e; injection e with e; omega)
theorem rInt8_any (g : Nat) (rest : List UInt8) (e : Int) (w : World) (hr : RfS w g rest e) : Calls Tryz.prog 136 #[.pointer (some ⟨g, 0, none⟩)] w (DidR g (.int .i64 (int8F rest e).1) (int8F rest e).2.1 (int8F rest e).2.2 w) := rfInt_any g rest e w hr
theorem rByt_any (g : Nat) (rest : List UInt8) (e : Int) (w : World) (hr : RfS w g rest e) : Calls Tryz.prog 158 #[.pointer (some ⟨g, 0, none⟩), .int .i64 1099511627776] w (DidRN g (bytR rest e).1 (bytR rest e).2.1 (bytR rest e).2.2 w) := rfBytes_any g rest e 1099511627776 (by decide) (by decide) w hr
theorem byt_len (rest : List UInt8) (e : Int) : (bytR rest e).2.1.length ≤ rest.length := bytesF_lenG _ rest e
theorem envR_len (rest : List UInt8) (e : Int) : (envR rest e).2.1.length ≤ rest.length := Nat.le_trans (byt_len _ _) (int8F_lenG _ _)
def elR (G : Rdg (Int × List UInt8)) (g : Nat) (r : List UInt8) (e : Int) : World → Ending → World → Prop := fun W en W' => ∃ q : EnvB, Prod.fst q = (G r e).1 ∧ en = .returned (.agg #[.int .i64 q.1.1, q.2]) ∧ envOk (fun b => W.heap.size ≤ b) W' q ∧ RfS W' g (G r e).2.1 (G r e).2.2 ∧ Only g W W'
set_option maxHeartbeats 1000000 in
theorem rEnvelope_any (g : Nat) (rest : List UInt8) (err : Int) (w : World) (hr : RfS w g rest err) : Calls Tryz.prog 161 #[.pointer (some ⟨g, 0, none⟩)] w (elR envR g rest err w) := by
  have x1 := heap_alloc_new w (.cells #[.int .i64 0, .slice none 0 0] 40)
  have hb0 := alloc1B w (.cells #[.int .i64 0, .slice none 0 0] 40)
  have hgl := hr.lt
  have HI := Lib.hid (fun W (h : RfS W g rest err) => rInt8_any g rest err W h)
  have HY := Lib.hid (fun W (h : RfS W g (int8F rest err).2.1 (int8F rest err).2.2) => rByt_any g (int8F rest err).2.1 (int8F rest err).2.2 W h)
  unfold elR envR
  generalize int8F rest err = a1 at *
  obtain ⟨a, r1, e1⟩ := a1
  simp only at *
  generalize bytR r1 e1 = a2 at *
  obtain ⟨l, r2, e2⟩ := a2
  simp only at *
  have HR := Lib.hid (hr.below hb0)
  have HO := Lib.hid (only_of g hb0)
  have HX := Lib.hid x1
  have HG := Lib.hid hgl
  go_enter Tryz.func161, Tryz.ntmps161
  go_upto_region 1 with fail
  generalize hw0 : w.alloc _ = w0 at *
  have HZ0 := Lib.hid hb0.size
  clear x1 hb0 hw0 hgl hr
  go_wp2_with (first
    | (go_at_call 136; refine (HI.out _ HR.out).mono ?_; rintro e w1 ⟨rfl, hr1, ho1⟩; have HR1 := Lib.hid hr1; have HX := Lib.hid (onlyHeap ho1 HX.out (by have := HG.out; omega)); have HO1 := Lib.hid (HO.out.trans ho1); clear hr1 ho1)
    | (go_at_call 158; refine (HY.out _ HR1.out).mono ?_; rintro e w2 ⟨v2, rfl, hv2, hr2, ho2, hn2⟩; obtain ⟨A, c, rfl, -⟩ := hv2.open; have HV2 := Lib.hid hv2; have HR2 := Lib.hid hr2; have HN2 := Lib.hid hn2; have HLT := Lib.hid ((Array.getElem?_eq_some_iff.1 HX.out).1); have HX := Lib.hid (onlyHeap ho2 HX.out (by have := HG.out; omega)); have HO2 := Lib.hid (HO1.out.trans ho2); clear hv2 hr2 ho2 hn2)
    | (refine wpList_storeAll rfl 40 _ _ rfl w.heap.size _ _ rfl rfl HX.out rfl (by kernel_rfl) (by kernel_rfl) ?_; intro w3 hz hh ho; have HYY := Lib.hid hh; have HO3 := Lib.hid ho; clear hz hh ho))
  have z0 := rowCell HYY.out 0 (.int .i64 a) rfl
  have z1 := rowCell HYY.out 1 (.slice A l.length c) rfl
  refine bodyPost_ret (v := .agg #[.int .i64 a, .slice A l.length c]) ?_ rfl ⟨((a, l), .slice A l.length c), rfl, rfl, ⟨?_, ?_⟩, ?_, ?_⟩
  · simp [results, Tryz.results161, go_sem, z0, z1]
  · exact HV2.out.grown HO3.out (fun _ k hk e => by injection e with e; have := HN2.out k hk; have := HLT.out; omega)
  · exact fun _ k hk => by have := HN2.out k hk; have := HLT.out; omega
  · exact HR2.out.store HO3.out HG.out HX.out (by decide)
  · exact onlyNew HO2.out HO3.out (Nat.le_refl _)
def LsRd {α β : Type} (g : Nat) (t : TypeId) (K : Nat) (cells : β → List Value) (val : β → α) (ok : (Nat → Prop) → World → β → Prop) (x : List α × List UInt8 × Int) (w : World) (e : Ending) (w' : World) : Prop :=
  ∃ (qs : List β) (v : Value), e = .returned v ∧ qs.map val = x.1 ∧ w'.ownsRow w.heap.size t K v qs.length (qs.flatMap cells) ∧ (∀ q ∈ qs, ok (fun b => w.heap.size ≤ b ∧ v.ownBlock ≠ some b) w' q) ∧ RfS w' g x.2.1 x.2.2 ∧ Only g w w'
structure GsRd {α β : Type} (G : Rdg α) (w : World) (g : Nat) (t : TypeId) (K : Nat) (cells : β → List Value) (val : β → α) (ok : (Nat → Prop) → World → β → Prop) (c : Nat) (L : List α × List UInt8 × Int) (wr : World) (k : Nat) (qs : List β) (rk : List UInt8) (ek : Int) (row : Value) : Prop where
  cnt : qs.length = k
  pre : (qs.map val ++ (timesG G (c - k) rk ek).1, (timesG G (c - k) rk ek).2) = L
  len : Far rk
  rd : RfS wr g rk ek
  own : wr.ownsRow w.heap.size t K row k (qs.flatMap cells)
  els : ∀ q ∈ qs, ok (fun b => w.heap.size ≤ b ∧ row.ownBlock ≠ some b) wr q
  on : Only g w wr
theorem GsRd.next {α β : Type} {G : Rdg α} {w : World} {g : Nat} {t : TypeId} {K : Nat} {cells : β → List Value} {val : β → α} {ok : (Nat → Prop) → World → β → Prop} {c : Nat} {L : List α × List UInt8 × Int} {wr w2 w3 w4 : World} {k : Nat} {qs : List β} {rk r1 : List UInt8} {ek e1 : Int} {row row' : Value} {q : β}
    (hmv : ∀ (S T : Nat → Prop) (w w' : World) (q : β), KeptC S T w w' → w.heap.size ≤ w'.heap.size → ok S w q → ok T w' q) (ht : 5 ≠ t) (hgw : g < w.heap.size)
    (h : GsRd G w g t K cells val ok c L wr k qs rk ek row) (hk : k < c) (hx : G rk ek = (val q, r1, e1)) (hlen : r1.length ≤ rk.length)
    (hel : ok (fun b => wr.heap.size ≤ b) w2 q) (hrd : RfS w2 g r1 e1) (hon : Only g wr w2) (hal : Below w2.heap.size w2 w3)
    (hown : w4.ownsRow w.heap.size t K row' (k + 1) (qs.flatMap cells ++ cells q)) (hgr : w3.grownBy w4 row.ownBlock) (hrow : row'.ownBlock = row.ownBlock ∨ row'.ownBlock = some w3.heap.size) :
    GsRd G w g t K cells val ok c L w4 (k + 1) (qs ++ [q]) r1 e1 row' := by
  have hz2 := hon.size
  have hz3 := hal.size
  have hz4 := hgr.size
  have hz0 := h.on.size
  have hrow0 := h.own.lt
  have hkeep : ∀ b, b < w2.heap.size → row.ownBlock ≠ some b → w4.heap[b]? = w2.heap[b]? := fun b h1 h3 => by
    rw [hgr.block b (by omega) (fun e => h3 e.symm)]
    exact hal.block b h1
  have hlow : ∀ b, b < w.heap.size → row.ownBlock ≠ some b := fun b hb e => by have := (hrow0 b e).1; omega
  have hrowT : ∀ (b : Nat) (cs : Array Value) (fr : Nat × Nat), w2.heap[b]? = some (Obj.cells cs 5 fr) → row.ownBlock ≠ some b := fun b cs fr hb e => by
    obtain ⟨cs2, fr2, h4⟩ := own_typed h.own b e
    have h5 := (hon.block b (h.own.lt b e).2 (by intro e2; injection e2 with e2; have := (h.own.lt b e).1; omega)).trans h4
    exact other_blockG hb h5 ht rfl
  refine ⟨by rw [List.length_append, h.cnt]; rfl, ?_, by have := h.len; unfold Far at *; omega, ?_, ?_, ?_, ⟨?_, ?_, ?_, by omega, fun m hm m1 => ?_⟩⟩
  · rw [← h.pre, show c - k = c - (k + 1) + 1 by omega, timesG, hx]
    simp
  · exact hrd.keepH (by omega) (hkeep g (by omega) (hlow g hgw)) (fun b cs fr hb => hkeep b (Array.getElem?_eq_some_iff.1 hb).1 (hrowT b cs fr hb)) fun b hb => hkeep b (by omega) (hlow b (by omega))
  · rw [List.flatMap_append, List.flatMap_cons, List.flatMap_nil, List.append_nil]
    exact hown
  · intro x hxq
    rcases List.mem_append.1 hxq with hxq | hxq
    · refine hmv _ _ _ _ _ (fun b hl hb => ?_) (by omega) (h.els x hxq)
      refine ⟨(hkeep b (by omega) hb.2).trans (hon.block b hl (by intro e; injection e with e; omega)), hb.1, ?_⟩
      rcases hrow with e | e
      · rw [e]; exact hb.2
      · rw [e]; intro e2; injection e2 with e2; omega
    · rw [List.mem_singleton.1 hxq]
      refine hmv _ _ _ _ _ (fun b hl hb => ?_) (by omega) hel
      have hne : row.ownBlock ≠ some b := fun e => by have := (hrow0 b e).2; omega
      refine ⟨hkeep b hl hne, by omega, ?_⟩
      rcases hrow with e | e
      · rw [e]; exact hne
      · rw [e]; intro e2; injection e2 with e2; omega
  · exact hgr.os.trans (hal.os.trans (hon.os.trans h.on.os))
  · exact hgr.tape.trans (hal.tape.trans (hon.tape.trans h.on.tape))
  · exact hgr.output.trans (hal.output.trans (hon.output.trans h.on.output))
  · exact (hkeep m (by omega) (hlow m hm)).trans ((hon.block m (by omega) m1).trans (h.on.block m hm m1))
theorem GsRd.end {α β : Type} {G : Rdg α} {w : World} {g : Nat} {t : TypeId} {K : Nat} {cells : β → List Value} {val : β → α} {ok : (Nat → Prop) → World → β → Prop} {c : Nat} {L : List α × List UInt8 × Int} {wr : World} {qs : List β} {rk : List UInt8} {ek : Int} {row : Value} (h : GsRd G w g t K cells val ok c L wr c qs rk ek row) : LsRd g t K cells val ok L w (.returned row) wr := by
  have hp := h.pre
  rw [Nat.sub_self, timesG, List.append_nil] at hp
  rw [← hp]
  have ho := h.own
  rw [← h.cnt] at ho
  exact ⟨qs, row, rfl, rfl, ho, h.els, h.rd, h.on⟩
theorem cntR_le (n : Int) (hn : 0 ≤ n ∧ n ≤ 15) (rest : List UInt8) (e : Int) : (cntG (0, n) rest e).1 ≤ 15 := by
  unfold cntG stepF
  split
  · exact Nat.zero_le _
  split
  · exact Nat.zero_le _
  split
  · exact Nat.zero_le _
  · rename_i h0
    have h0 := Decidable.not_not.1 h0
    unfold alCount ceilE at h0
    by_cases hc : max n 0 < (wordN (rest.take 4) : Int)
    · rw [if_pos hc] at h0
      exact absurd h0 (by decide)
    · simp only
      omega
set_option maxHeartbeats 2000000 in
theorem rGetList_any (g : Nat) (rest : List UInt8) (err : Int) (w : World) (hr : RfS w g rest err) (hl : Far rest) :
    Calls Tryz.prog 159 #[.pointer (some ⟨g, 0, none⟩)] w (LsRd g 40 2 envC Prod.fst envOk (lenR rest err) w) := by
  have hcnt := fun W (hW : RfS W g rest err) => rfCount_any g rest err 15 (by decide) (by decide) W hW
  have hc8 := cntR_le 15 (by decide) rest err
  have hcl := stepF_lenG 4 (alCount 15) rest err
  have hcg : stepF 4 (alCount 15) rest err = cntG (0, 15) rest err := rfl
  rw [hcg] at hcl
  simp only [hcg] at hcnt
  unfold lenR lisG
  rw [if_pos (show countB (0, 15) = true from rfl)]
  rcases hst : cntG (0, 15) rest err with ⟨c, r1, e1⟩
  rw [hst] at hc8 hcl
  simp only [hst] at hcnt
  dsimp only at hc8 hcl hcnt ⊢
  clear hst hcg
  have HGW := Lib.hid hr.lt
  have HR := Lib.hid hr
  generalize hL : timesG envR c r1 e1 = L
  have HL := Lib.hid hL
  have HLEN := Lib.hid (show Far r1 from Nat.le_trans hcl hl)
  have HC8 := Lib.hid hc8
  have HCC := Lib.hid hcnt
  clear hL hl hr hc8 hcl hcnt
  obtain ⟨i1, hi1, hz1, hsz1, hby1⟩ := info_partsG envinfoB
  go_enter Tryz.func159, Tryz.ntmps159
  go_wp2_with (go_at_call 160; refine (HCC.out _ HR.out).mono ?_; rintro e w2 ⟨rfl, hrd, hon⟩; have HRD := Lib.hid hrd; have HON := Lib.hid hon; clear hrd hon)
  go_loopw [3, 5] (fun row i wr => ∃ (k : Nat) (qs : List EnvB) (rk : List UInt8) (ek : Int), k ≤ c ∧ i = .int .i64 k ∧ GsRd envR w g 40 2 envC Prod.fst envOk c L wr k qs rk ek row) (fun _ i _ => c - (intOf i).toNat)
  case atStart => exact ⟨0, [], r1, e1, Nat.zero_le _, rfl, ⟨rfl, (by rw [List.map_nil, List.nil_append, Nat.sub_zero]; exact HL.out), HLEN.out, HRD.out, World.ownsRow_nil _ _ _ _, (fun q hq => by cases hq), HON.out⟩⟩
  case round =>
    obtain ⟨k, qs, rk, ek, hk, rfl, hi⟩ := hrel
    have HI := Lib.hid hi
    clear hi HRD HON
    by_cases hlt : k < c
    · have hltI : (k : Int) < (c : Int) := by omega
      have hcall := rEnvelope_any g rk ek wr HI.out.rd
      rcases hx2 : envR rk ek with ⟨x, r2, e2⟩
      have hrl : r2.length ≤ rk.length := by have := envR_len rk ek; rw [hx2] at this; exact this
      unfold elR at hcall
      rw [hx2] at hcall
      have HC := Lib.hid hcall
      have HX := Lib.hid hx2
      have HLT := Lib.hid hlt
      have HRL := Lib.hid hrl
      clear hcall hx2 hrl
      dsimp only at HC
      go_wp2_with fail
      refine HC.out.mono ?_
      rintro _ wA ⟨q, hq, rfl, hel, hrdA, hoA⟩
      have HQ := Lib.hid (show envR rk ek = (Prod.fst q, r2, e2) by rw [hq]; exact HX.out)
      have HEL := Lib.hid hel
      have HRA := Lib.hid hrdA
      have HOA := Lib.hid hoA
      have hownA := own_onlyG HI.out.own hoA HGW.out
      have HOW := Lib.hid (own_belowG hownA (alloc1B wA (.cells (envC q).toArray 40)))
      have HRW := Lib.hid (rowMs_new wA (envC q).toArray 40 1 2 rfl 1 (by decide))
      have HONE := Lib.hid (show ∀ u ∈ envC q, u.oneCell' = true from by intro u hu; have hb := HEL.out.1.open; obtain ⟨A0, c0, h0, -⟩ := hb; simp only [envC, List.mem_cons, List.not_mem_nil, or_false] at hu; rcases hu with rfl | rfl; rfl; rw [h0]; rfl)
      have hb1 : k + 1 ≤ maxLen := by have := HC8.out; have := HLT.out; unfold maxLen; omega
      have hb2 : (k + 1) * 32 ≤ 140737488355328 := by have := HC8.out; have := HLT.out; omega
      have HBS := Lib.hid (And.intro hb1 hb2)
      have hb5 : w.heap.size ≤ (wA.alloc (.cells (envC q).toArray 40)).heap.size := by have := HI.out.on.size; have := HOA.out.size; simp only [World.size_alloc]; omega
      have HB5 := Lib.hid hb5
      have hkb : k + 1 ≤ 1000000 := by have := HC8.out; omega
      clear hb1 hb2 hb5 hq hel hrdA hoA hownA HC HX
      go_wp2_with (at_builtin; refine wpList_append_rowsM rfl (.tmp 13) (.tmp 16) 31 rfl w.heap.size 40 i1 (.agg #[.int .i64 0, .slice none 0 0]) 2 32 Tryz.underlying31 hi1 hz1 hsz1 hby1 rfl (by decide) _ k _ rfl HOW.out _ 1 (envC q) rfl HRW.out HONE.out HBS.out.1 HBS.out.2 HB5.out ?_; intro v4 w4 hown4 hgr4 hor4; have HN := Lib.hid (GsRd.next envOk.mv (by decide) HGW.out HI.out HLT.out HQ.out HRL.out HEL.out HRA.out HOA.out (alloc1B _ _) hown4 hgr4 hor4); clear hown4 hgr4 hor4)
      go_roundw
      case rel => exact ⟨k + 1, _, _, _, by have := HLT.out; omega, by go_num, HN.out⟩
      case measure => simp [intOf]; have := HLT.out; omega
    · obtain rfl : k = c := by omega
      have hltI : ¬ (k : Int) < (k : Int) := by omega
      go_wp2
      go_ret
      exact HI.out.end



structure PtM (B g : Nat) (s : Shp) (m : Msg) (P : Plc) (rest : List UInt8) (e : Int) (w W : World) : Prop where
  box : W.heap[B]? = some (.cells (msC m P) 57 (0, 0))
  has : W.heap[B + 1]? = some (.cells (hasC s) 118 (0, 0))
  res : W.heap[B + 2]? = some (.cells msH 57 (0, 0))
  rd : RfS W g rest e
  on : Only g w W
  far : Far rest
  x : Bs W (.slice P.x.1 m.x.length P.x.2) m.x ∧ New (B + 3) (.slice P.x.1 m.x.length P.x.2)
  b : RowC (fun k => B + 3 ≤ k) W 2 (EnvC (fun k => B + 3 ≤ k)) P.b.1 P.b.2 m.b
  p : RowC (fun k => B + 3 ≤ k) W 2 (EnvC (fun k => B + 3 ≤ k)) P.p.1 P.p.2 m.p
  q : m.q = [] ∧ P.q = (none, 0)
theorem rowC_onlyH {C : Nat → Prop} {g : Nat} {w W : World} {A : Option Addr} {c : Nat} {l : List (Int × List UInt8)} (h : RowC C w 2 (EnvC C) A c l) (ho : Only g w W) (hg : ¬ C g) : RowC C W 2 (EnvC C) A c l :=
  have hk : KeptC C C w W := fun k hl hc => ⟨ho.block k hl (by intro e; injection e with e; exact hg (e ▸ hc)), hc⟩
  h.keep ho.size hk fun p x hl hp hx => hx.keep ho.size hk hl hp
theorem PtM.call {B g : Nat} {s : Shp} {m : Msg} {P : Plc} {rest r' : List UInt8} {e e' : Int} {w W W2 : World} (h : PtM B g s m P rest e w W) (hg : g < B) (hr : RfS W2 g r' e') (ho : Only g W W2) (hf : r'.length ≤ rest.length) : PtM B g s m P r' e' w W2 :=
  ⟨onlyHeap ho h.box (by omega), onlyHeap ho h.has (by omega), onlyHeap ho h.res (by omega), hr, h.on.trans ho, Nat.le_trans hf h.far, ⟨h.x.1.grown ho (fun _ k hk e => by injection e with e; have := h.x.2 k hk; omega), h.x.2⟩, rowC_onlyH h.b ho (by omega), rowC_onlyH h.p ho (by omega), h.q⟩
theorem PtM.put {B g : Nat} {s : Shp} {m m' : Msg} {P P' : Plc} {rest : List UInt8} {e : Int} {w W W2 : World} (h : PtM B g s m P rest e w W) (hg : g < B) (hB : w.heap.size ≤ B) (ho : Only B W W2) (hb : W2.heap[B]? = some (.cells (msC m' P') 57 (0, 0)))
    (hx : Bs W (.slice P'.x.1 m'.x.length P'.x.2) m'.x ∧ New (B + 3) (.slice P'.x.1 m'.x.length P'.x.2)) (hbb : RowC (fun k => B + 3 ≤ k) W 2 (EnvC (fun k => B + 3 ≤ k)) P'.b.1 P'.b.2 m'.b) (hpp : RowC (fun k => B + 3 ≤ k) W 2 (EnvC (fun k => B + 3 ≤ k)) P'.p.1 P'.p.2 m'.p) (hq : m'.q = [] ∧ P'.q = (none, 0)) : PtM B g s m' P' rest e w W2 :=
  ⟨hb, onlyHeap ho h.has (by omega), onlyHeap ho h.res (by omega), h.rd.store ho hg h.box (by decide), onlyNew h.on ho hB, h.far, ⟨hx.1.grown ho (fun _ k hk e => by injection e with e; have := hx.2 k hk; omega), hx.2⟩, rowC_onlyH hbb ho (by omega), rowC_onlyH hpp ho (by omega), hq⟩
theorem PtM.lt {B g : Nat} {s : Shp} {m : Msg} {P : Plc} {rest : List UInt8} {e : Int} {w W : World} (h : PtM B g s m P rest e w W) : B + 2 < W.heap.size := (Array.getElem?_eq_some_iff.1 h.res).1
theorem row_up {C C' : Nat → Prop} {w : World} {A : Option Addr} {c : Nat} {l : List (Int × List UInt8)} (h : RowC C w 2 (EnvC C) A c l) (hc : ∀ k, C k → C' k) : RowC C' w 2 (EnvC C') A c l :=
  have hk : KeptC C C' w w := fun k _ h => ⟨rfl, hc k h⟩
  h.keep (Nat.le_refl _) hk fun p x hl hp hx => hx.keep (Nat.le_refl _) hk hl hp
theorem num_len (b : Int × Int) (rest : List UInt8) (e : Int) : (numG b rest e).2.1.length ≤ rest.length := by
  unfold numG
  split
  · exact int8F_lenG _ _
  · exact Nat.le_refl _
theorem lenR_len (rest : List UInt8) (e : Int) : (lenR rest e).2.1.length ≤ rest.length := lis_lenG envR_len _ _ _
def GtM (g : Nat) (x : Msg × List UInt8 × Int) (w : World) (en : Ending) (w' : World) : Prop := ∃ P, en = .returned (agM x.1 P) ∧ (∀ W, KpB w.heap.size w' W → MsgK W x.1 P) ∧ RfS w' g x.2.1 x.2.2 ∧ Only g w w'
theorem bs_kpb {B : Nat} {w W : World} {v : Value} {l : List UInt8} (h : Bs w v l) (hn : New B v) (hk : KpB B w W) : Bs W v l := h.keep hk.1 fun hne k e => hk.2 k (hn k e) (h.lt hne k e)
theorem row_kpb {B : Nat} {w W : World} {A : Option Addr} {c : Nat} {l : List (Int × List UInt8)} (h : RowC (fun k => B ≤ k) w 2 (EnvC (fun k => B ≤ k)) A c l) (hk : KpB B w W) : EnvK W A c l :=
  have hc : KeptC (fun k => B ≤ k) (fun k => B ≤ k) w W := fun k hl hb => ⟨hk.2 k hb hl, hb⟩
  (h.keep hk.1 hc fun p x hl hp hx => hx.keep hk.1 hc hl hp).1.to fun _ _ => EnvC.p
theorem getM_eq {k : Int} {s : Shp} {rest r1 r2 r3 r4 r5 r6 r7 r8 r9 r10 : List UInt8} {err e1 e2 e3 e4 e5 e6 e7 e8 e9 e10 v n c t : Int} {d x : List UInt8} {r : Int × Int} {b p : List (Int × List UInt8)} {q : List Crt}
    (h1 : numG s.v rest err = (v, r1, e1)) (h2 : numG s.s r1 e1 = (n, r2, e2)) (h3 : numG s.c r2 e2 = (c, r3, e3)) (h4 : numG s.t r3 e3 = (t, r4, e4)) (h5 : rowR s.d r4 e4 = (d, r5, e5)) (h6 : rowR s.x r5 e5 = (x, r6, e6)) (h7 : resG s.r r6 e6 = (r, r7, e7)) (h8 : lstR s.b r7 e7 = (b, r8, e8)) (h9 : lstR s.p r8 e8 = (p, r9, e9)) (h10 : crsR s.q r9 e9 = (q, r10, e10)) :
    bodyR k s rest err = (⟨k, v, n, c, t, d, x, r, b, p, q⟩, r10, e10) := by
  unfold bodyR thenG retG
  simp only [h1, h2, h3, h4, h5, h6, h7, h8, h9, h10]
set_option maxHeartbeats 8000000 in
theorem rGetM_any (g : Nat) (k : Int) (s : Shp) (hst : countB s.c = countB s.t) (rest : List UInt8) (err : Int) (w : World) (hr : RfS w g rest err) (hl : Far rest) (hq : (bodyR k s rest err).1.q = []) :
    Calls Tryz.prog 137 #[.pointer (some ⟨g, 0, none⟩), agM ⟨k, 0, 0, 0, 0, [], [], (0, 0), [], [], []⟩ P0, .agg (hasC s)] w (GtM g (bodyR k s rest err) w) := by
  rcases h1 : numG s.v rest err with ⟨v, r1, e1⟩
  rcases h2 : numG s.s r1 e1 with ⟨n, r2, e2⟩
  rcases h3 : numG s.c r2 e2 with ⟨c, r3, e3⟩
  rcases h4 : numG s.t r3 e3 with ⟨t, r4, e4⟩
  rcases h5 : rowR s.d r4 e4 with ⟨d, r5, e5⟩
  rcases h6 : rowR s.x r5 e5 with ⟨x, r6, e6⟩
  rcases h7 : resG s.r r6 e6 with ⟨r, r7, e7⟩
  rcases h8 : lstR s.b r7 e7 with ⟨b, r8, e8⟩
  rcases h9 : lstR s.p r8 e8 with ⟨p, r9, e9⟩
  rcases h10 : crsR s.q r9 e9 with ⟨q, r10, e10⟩
  rw [getM_eq h1 h2 h3 h4 h5 h6 h7 h8 h9 h10] at hq ⊢
  simp only at hq
  subst hq
  have HG := Lib.hid hr.lt
  obtain ⟨x1, x2, x3⟩ := box2B w (msC ⟨k, 0, 0, 0, 0, [], [], (0, 0), [], [], []⟩ P0) (hasC s) 57 118
  have x4 := heapB x1 (alloc1B _ (.cells msH 57))
  have x5 := heapB x2 (alloc1B _ (.cells msH 57))
  have x6 := bel2M x3 (alloc1B _ (.cells msH 57))
  have x7 := heap_alloc_new ((w.alloc (.cells (msC ⟨k, 0, 0, 0, 0, [], [], (0, 0), [], [], []⟩ P0) 57)).alloc (.cells (hasC s) 118)) (.cells msH 57)
  have hz : ((w.alloc (.cells (msC ⟨k, 0, 0, 0, 0, [], [], (0, 0), [], [], []⟩ P0) 57)).alloc (.cells (hasC s) 118)).heap.size = w.heap.size + 2 := by simp
  rw [hz] at x7
  have HT := Lib.hid (show PtM w.heap.size g s ⟨k, 0, 0, 0, 0, [], [], (0, 0), [], [], []⟩ P0 rest err w _ from ⟨x4, x5, x7, hr.below x6, only_of g x6, hl, ⟨Bs.nil _, New.nil _⟩, ⟨RowM.none _ _ _, fun h => absurd rfl h⟩, ⟨RowM.none _ _ _, fun h => absurd rfl h⟩, rfl, rfl⟩)
  have H1 := Lib.hid h1
  have H2 := Lib.hid h2
  have H3 := Lib.hid h3
  have H4 := Lib.hid h4
  have H5 := Lib.hid h5
  have H6 := Lib.hid h6
  have H7 := Lib.hid h7
  have H8 := Lib.hid h8
  have H9 := Lib.hid h9
  have H10 := Lib.hid h10
  have HCT := Lib.hid hst
  clear x1 x2 x3 x4 x5 x6 x7 hz h1 h2 h3 h4 h5 h6 h7 h8 h9 h10 hr hl hst
  go_enter Tryz.func137, Tryz.ntmps137
  go_upto_region 1 with fail
  generalize hw0 : ((w.alloc _).alloc _).alloc _ = w0 at *
  clear hw0
  have a1 := rowCell HT.out.has 0 (.bool (countB s.v)) rfl
  go_upto_if 10 with fail
  go_cut [] from 10 to 13 (fun wx => PtM w.heap.size g s ⟨k, v, 0, 0, 0, [], [], (0, 0), [], [], []⟩ P0 r1 e1 w wx)
  case first =>
    clear a1
    rcases hf : countB s.v with _ | _
    · have hh := H1.out
      unfold numG at hh
      rw [if_neg (by rw [hf]; decide)] at hh
      injection hh with hv hh
      injection hh with hr he
      subst hv hr he
      clear hf
      go_wp2_with fail
      go_meet
      exact HT.out
    · have hh := H1.out
      unfold numG at hh
      rw [if_pos hf] at hh
      clear hf
      have HI := Lib.hid (fun W (h : RfS W g rest err) => rInt8_any g rest err W h)
      have hlen := int8F_lenG rest err
      rw [hh] at HI hlen
      dsimp only at HI hlen
      clear hh
      go_wp2_with (go_at_call 136; go_loud (refine (HI.out _ HT.out.rd).mono ?_; rintro e w1 ⟨rfl, hr1, ho1⟩; have HT1 := Lib.hid (HT.out.call HG.out hr1 ho1 hlen); clear hr1 ho1; have f1 : w1.frozen? ⟨w.heap.size, 1, none⟩ = false := (by have := HT1.out.box; simp [World.frozen?, this]); have q1 := rowCell HT1.out.box 1 (.int .i64 0) rfl))
      go_meet
      exact HT1.out.put HG.out (Nat.le_refl _) ((Only.refl _ _).set 1 _) (set_at HT1.out.box 1 _) HT1.out.x HT1.out.b HT1.out.p HT1.out.q
  case rest =>
  clear HT a1
  have HT := Lib.hid hcut
  clear hcut
  skip
  have a2 := rowCell HT.out.has 1 (.bool (countB s.s)) rfl
  go_upto_if 15 with fail
  go_cut [] from 15 to 18 (fun wx => PtM w.heap.size g s ⟨k, v, n, 0, 0, [], [], (0, 0), [], [], []⟩ P0 r2 e2 w wx)
  case first =>
    clear a2
    rcases hf : countB s.s with _ | _
    · have hh := H2.out
      unfold numG at hh
      rw [if_neg (by rw [hf]; decide)] at hh
      injection hh with hv hh
      injection hh with hr he
      subst hv hr he
      clear hf
      go_wp2_with fail
      go_meet
      exact HT.out
    · have hh := H2.out
      unfold numG at hh
      rw [if_pos hf] at hh
      clear hf
      have HI := Lib.hid (fun W (h : RfS W g r1 e1) => rInt8_any g r1 e1 W h)
      have hlen := int8F_lenG r1 e1
      rw [hh] at HI hlen
      dsimp only at HI hlen
      clear hh
      go_wp2_with (go_at_call 136; go_loud (refine (HI.out _ HT.out.rd).mono ?_; rintro e w1 ⟨rfl, hr1, ho1⟩; have HT1 := Lib.hid (HT.out.call HG.out hr1 ho1 hlen); clear hr1 ho1; have f1 : w1.frozen? ⟨w.heap.size, 2, none⟩ = false := (by have := HT1.out.box; simp [World.frozen?, this]); have q1 := rowCell HT1.out.box 2 (.int .i64 0) rfl))
      go_meet
      exact HT1.out.put HG.out (Nat.le_refl _) ((Only.refl _ _).set 2 _) (set_at HT1.out.box 2 _) HT1.out.x HT1.out.b HT1.out.p HT1.out.q
  case rest =>
  clear HT a2
  have HT := Lib.hid hcut
  clear hcut
  skip
  have a3 := rowCell HT.out.has 2 (.bool (countB s.c)) rfl
  go_upto_if 20 with fail
  go_cut [] from 20 to 26 (fun wx => PtM w.heap.size g s ⟨k, v, n, c, t, [], [], (0, 0), [], [], []⟩ P0 r4 e4 w wx)
  case first =>
    clear a3
    rcases hf : countB s.c with _ | _
    · have hh := H3.out
      have hh2 := H4.out
      unfold numG at hh hh2
      rw [if_neg (by rw [hf]; decide)] at hh
      rw [← HCT.out, if_neg (by rw [hf]; decide)] at hh2
      injection hh with hv hh
      injection hh with hr he
      subst hv hr he
      injection hh2 with hv2 hh2
      injection hh2 with hr2 he2
      subst hv2 hr2 he2
      clear hf
      go_wp2_with fail
      go_meet
      exact HT.out
    · have hh := H3.out
      have hh2 := H4.out
      unfold numG at hh hh2
      rw [if_pos hf] at hh
      rw [← HCT.out, if_pos hf] at hh2
      clear hf
      have HI := Lib.hid (fun W (h : RfS W g r2 e2) => rInt8_any g r2 e2 W h)
      have HJ := Lib.hid (fun W (h : RfS W g r3 e3) => rInt8_any g r3 e3 W h)
      have hlen := int8F_lenG r2 e2
      have hlen2 := int8F_lenG r3 e3
      rw [hh] at HI hlen
      rw [hh2] at HJ hlen2
      dsimp only at HI hlen HJ hlen2
      clear hh hh2
      go_upto_region 7 with (go_at_call 136; go_loud (refine (HI.out _ HT.out.rd).mono ?_; rintro e w1 ⟨rfl, hr1, ho1⟩; have HT1 := Lib.hid (HT.out.call HG.out hr1 ho1 hlen); clear hr1 ho1; have f1 : w1.frozen? ⟨w.heap.size, 3, none⟩ = false := (by have := HT1.out.box; simp [World.frozen?, this]); have q1 := rowCell HT1.out.box 3 (.int .i64 0) rfl))
      have HT2 := Lib.hid (show PtM w.heap.size g s ⟨k, v, n, c, 0, [], [], (0, 0), [], [], []⟩ P0 r3 e3 w (w1.setCell ⟨w.heap.size, 3, none⟩ (.int .i64 c)) from HT1.out.put HG.out (Nat.le_refl _) ((Only.refl _ _).set 3 _) (set_at HT1.out.box 3 _) HT1.out.x HT1.out.b HT1.out.p HT1.out.q)
      generalize w1.setCell ⟨w.heap.size, 3, none⟩ (.int .i64 c) = w2 at *
      go_wp2_with (go_at_call 136; go_loud (refine (HJ.out _ HT2.out.rd).mono ?_; rintro e w3 ⟨rfl, hr1, ho1⟩; have HT3 := Lib.hid (HT2.out.call HG.out hr1 ho1 hlen2); clear hr1 ho1; have f3 : w3.frozen? ⟨w.heap.size, 4, none⟩ = false := (by have := HT3.out.box; simp [World.frozen?, this]); have q3 := rowCell HT3.out.box 4 (.int .i64 0) rfl))
      go_meet
      exact HT3.out.put HG.out (Nat.le_refl _) ((Only.refl _ _).set 4 _) (set_at HT3.out.box 4 _) HT3.out.x HT3.out.b HT3.out.p HT3.out.q
  case rest =>
  clear HT a3
  have HT := Lib.hid hcut
  clear hcut
  skip
  have a4 := rowCell HT.out.has 3 (.bool (countB s.d)) rfl
  go_upto_if 28 with fail
  go_cut [] from 28 to 32 (fun wx => PtM w.heap.size g s ⟨k, v, n, c, t, d, [], (0, 0), [], [], []⟩ P0 r5 e5 w wx)
  case first =>
    clear a4
    rcases hf : countB s.d with _ | _
    · have hh := H5.out
      unfold rowR rowG at hh
      rw [if_neg (by rw [loB_count (by decide), hf]; decide)] at hh
      injection hh with hv hh
      injection hh with hr he
      subst hv hr he
      clear hf
      go_wp2_with fail
      go_meet
      exact HT.out
    · have hh := H5.out
      unfold rowR rowG at hh
      rw [if_pos (by rw [loB_count (by decide), hf])] at hh
      have hlo : (loB s.d 1099511627776).2 = 1099511627776 := by unfold loB; rw [if_pos hf]
      rw [hlo] at hh
      clear hf hlo
      have HI := Lib.hid (fun W (h : RfS W g r4 e4) => rByt_any g r4 e4 W h)
      have hlen := byt_len r4 e4
      rw [show bytR r4 e4 = _ from hh] at HI hlen
      dsimp only at HI hlen
      clear hh
      go_wp2_with (go_at_call 158; go_loud (refine (HI.out _ HT.out.rd).mono ?_; rintro e w1 ⟨v1, rfl, hv1, hr1, ho1, hn1⟩; have HT1 := Lib.hid (HT.out.call HG.out hr1 ho1 hlen); have hcv := run_strD hv1; obtain ⟨A1, c1, rfl, -⟩ := hv1.open; clear hr1 ho1 hn1; have f1 : w1.frozen? ⟨w.heap.size, 5, none⟩ = false := (by have := HT1.out.box; simp [World.frozen?, this]); have q1 := rowCell HT1.out.box 5 (.string ⟨#[]⟩) rfl))
      go_meet
      exact HT1.out.put HG.out (Nat.le_refl _) ((Only.refl _ _).set 5 _) (set_at HT1.out.box 5 _) HT1.out.x HT1.out.b HT1.out.p HT1.out.q
  case rest =>
  clear HT a4
  have HT := Lib.hid hcut
  clear hcut
  skip
  have a5 := rowCell HT.out.has 4 (.bool (countB s.x)) rfl
  go_upto_if 34 with fail
  go_cut [] from 34 to 37 (fun wx => ∃ XA xc, PtM w.heap.size g s ⟨k, v, n, c, t, d, x, (0, 0), [], [], []⟩ ⟨(XA, xc), (none, 0), (none, 0), (none, 0)⟩ r6 e6 w wx)
  case first =>
    clear a5
    rcases hf : countB s.x with _ | _
    · have hh := H6.out
      unfold rowR rowG at hh
      rw [if_neg (by rw [loB_count (by decide), hf]; decide)] at hh
      injection hh with hv hh
      injection hh with hr he
      subst hv hr he
      clear hf
      go_wp2_with fail
      go_meet
      exact ⟨none, 0, HT.out⟩
    · have hh := H6.out
      unfold rowR rowG at hh
      rw [if_pos (by rw [loB_count (by decide), hf])] at hh
      have hlo : (loB s.x 1099511627776).2 = 1099511627776 := by unfold loB; rw [if_pos hf]
      rw [hlo] at hh
      clear hf hlo
      have HI := Lib.hid (fun W (h : RfS W g r5 e5) => rByt_any g r5 e5 W h)
      have hlen := byt_len r5 e5
      rw [show bytR r5 e5 = _ from hh] at HI hlen
      dsimp only at HI hlen
      clear hh
      go_wp2_with (go_at_call 158; go_loud (refine (HI.out _ HT.out.rd).mono ?_; rintro e w1 ⟨v1, rfl, hv1, hr1, ho1, hn1⟩; have HLT := Lib.hid HT.out.lt; have HT1 := Lib.hid (HT.out.call HG.out hr1 ho1 hlen); obtain ⟨A1, c1, rfl, -⟩ := hv1.open; have HV1 := Lib.hid hv1; have HN1 := Lib.hid hn1; clear hr1 ho1 hv1 hn1; have f1 : w1.frozen? ⟨w.heap.size, 6, none⟩ = false := (by have := HT1.out.box; simp [World.frozen?, this]); have q1 := rowCell HT1.out.box 6 (.slice none 0 0) rfl))
      go_meet
      exact ⟨A1, c1, HT1.out.put (P' := ⟨(A1, c1), (none, 0), (none, 0), (none, 0)⟩) HG.out (Nat.le_refl _) ((Only.refl _ _).set 6 _) (set_at HT1.out.box 6 _) ⟨HV1.out, fun k hk => by have := HN1.out k hk; have := HLT.out; omega⟩ HT1.out.b HT1.out.p HT1.out.q⟩
  case rest =>
  clear HT a5
  obtain ⟨XA, xc, hcut⟩ := hcut
  have HT := Lib.hid hcut
  clear hcut
  skip
  have a6 := rowCell HT.out.has 5 (.bool (s.r)) rfl
  go_upto_if 39 with fail
  go_cut [] from 39 to 45 (fun wx => PtM w.heap.size g s ⟨k, v, n, c, t, d, x, r, [], [], []⟩ ⟨(XA, xc), (none, 0), (none, 0), (none, 0)⟩ r7 e7 w wx)
  case first =>
    clear a6
    rcases hf : s.r with _ | _
    · have hh := H7.out
      unfold resG at hh
      rw [if_neg (by rw [hf]; decide)] at hh
      injection hh with hv hh
      injection hh with hr he
      subst hv hr he
      clear hf
      go_wp2_with fail
      go_meet
      exact HT.out
    · have hh := H7.out
      unfold resG at hh
      rw [if_pos hf] at hh
      clear hf
      rcases hi1 : int8F r6 e6 with ⟨z1, y1, g1⟩
      rw [hi1] at hh
      dsimp only at hh
      rcases hi2 : int8F y1 g1 with ⟨z2, y2, g2⟩
      rw [hi2] at hh
      injection hh with hv hh
      injection hh with hr he
      subst hv hr he
      have HI := Lib.hid (fun W (h : RfS W g r6 e6) => rInt8_any g r6 e6 W h)
      have HJ := Lib.hid (fun W (h : RfS W g y1 g1) => rInt8_any g y1 g1 W h)
      have hlen := int8F_lenG r6 e6
      have hlen2 := int8F_lenG y1 g1
      rw [hi1] at HI hlen
      rw [hi2] at HJ hlen2
      dsimp only at HI hlen HJ hlen2
      clear hi1 hi2
      go_wp2_with (first
        | (go_at_call 136; refine (HI.out _ HT.out.rd).mono ?_; rintro e w1 ⟨rfl, hr1, ho1⟩; have HT1 := Lib.hid (HT.out.call HG.out hr1 ho1 hlen); clear hr1 ho1 HI)
        | (go_at_call 136; go_loud (refine (HJ.out _ HT1.out.rd).mono ?_; rintro e w2 ⟨rfl, hr1, ho1⟩; have HT2 := Lib.hid (HT1.out.call HG.out hr1 ho1 hlen2); clear hr1 ho1; have f7 : w2.frozen? ⟨w.heap.size, 7, none⟩ = false := (by have := HT2.out.box; simp [World.frozen?, this]); have f8 : w2.frozen? ⟨w.heap.size, 8, none⟩ = false := (by have := HT2.out.box; simp [World.frozen?, this]); have q7 := rowCell HT2.out.box 7 (.int .i64 0) rfl; have q8 := rowCell HT2.out.box 8 (.int .i64 0) rfl)))
      go_meet
      exact HT2.out.put HG.out (Nat.le_refl _) (((Only.refl _ _).set 7 _).set 8 _) (set_at (set_at HT2.out.box 7 _) 8 _) HT2.out.x HT2.out.b HT2.out.p HT2.out.q
  case rest =>
  clear HT a6
  have HT := Lib.hid hcut
  clear hcut
  skip
  have a7 := rowCell HT.out.has 6 (.bool (countB s.b)) rfl
  go_upto_if 47 with fail
  go_cut [] from 47 to 50 (fun wx => ∃ BA bc1, PtM w.heap.size g s ⟨k, v, n, c, t, d, x, r, b, [], []⟩ ⟨(XA, xc), (BA, bc1), (none, 0), (none, 0)⟩ r8 e8 w wx)
  case first =>
    clear a7
    rcases hf : countB s.b with _ | _
    · have hh := H8.out
      unfold lstR lisG at hh
      rw [if_neg (by rw [loB_count (by decide), hf]; decide)] at hh
      injection hh with hv hh
      injection hh with hr he
      subst hv hr he
      clear hf
      go_wp2_with fail
      go_meet
      exact ⟨none, 0, HT.out⟩
    · have hlo : loB s.b 15 = (0, 15) := by unfold loB; rw [if_pos hf]
      have hh := H8.out
      unfold lstR at hh
      rw [hlo] at hh
      clear hf hlo
      have HI := Lib.hid (fun W (h : RfS W g r7 e7) (hl : Far r7) => rGetList_any g r7 e7 W h hl)
      have hlen := lenR_len r7 e7
      rw [show lenR r7 e7 = _ from hh] at HI hlen
      dsimp only at HI hlen
      clear hh
      go_wp2_with (go_at_call 159; go_loud (refine (HI.out _ HT.out.rd HT.out.far).mono ?_; rintro e w1 ⟨qs, v1, rfl, hq1, hown1, hel1, hr1, ho1⟩; obtain ⟨A1, c1, hv1, hrow1⟩ := envs_rowC hown1 (fun q hq => envOk.mv _ _ _ _ q (fun k _ hk => ⟨rfl, hk.1⟩) (Nat.le_refl _) (hel1 q hq)); rw [hq1] at hv1 hrow1; subst hv1; have HLT := Lib.hid HT.out.lt; have HT1 := Lib.hid (HT.out.call HG.out hr1 ho1 hlen); have HR1 := Lib.hid hrow1; clear hr1 ho1 hq1 hown1 hel1 hrow1; have f1 : w1.frozen? ⟨w.heap.size, 9, none⟩ = false := (by have := HT1.out.box; simp [World.frozen?, this]); have q1 := rowCell HT1.out.box 9 (.slice none 0 0) rfl))
      go_meet
      exact ⟨A1, c1, HT1.out.put (P' := ⟨(XA, xc), (A1, c1), (none, 0), (none, 0)⟩) HG.out (Nat.le_refl _) ((Only.refl _ _).set 9 _) (set_at HT1.out.box 9 _) HT1.out.x (row_up HR1.out fun k hk => by have := HLT.out; omega) HT1.out.p HT1.out.q⟩
  case rest =>
  clear HT a7
  obtain ⟨BA, bc1, hcut⟩ := hcut
  have HT := Lib.hid hcut
  clear hcut
  skip
  have a8 := rowCell HT.out.has 7 (.bool (countB s.p)) rfl
  go_upto_if 52 with fail
  go_cut [] from 52 to 55 (fun wx => ∃ PA pc1, PtM w.heap.size g s ⟨k, v, n, c, t, d, x, r, b, p, []⟩ ⟨(XA, xc), (BA, bc1), (PA, pc1), (none, 0)⟩ r9 e9 w wx)
  case first =>
    clear a8
    rcases hf : countB s.p with _ | _
    · have hh := H9.out
      unfold lstR lisG at hh
      rw [if_neg (by rw [loB_count (by decide), hf]; decide)] at hh
      injection hh with hv hh
      injection hh with hr he
      subst hv hr he
      clear hf
      go_wp2_with fail
      go_meet
      exact ⟨none, 0, HT.out⟩
    · have hlo : loB s.p 15 = (0, 15) := by unfold loB; rw [if_pos hf]
      have hh := H9.out
      unfold lstR at hh
      rw [hlo] at hh
      clear hf hlo
      have HI := Lib.hid (fun W (h : RfS W g r8 e8) (hl : Far r8) => rGetList_any g r8 e8 W h hl)
      have hlen := lenR_len r8 e8
      rw [show lenR r8 e8 = _ from hh] at HI hlen
      dsimp only at HI hlen
      clear hh
      go_wp2_with (go_at_call 159; go_loud (refine (HI.out _ HT.out.rd HT.out.far).mono ?_; rintro e w1 ⟨qs, v1, rfl, hq1, hown1, hel1, hr1, ho1⟩; obtain ⟨A1, c1, hv1, hrow1⟩ := envs_rowC hown1 (fun q hq => envOk.mv _ _ _ _ q (fun k _ hk => ⟨rfl, hk.1⟩) (Nat.le_refl _) (hel1 q hq)); rw [hq1] at hv1 hrow1; subst hv1; have HLT := Lib.hid HT.out.lt; have HT1 := Lib.hid (HT.out.call HG.out hr1 ho1 hlen); have HR1 := Lib.hid hrow1; clear hr1 ho1 hq1 hown1 hel1 hrow1; have f1 : w1.frozen? ⟨w.heap.size, 10, none⟩ = false := (by have := HT1.out.box; simp [World.frozen?, this]); have q1 := rowCell HT1.out.box 10 (.slice none 0 0) rfl))
      go_meet
      exact ⟨A1, c1, HT1.out.put (P' := ⟨(XA, xc), (BA, bc1), (A1, c1), (none, 0)⟩) HG.out (Nat.le_refl _) ((Only.refl _ _).set 10 _) (set_at HT1.out.box 10 _) HT1.out.x HT1.out.b (row_up HR1.out fun k hk => by have := HLT.out; omega) HT1.out.q⟩
  case rest =>
  clear HT a8
  obtain ⟨PA, pc1, hcut⟩ := hcut
  have HT := Lib.hid hcut
  clear hcut
  skip
  have a9 := rowCell HT.out.has 8 (.bool (countB s.q)) rfl
  go_upto_if 57 with fail
  go_cut [] from 57 to 74 (fun wx => PtM w.heap.size g s ⟨k, v, n, c, t, d, x, r, b, p, []⟩ ⟨(XA, xc), (BA, bc1), (PA, pc1), (none, 0)⟩ r10 e10 w wx)
  case first =>
    clear a9
    rcases hf : countB s.q with _ | _
    · have hh := H10.out
      unfold crsR lisG at hh
      rw [if_neg (by rw [loB_count (by decide), hf]; decide)] at hh
      injection hh with hv hh
      injection hh with hr he
      subst hr he
      clear hf hv
      go_wp2_with fail
      go_meet
      exact HT.out
    · have hlo : loB s.q 8 = (0, 8) := by unfold loB; rw [if_pos hf]
      have hh := H10.out
      unfold crsR lisG at hh
      rw [hlo, if_pos (show countB (0, 8) = true from rfl)] at hh
      clear hf hlo
      have hcg : stepF 4 (alCount 8) r9 e9 = cntG (0, 8) r9 e9 := rfl
      have HI := Lib.hid (fun W (h : RfS W g r9 e9) => rfCount_any g r9 e9 8 (by decide) (by decide) W h)
      have hlen := stepF_lenG 4 (alCount 8) r9 e9
      rw [hcg] at hlen
      simp only [hcg] at HI
      rcases hst : cntG (0, 8) r9 e9 with ⟨y, y1, g1⟩
      rw [hst] at hh hlen
      simp only [hst] at HI
      dsimp only at hh hlen
      have hy : y = 0 := by
        have h1 := times_len crtR y y1 g1
        rw [hh] at h1
        exact h1.symm
      subst hy
      rw [timesG] at hh
      injection hh with hv hh
      injection hh with hr he
      subst hr he
      clear hst hcg hv
      go_wp2_with (go_at_call 160; go_loud (refine (HI.out _ HT.out.rd).mono ?_; rintro e w1 ⟨rfl, hr1, ho1⟩; have HT1 := Lib.hid (HT.out.call HG.out hr1 ho1 hlen); clear hr1 ho1))
      go_loopw [8] (fun i wr => i = .int .i64 0 ∧ PtM w.heap.size g s ⟨k, v, n, c, t, d, x, r, b, p, []⟩ ⟨(XA, xc), (BA, bc1), (PA, pc1), (none, 0)⟩ y1 g1 w wr) (fun _ _ => 0)
      case atStart => exact ⟨rfl, HT1.out⟩
      case round =>
        obtain ⟨rfl, hi⟩ := hrel
        have HJ := Lib.hid hi
        clear hi HT1
        go_wp2
        go_meet
        exact HJ.out
  case rest =>
  clear HT a9
  have HT := Lib.hid hcut
  clear hcut
  skip
  go_wp2_with (first
    | (refine wpList_load_mid rfl 57 _ rfl w.heap.size 0 rfl _ _ (heap_all HT.out.box) Tryz.underlying57 rfl (by kernel_rfl) ?_)
    | (refine wpList_storeAll rfl 57 _ _ rfl (w.heap.size + 2) _ _ rfl rfl HT.out.res rfl (by kernel_rfl) (by kernel_rfl) ?_; intro w9 hz hh ho; have HY := Lib.hid hh; have HO9 := Lib.hid ho; clear hz hh ho))
  refine bodyPost_ret (v := agM ⟨k, v, n, c, t, d, x, r, b, p, []⟩ ⟨(XA, xc), (BA, bc1), (PA, pc1), (none, 0)⟩) ?_ rfl ⟨_, rfl, fun W hW => ?_, ?_, ?_⟩
  · have z0 := rowCell HY.out 0 (.int .i64 k) rfl
    have z1 := rowCell HY.out 1 (.int .i64 v) rfl
    have z2 := rowCell HY.out 2 (.int .i64 n) rfl
    have z3 := rowCell HY.out 3 (.int .i64 c) rfl
    have z4 := rowCell HY.out 4 (.int .i64 t) rfl
    have z5 := rowCell HY.out 5 (.string (strB d)) rfl
    have z6 := rowCell HY.out 6 (.slice XA x.length xc) rfl
    have z7 := rowCell HY.out 7 (.int .i64 r.1) rfl
    have z8 := rowCell HY.out 8 (.int .i64 r.2) rfl
    have z9 := rowCell HY.out 9 (.slice BA b.length bc1) rfl
    have z10 := rowCell HY.out 10 (.slice PA p.length pc1) rfl
    have z11 := rowCell HY.out 11 (.slice none 0 0) rfl
    simp [results, Tryz.results137, go_sem, z0, z1, z2, z3, z4, z5, z6, z7, z8, z9, z10, z11]
  · have hk := kpb_to (B := w.heap.size + 3) (w2 := wc) (w9 := w9) (keep_only (kpb_refl _ _) HO9.out (by omega)) hW (by omega)
    exact ⟨bs_kpb HT.out.x.1 HT.out.x.2 hk, row_kpb HT.out.b hk, row_kpb HT.out.p hk, RowM.none _ _ _⟩
  · exact HT.out.rd.store HO9.out (by have := HG.out; omega) HT.out.res (by decide)
  · exact onlyNew HT.out.on HO9.out (by omega)





















/- fits (gengchk.py) -/



















theorem shape_ct (k : Int) : countB (shapeM k).1.c = countB (shapeM k).1.t := by
  unfold shapeM
  repeat' split
  all_goals rfl
def SmG {α : Type} (N : Nat) (G : Rdg α) (A : α → Prop) : Prop := ∀ rest e, rest.length ≤ N → A (G rest e).1 ∧ (G rest e).2.1.length ≤ N
theorem SmG.then {α β : Type} {N : Nat} {G : Rdg α} {F : α → Rdg β} {A : α → Prop} {P : β → Prop} (hG : SmG N G A) (h : ∀ a, A a → SmG N (F a) P) : SmG N (thenG G F) P := fun rest e hl =>
  have h1 := hG rest e hl
  h _ h1.1 _ _ h1.2
theorem SmG.ret {α : Type} {N : Nat} {P : α → Prop} {a : α} (h : P a) : SmG N (retG a) P := fun rest e hl => ⟨h, hl⟩
theorem num_sm (N : Nat) (b : Int × Int) : SmG N (numG b) (fun _ => True) := fun rest e hl => ⟨trivial, Nat.le_trans (num_len b rest e) hl⟩
theorem res_sm (N : Nat) (y : Bool) : SmG N (resG y) (fun _ => True) := fun rest e hl => by
  refine ⟨trivial, ?_⟩
  unfold resG
  split
  · exact Nat.le_trans (int8F_lenG _ _) (Nat.le_trans (int8F_lenG _ _) hl)
  · exact hl
theorem bytesF_le (most : Int) (rest : List UInt8) (e : Int) : (bytesF most rest e).1.length ≤ rest.length := by
  unfold bytesF
  split
  · exact Nat.zero_le _
  · have := stepF_lenG 4 (alBytes most rest) rest e
    simp only [List.length_take]
    omega
theorem row_sm (N : Nat) (b : Int × Int) : SmG N (rowG b) (fun l => l.length ≤ N) := fun rest e hl => by
  unfold rowG
  split
  · exact ⟨Nat.le_trans (bytesF_le _ _ _) hl, Nat.le_trans (bytesF_lenG _ _ _) hl⟩
  · exact ⟨Nat.zero_le _, hl⟩
theorem env_sm (N : Nat) : SmG N envR (fun x => x.2.length ≤ N) := fun rest e hl =>
  ⟨Nat.le_trans (bytesF_le _ _ _) (Nat.le_trans (int8F_lenG _ _) hl), Nat.le_trans (envR_len rest e) hl⟩
theorem times_sm {α : Type} {N : Nat} {G : Rdg α} {A : α → Prop} (h : SmG N G A) : ∀ n, SmG N (timesG G n) (fun l => ∀ a ∈ l, A a)
  | 0 => fun rest e hl => ⟨(fun a ha => by cases ha), hl⟩
  | n + 1 => fun rest e hl => by
    have h1 := h rest e hl
    have h2 := times_sm h n _ (G rest e).2.2 h1.2
    rw [timesG]
    refine ⟨fun a ha => ?_, h2.2⟩
    rcases List.mem_cons.1 ha with rfl | ha
    · exact h1.1
    · exact h2.1 a ha
theorem lst_sm (N : Nat) (b : Int × Int) : SmG N (lstR b) (fun l => l.length ≤ 15 ∧ ∀ x ∈ l, x.2.length ≤ N) := fun rest e hl => by
  unfold lstR loB lisG
  by_cases hc : countB b = true
  · rw [if_pos hc, if_pos (show countB (0, 15) = true from rfl)]
    have h1 := times_sm (env_sm N) (cntG (0, 15) rest e).1 (cntG (0, 15) rest e).2.1 (cntG (0, 15) rest e).2.2 (Nat.le_trans (stepF_lenG 4 _ rest e) hl)
    exact ⟨⟨by rw [times_len]; exact cntR_le 15 (by decide) rest e, h1.1⟩, h1.2⟩
  · rw [if_neg hc, if_neg (show ¬ countB (0, 0) = true by decide)]
    exact ⟨⟨Nat.zero_le _, fun x hx => by cases hx⟩, hl⟩
theorem body_sm (N : Nat) (k : Int) (s : Shp) (rest : List UInt8) (e : Int) (hl : rest.length ≤ N) : (bodyR k s rest e).1.d.length ≤ N ∧ (bodyR k s rest e).1.x.length ≤ N ∧ ((bodyR k s rest e).1.b.length ≤ 15 ∧ ∀ z ∈ (bodyR k s rest e).1.b, z.2.length ≤ N) ∧ ((bodyR k s rest e).1.p.length ≤ 15 ∧ ∀ z ∈ (bodyR k s rest e).1.p, z.2.length ≤ N) ∧ (bodyR k s rest e).1.k = k := by
  have h1 := (num_sm N s.v) rest e hl
  have h2 := (num_sm N s.s) _ (numG s.v rest e).2.2 h1.2
  have h3 := (num_sm N s.c) _ (numG s.s (numG s.v rest e).2.1 (numG s.v rest e).2.2).2.2 h2.2
  rcases k1 : numG s.v rest e with ⟨v, r1, e1⟩
  rcases k2 : numG s.s r1 e1 with ⟨n, r2, e2⟩
  rcases k3 : numG s.c r2 e2 with ⟨c, r3, e3⟩
  rcases k4 : numG s.t r3 e3 with ⟨t, r4, e4⟩
  rcases k5 : rowR s.d r4 e4 with ⟨d, r5, e5⟩
  rcases k6 : rowR s.x r5 e5 with ⟨x, r6, e6⟩
  rcases k7 : resG s.r r6 e6 with ⟨r, r7, e7⟩
  rcases k8 : lstR s.b r7 e7 with ⟨b, r8, e8⟩
  rcases k9 : lstR s.p r8 e8 with ⟨p, r9, e9⟩
  rcases k10 : crsR s.q r9 e9 with ⟨q, r10, e10⟩
  rw [getM_eq k1 k2 k3 k4 k5 k6 k7 k8 k9 k10]
  have a1 : r1.length ≤ N := by have := h1.2; rw [k1] at this; exact this
  have a2 : r2.length ≤ N := by have := ((num_sm N s.s) r1 e1 a1).2; rw [k2] at this; exact this
  have a3 : r3.length ≤ N := by have := ((num_sm N s.c) r2 e2 a2).2; rw [k3] at this; exact this
  have a4 : r4.length ≤ N := by have := ((num_sm N s.t) r3 e3 a3).2; rw [k4] at this; exact this
  have a5 := (row_sm N (loB s.d 1099511627776)) r4 e4 a4
  rw [show rowG (loB s.d 1099511627776) r4 e4 = _ from k5] at a5
  have a6 := (row_sm N (loB s.x 1099511627776)) r5 e5 a5.2
  rw [show rowG (loB s.x 1099511627776) r5 e5 = _ from k6] at a6
  have a7 : r7.length ≤ N := by have := ((res_sm N s.r) r6 e6 a6.2).2; rw [k7] at this; exact this
  have a8 := (lst_sm N s.b) r7 e7 a7
  rw [k8] at a8
  have a9 := (lst_sm N s.p) r8 e8 a8.2
  rw [k9] at a9
  exact ⟨a5.1, a6.1, a8.1, a9.1, rfl⟩
theorem decR_1 {y : List UInt8} (hl : ¬ 16777216 < y.length) (h : gotR y = true) : decR y = ((readR y 0).1, 0) := by unfold decR; rw [if_neg hl, if_pos h]
theorem decR_2 {y : List UInt8} (hl : ¬ 16777216 < y.length) (h : ¬ gotR y = true) : decR y = (msg0, 12) := by unfold decR; rw [if_neg hl, if_neg h]
theorem onlyB {B g : Nat} {w w1 w' : World} (h : Below B w w1) (ho : Only g w1 w') (hB : B ≤ w.heap.size) (hg : B ≤ g) : Below B w w' := onlyBelow h ho hg hB
set_option maxHeartbeats 8000000 in
theorem rDecode_of (v : Value) (y : List UInt8) (w : World) (k : Int) (r1 : List UInt8) (e1 : Int) (s : Shp) (ok : Bool) (m : Msg) (r2 : List UInt8) (e2 ee : Int) (ck : Bool) (X : Msg × Int) (hv : Bs w v y) (hl : y.length ≤ 100000)
    (hI : ∀ g W, RfS W g y 0 → Calls Tryz.prog 136 #[.pointer (some ⟨g, 0, none⟩)] W (DidR g (.int .i64 k) r1 e1 W))
    (hFL : ∀ W, Calls Tryz.prog 72 #[.int .i64 k] W (fun e w' => e = .returned (.tuple #[.agg (hasC s), .bool ok]) ∧ Below W.heap.size W w'))
    (hG : ∀ g W, RfS W g r1 e1 → Calls Tryz.prog 137 #[.pointer (some ⟨g, 0, none⟩), agM ⟨k, 0, 0, 0, 0, [], [], (0, 0), [], [], []⟩ P0, .agg (hasC s)] W (GtM g (m, r2, e2) W))
    (hEN : ∀ g W, RfS W g r2 e2 → Calls Tryz.prog 138 #[.pointer (some ⟨g, 0, none⟩)] W (DidR g (.tuple #[]) r2 ee W))
    (hCK : ∀ P W, Calls Tryz.prog 71 #[agM m P] W (Ans (.int .i64 (yesE ck)) W))
    (h1 : ok = false → X = (msg0, 12)) (h2 : ee ≠ 0 → X = (msg0, 12)) (h3 : ck = false → X = (msg0, 12)) (h4 : ok = true → ee = 0 → ck = true → X = (m, 0)) : Calls Tryz.prog 105 #[v] w (DecN X w) := by
  obtain ⟨BA, bc, rfl, -⟩ := hv.open
  have hlt : ¬ (16777216 : Int) < (y.length : Int) := by omega
  have x0 := heap_alloc_new w (.cells msH 57)
  have hb0 := alloc1B w (.cells msH 57)
  have hq0 : Bq (w.alloc (.cells msH 57)).heap.size (w.alloc (.cells msH 57)) (.slice BA y.length bc) y := (hv.below hb0 (Nat.le_refl _)).bq fun hne k e => Nat.lt_of_lt_of_le (hv.lt hne k e) hb0.size
  have hr0 := RfS.mkq (w.alloc (.cells msH 57)) (.slice BA y.length bc) y hq0 (by omega) (w.heap.size + 1) (by simp)
  have hb1 := bel2M hb0 (alloc1B (w.alloc (.cells msH 57)) (.cells #[.slice BA y.length bc, .int .i64 0, .int .i64 0] 183))
  have x1 := heapB x0 (alloc1B (w.alloc (.cells msH 57)) (.cells #[.slice BA y.length bc, .int .i64 0, .int .i64 0] 183))
  have HI := Lib.hid hI
  have HFL := Lib.hid hFL
  have HG := Lib.hid hG
  have HEN := Lib.hid hEN
  have HCK := Lib.hid hCK
  have HJ1 := Lib.hid h1
  have HJ2 := Lib.hid h2
  have HJ3 := Lib.hid h3
  have HJ4 := Lib.hid h4
  clear hI hFL hG hEN hCK h1 h2 h3 h4
  go_enter Tryz.func105, Tryz.ntmps105
  go_upto_region 4 with fail
  generalize hw0 : (w.alloc _).alloc _ = w0 at *
  have HX := Lib.hid x1
  have HR := Lib.hid hr0
  have HB := Lib.hid hb1
  clear x0 hb0 hq0 hr0 hb1 x1 hw0 hv hl hlt
  go_upto_region 5 with (go_at_call 136; go_loud (refine (HI.out _ _ HR.out).mono ?_; rintro e w1 ⟨rfl, hr1, ho1⟩; have HR1 := Lib.hid hr1; have HX1 := Lib.hid (onlyHeap ho1 HX.out (by omega)); have HB1 := Lib.hid (onlyB HB.out ho1 (Nat.le_refl _) (by omega)); clear hr1 ho1))
  go_upto_region 6 with (go_at_call 72; go_loud (refine (HFL.out _).mono ?_; rintro e w2 ⟨rfl, hb2⟩; have HR2 := Lib.hid (HR1.out.below hb2); have HX2 := Lib.hid (heapB HX1.out hb2); have HB2 := Lib.hid (bel2M HB1.out hb2); clear hb2))
  have HH := Lib.hid (heap_alloc_new w2 (.cells (hasC s) 118))
  have HR2 := Lib.hid (HR2.out.below (alloc1B w2 (.cells (hasC s) 118)))
  have HX2 := Lib.hid (heapB HX2.out (alloc1B w2 (.cells (hasC s) 118)))
  have HB2 := Lib.hid (bel2M HB2.out (alloc1B w2 (.cells (hasC s) 118)))
  generalize hwn : w2.alloc _ = w3 at *
  clear hwn
  go_upto_region 7 with (first
    | (refine wpList_load_mid rfl 118 _ rfl w2.heap.size 0 rfl _ _ (heap_all HH.out) Tryz.underlying118 rfl (by kernel_rfl) ?_)
    | (go_at_call 137; go_loud (refine (HG.out _ _ HR2.out).mono ?_; rintro e w4 ⟨P, rfl, hk4, hr4, ho4⟩; have HK4 := Lib.hid hk4; have HR4 := Lib.hid hr4; have HL4 := Lib.hid HR2.out.lt; have HX4 := Lib.hid (onlyHeap ho4 HX2.out (by omega)); have HB4 := Lib.hid (onlyB HB2.out ho4 (Nat.le_refl _) (by omega)); have HS4 := Lib.hid ho4.size; clear hk4 hr4 ho4)))
  have HKP := Lib.hid (show KpB w3.heap.size w4 (w4.alloc (.cells (msC m P) 57)) from keep_alloc w4 _)
  have HM := Lib.hid (heap_alloc_new w4 (.cells (msC m P) 57))
  have HR5 := Lib.hid (HR4.out.below (alloc1B w4 (.cells (msC m P) 57)))
  have HX5 := Lib.hid (heapB HX4.out (alloc1B w4 (.cells (msC m P) 57)))
  have HB5 := Lib.hid (bel2M HB4.out (alloc1B w4 (.cells (msC m P) 57)))
  generalize hwn : w4.alloc _ = w5 at *
  clear hwn
  have HNE := Lib.hid (show w4.heap.size ≠ w.heap.size + 1 from by have := HS4.out; have := HL4.out; omega)
  have HZ3 := Lib.hid (show w.heap.size + 1 < w3.heap.size from HL4.out)
  go_upto_region 8 with (go_at_call 138; go_loud (refine (HEN.out _ _ HR5.out).mono ?_; rintro e w6 ⟨rfl, hr6, ho6⟩; have HR6 := Lib.hid hr6; have HX6 := Lib.hid (onlyHeap ho6 HX5.out (by omega)); have HM6 := Lib.hid (onlyHeap ho6 HM.out HNE.out); have HB6 := Lib.hid (onlyB HB5.out ho6 (Nat.le_refl _) (by omega)); have HKP := Lib.hid (keep_only HKP.out ho6 HZ3.out); clear hr6 ho6))
  have f2 := HR6.out.err
  cases ok
  · obtain rfl := HJ1.out rfl
    go_wp2_with (refine wpList_storeAll rfl 57 _ _ rfl w.heap.size _ _ rfl rfl HX6.out rfl (by kernel_rfl) (by kernel_rfl) ?_; intro w9 hz hh ho; have HYY := Lib.hid hh; have HO9 := Lib.hid ho; clear hz hh ho)
    refine bodyPost_ret (results_cell2 rfl _ _ w.heap.size 57 _ (0, 0) _ rfl HYY.out Tryz.underlying57 rfl (by kernel_rfl)) rfl ?_
    exact decN0 w w9 12 (onlyB HB6.out HO9.out (Nat.le_refl _) (Nat.le_refl _))
  · by_cases he : ee = 0
    · subst he
      have m0 := rowCell HM6.out 0 (.int .i64 m.k) rfl
      have m1 := rowCell HM6.out 1 (.int .i64 m.v) rfl
      have m2 := rowCell HM6.out 2 (.int .i64 m.s) rfl
      have m3 := rowCell HM6.out 3 (.int .i64 m.c) rfl
      have m4 := rowCell HM6.out 4 (.int .i64 m.t) rfl
      have m5 := rowCell HM6.out 5 (.string (strB m.d)) rfl
      have m6 := rowCell HM6.out 6 (.slice P.x.1 m.x.length P.x.2) rfl
      have m7 := rowCell HM6.out 7 (.int .i64 m.r.1) rfl
      have m8 := rowCell HM6.out 8 (.int .i64 m.r.2) rfl
      have m9 := rowCell HM6.out 9 (.slice P.b.1 m.b.length P.b.2) rfl
      have m10 := rowCell HM6.out 10 (.slice P.p.1 m.p.length P.p.2) rfl
      have m11 := rowCell HM6.out 11 (.slice P.q.1 m.q.length P.q.2) rfl
      cases ck
      · obtain rfl := HJ3.out rfl
        go_wp2_with (first
          | (go_at_call 71; go_loud (refine (HCK.out P _).mono ?_; rintro e w7 ⟨rfl, hb7⟩; have HX7 := Lib.hid (heapB HX6.out hb7); have HB7 := Lib.hid (bel2M HB6.out hb7); clear hb7; unfold yesE; rw [if_neg (show ¬ (false = true) by decide)]))
          | (refine wpList_storeAll rfl 57 _ _ rfl w.heap.size _ _ rfl rfl HX7.out rfl (by kernel_rfl) (by kernel_rfl) ?_; intro w9 hz hh ho; have HYY := Lib.hid hh; have HO9 := Lib.hid ho; clear hz hh ho))
        refine bodyPost_ret (results_cell2 rfl _ _ w.heap.size 57 _ (0, 0) _ rfl HYY.out Tryz.underlying57 rfl (by kernel_rfl)) rfl ?_
        exact decN0 w w9 12 (onlyB HB7.out HO9.out (Nat.le_refl _) (Nat.le_refl _))
      · obtain rfl := HJ4.out rfl rfl rfl
        go_wp2_with (first
          | (go_at_call 71; go_loud (refine (HCK.out P _).mono ?_; rintro e w7 ⟨rfl, hb7⟩; have HX7 := Lib.hid (heapB HX6.out hb7); have HM7 := Lib.hid (heapB HM6.out hb7); have HB7 := Lib.hid (bel2M HB6.out hb7); have HKP := Lib.hid (keep_below HKP.out hb7); clear hb7 m0 m1 m2 m3 m4 m5 m6 m7 m8 m9 m10 m11; unfold yesE; rw [if_pos rfl]))
          | (refine wpList_load_mid rfl 57 _ rfl w4.heap.size 0 rfl _ _ (heap_all HM7.out) Tryz.underlying57 rfl (by kernel_rfl) ?_)
          | (refine wpList_storeAll rfl 57 _ _ rfl w.heap.size _ _ rfl rfl HX7.out rfl (by kernel_rfl) (by kernel_rfl) ?_; intro w9 hz hh ho; have HYY := Lib.hid hh; have HO9 := Lib.hid ho; clear hz hh ho))
        refine bodyPost_ret (results_cell2 rfl _ _ w.heap.size 57 _ (0, 0) _ rfl HYY.out Tryz.underlying57 rfl (by kernel_rfl)) rfl ?_
        exact ⟨P, rfl, fun W hW => HK4.out W (kpb_to (keep_only HKP.out HO9.out (by have := HZ3.out; omega)) hW (by have := HZ3.out; omega)), onlyB HB7.out HO9.out (Nat.le_refl _) (Nat.le_refl _)⟩
    · have hne : (ee != 0) = true := by simpa using he
      obtain rfl := HJ2.out he
      clear he
      go_wp2_with (refine wpList_storeAll rfl 57 _ _ rfl w.heap.size _ _ rfl rfl HX6.out rfl (by kernel_rfl) (by kernel_rfl) ?_; intro w9 hz hh ho; have HYY := Lib.hid hh; have HO9 := Lib.hid ho; clear hz hh ho)
      refine bodyPost_ret (results_cell2 rfl _ _ w.heap.size 57 _ (0, 0) _ rfl HYY.out Tryz.underlying57 rfl (by kernel_rfl)) rfl ?_
      exact decN0 w w9 12 (onlyB HB6.out HO9.out (Nat.le_refl _) (Nat.le_refl _))

theorem then_eq {α β : Type} {G : Rdg α} {F : α → Rdg β} {y r1 : List UInt8} {e e1 : Int} {a : α} (h : G y e = (a, r1, e1)) : thenG G F y e = F a r1 e1 := by
  unfold thenG
  rw [h]
theorem read_then (B : Int → Rdg Msg) (hB : ∀ k, B k = bodyR k (shapeM k).1) : readR = thenG int8F B := by
  have : B = fun k => bodyR k (shapeM k).1 := funext hB
  rw [this]
  rfl
theorem dec_s1 {y : List UInt8} {k : Int} {r1 : List UInt8} {e1 : Int} {m : Msg} {r2 : List UInt8} {e2 : Int} (hi : int8F y 0 = (k, r1, e1)) (hb : bodyR k (shapeM k).1 r1 e1 = (m, r2, e2)) : readR y 0 = (m, r2, e2) := by
  obtain ⟨B, hB⟩ : ∃ B : Int → Rdg Msg, ∀ k, B k = bodyR k (shapeM k).1 := ⟨_, fun _ => rfl⟩
  rw [← hB] at hb
  rw [read_then B hB]
  exact (then_eq hi).trans hb
theorem dec_s2 {y : List UInt8} {m : Msg} {r2 : List UInt8} {e2 : Int} (hr : readR y 0 = (m, r2, e2)) : gotR y = (decide (endE r2 e2 = 0) && checkD m) := by
  unfold gotR
  rw [hr]
theorem dec_s3 {k : Int} {s : Shp} {r1 r2 : List UInt8} {e1 e2 : Int} {m : Msg} (hb : bodyR k s r1 e1 = (m, r2, e2)) (hl : r1.length ≤ 100000) : m.k = k ∧ (m.q = [] → SmD m) := by
  have hsm := body_sm 100000 k s r1 e1 hl
  rw [hb] at hsm
  obtain ⟨h1, h2, h3, h4, h5⟩ := hsm
  simp only at h1 h2 h3 h4 h5
  exact ⟨h5, fun hq => ⟨by omega, by omega, ⟨by omega, h3.2⟩, ⟨by omega, h4.2⟩, hq⟩⟩
theorem dec_s4 {m : Msg} {k : Int} (h : m.k = k) (h2 : (shapeM k).2 = false) : checkD m = false := by
  unfold checkD
  rw [h, h2, Bool.false_and]
theorem dec_step {y : List UInt8} {k : Int} {r1 : List UInt8} {e1 : Int} {m : Msg} {r2 : List UInt8} {e2 : Int} (hl : y.length ≤ 100000) (hi : int8F y 0 = (k, r1, e1)) (hb : bodyR k (shapeM k).1 r1 e1 = (m, r2, e2)) :
    readR y 0 = (m, r2, e2) ∧ m.k = k ∧ (m.q = [] → SmD m) ∧ ((shapeM k).2 = false → decR y = (msg0, 12)) ∧ (endE r2 e2 ≠ 0 → decR y = (msg0, 12)) ∧ (checkD m = false → decR y = (msg0, 12)) ∧ ((shapeM k).2 = true → endE r2 e2 = 0 → checkD m = true → decR y = (m, 0)) := by
  have hlen := int8F_lenG y 0
  rw [hi] at hlen
  have hr := dec_s1 hi hb
  have hsm := dec_s3 hb (Nat.le_trans hlen hl)
  have hng : ¬ 16777216 < y.length := by omega
  have hg := dec_s2 hr
  have hno : gotR y = false → decR y = (msg0, 12) := fun h => decR_2 hng (by rw [h]; exact Bool.false_ne_true)
  have hyes : gotR y = true → decR y = ((readR y 0).1, 0) := fun h => decR_1 hng h
  rw [hr] at hyes
  generalize gotR y = gt at *
  generalize endE r2 e2 = ee at *
  refine ⟨hr, hsm.1, hsm.2, fun h => hno ?_, fun h => hno ?_, fun h => hno ?_, fun _ h2 h3 => ?_⟩
  · rw [hg, dec_s4 hsm.1 h, Bool.and_false]
  · rw [hg, decide_eq_false h, Bool.false_and]
  · rw [hg, h, Bool.and_false]
  · exact hyes (by rw [hg, decide_eq_true h2, h3]; rfl)
theorem rDecode_any (v : Value) (y : List UInt8) (w : World) (hv : Bs w v y) (hl : y.length ≤ 100000) (hq : (readR y 0).1.q = []) : Calls Tryz.prog 105 #[v] w (DecN (decD y) w) := by
  rcases hi : int8F y 0 with ⟨k, r1, e1⟩
  rcases hb : bodyR k (shapeM k).1 r1 e1 with ⟨m, r2, e2⟩
  obtain ⟨hr, hk, hsd, h1, h2, h3, h4⟩ := dec_step hl hi hb
  rw [hr] at hq
  have hlen := int8F_lenG y 0
  rw [hi] at hlen
  rw [← decR_eq hl]
  refine rDecode_of v y w k r1 e1 (shapeM k).1 (shapeM k).2 m r2 e2 (endE r2 e2) (checkD m) (decR y) hv hl (fun g W hr => ?_) (fun W => rFields_any k W) (fun g W hr => ?_) (fun g W hr => rfEnd_any g r2 e2 W hr) (fun P W => rCheckD_any m P W (hsd hq)) h1 h2 h3 h4
  · have := rInt8_any g y 0 W hr
    rwa [hi] at this
  · have := rGetM_any g k (shapeM k).1 (shape_ct k) r1 e1 W hr (by unfold Far; simp only at hlen; omega) (by rw [hb]; exact hq)
    rwa [hb] at this

def openD (x : Int) (d : Msg × Int) : Msg × Int := if x = 0 then (if d.2 = 0 then (d.1, 0) else (msg0, 120)) else (msg0, x)
set_option maxHeartbeats 4000000 in
theorem rOpen_of (pa : Value) (e : Int × List UInt8) (bv : Value) (x : Int) (d : Msg × Int) (w : World) (hv : Bs w bv e.2)
    (hC : ∀ W, Below w.heap.size w W → Calls Tryz.prog 104 #[pa, agE e.1 bv] W (Ans (.int .i64 x) W))
    (hD : x = 0 → ∀ W, Below w.heap.size w W → Calls Tryz.prog 105 #[bv] W (DecN d W)) :
    Calls Tryz.prog 57 #[pa, agE e.1 bv] w (DecN (openD x d) w) := by
  obtain ⟨BA, bc0, rfl, -⟩ := hv.open
  have HC := Lib.hid hC
  clear hC hv
  obtain ⟨x1, x2, x3⟩ := box2B w #[.int .i64 e.1, .slice BA e.2.length bc0] msH 40 57
  by_cases h0 : x = 0
  · subst h0
    have HD := Lib.hid (hD rfl)
    clear hD
    obtain ⟨m, y⟩ := d
    by_cases h1 : y = 0
    · subst h1
      rw [show openD 0 (m, 0) = (m, 0) from rfl]
      go_enter Tryz.func57, Tryz.ntmps57
      go_upto_region 1 with fail
      generalize hw0 : (w.alloc _).alloc _ = w0 at *
      have HR := Lib.hid x1
      have HX := Lib.hid x2
      have HB := Lib.hid x3
      clear x1 x2 x3 hw0
      go_wp2_with (first
        | (refine wpList_load_mid rfl 40 _ rfl w.heap.size 0 rfl _ _ (heap_all HR.out) Tryz.underlying40 rfl (by kernel_rfl) ?_)
        | (go_at_call 104; refine (HC.out _ HB.out).mono ?_; rintro e w1 ⟨rfl, hb⟩; have HR := Lib.hid (heapB HR.out hb); have HX := Lib.hid (heapB HX.out hb); have r0 := rowCell HR.out 0 (.int .i64 e.1) rfl; have r1 := rowCell HR.out 1 (.slice BA e.2.length bc0) rfl; have HB := Lib.hid (bel2M HB.out hb); clear hb)
        | (go_at_call 105; go_loud (refine (HD.out _ HB.out).mono ?_; rintro e w2 ⟨P, rfl, hk, hb⟩; have HB1 := Lib.hid HB.out; have HK := Lib.hid hk; have HP := Lib.hid (keep_alloc (B := w1.heap.size) w2 (.cells (msC m P) 57)); have HZ1 := Lib.hid (Array.getElem?_eq_some_iff.1 HX.out).1; have HR := Lib.hid (heapB HR.out hb); have HX := Lib.hid (heapB HX.out hb); have HB2 := Lib.hid (bel2M HB.out hb); have HBX := Lib.hid (heap_alloc_new w2 (.cells (msC m P) 57)); have HR := Lib.hid (heapB HR.out (alloc1B w2 (.cells (msC m P) 57))); have HX := Lib.hid (heapB HX.out (alloc1B w2 (.cells (msC m P) 57))); have HB := Lib.hid (bel2M HB2.out (alloc1B w2 (.cells (msC m P) 57))); have r0 := rowCell HR.out 0 (.int .i64 e.1) rfl; have r1 := rowCell HR.out 1 (.slice BA e.2.length bc0) rfl; clear hb hk))
        | (refine wpList_load_mid rfl 57 _ rfl w2.heap.size 0 rfl _ _ (heap_all HBX.out) Tryz.underlying57 rfl (by kernel_rfl) ?_)
        | (refine wpList_storeAll rfl 57 _ _ rfl (w.heap.size + 1) _ _ rfl rfl HX.out rfl (by kernel_rfl) (by kernel_rfl) ?_; intro w9 hz hh ho; have HY := Lib.hid hh; have HB9 := Lib.hid (onlyBelow HB.out ho (by omega) (Nat.le_refl _)); have HO9 := Lib.hid ho; clear hz hh ho))
      refine bodyPost_ret (results_cell2 rfl _ _ (w.heap.size + 1) 57 _ (0, 0) _ rfl HY.out Tryz.underlying57 rfl (by kernel_rfl)) rfl ?_
      exact ⟨P, rfl, fun W hW => HK.out W (kpb_to (keep_only HP.out HO9.out HZ1.out) hW HB1.out.size), HB9.out⟩
    · rw [show openD 0 (m, y) = (msg0, 120) from by unfold openD; rw [if_pos rfl, if_neg h1]]
      have hq : (y != 0) = true := by simpa using h1
      clear h1
      go_enter Tryz.func57, Tryz.ntmps57
      go_upto_region 1 with fail
      generalize hw0 : (w.alloc _).alloc _ = w0 at *
      have HR := Lib.hid x1
      have HX := Lib.hid x2
      have HB := Lib.hid x3
      clear x1 x2 x3 hw0
      go_wp2_with (first
        | (refine wpList_load_mid rfl 40 _ rfl w.heap.size 0 rfl _ _ (heap_all HR.out) Tryz.underlying40 rfl (by kernel_rfl) ?_)
        | (go_at_call 104; refine (HC.out _ HB.out).mono ?_; rintro e w1 ⟨rfl, hb⟩; have HR := Lib.hid (heapB HR.out hb); have HX := Lib.hid (heapB HX.out hb); have r0 := rowCell HR.out 0 (.int .i64 e.1) rfl; have r1 := rowCell HR.out 1 (.slice BA e.2.length bc0) rfl; have HB := Lib.hid (bel2M HB.out hb); clear hb)
        | (go_at_call 105; go_loud (refine (HD.out _ HB.out).mono ?_; rintro e w2 ⟨P, rfl, hk, hb⟩; have HB1 := Lib.hid HB.out; have HK := Lib.hid hk; have HP := Lib.hid (keep_alloc (B := w1.heap.size) w2 (.cells (msC m P) 57)); have HZ1 := Lib.hid (Array.getElem?_eq_some_iff.1 HX.out).1; have HR := Lib.hid (heapB HR.out hb); have HX := Lib.hid (heapB HX.out hb); have HB2 := Lib.hid (bel2M HB.out hb); have HBX := Lib.hid (heap_alloc_new w2 (.cells (msC m P) 57)); have HR := Lib.hid (heapB HR.out (alloc1B w2 (.cells (msC m P) 57))); have HX := Lib.hid (heapB HX.out (alloc1B w2 (.cells (msC m P) 57))); have HB := Lib.hid (bel2M HB2.out (alloc1B w2 (.cells (msC m P) 57))); have r0 := rowCell HR.out 0 (.int .i64 e.1) rfl; have r1 := rowCell HR.out 1 (.slice BA e.2.length bc0) rfl; clear hb hk))
        | (refine wpList_storeAll rfl 57 _ _ rfl (w.heap.size + 1) _ _ rfl rfl HX.out rfl (by kernel_rfl) (by kernel_rfl) ?_; intro w9 hz hh ho; have HY := Lib.hid hh; have HB9 := Lib.hid (onlyBelow HB.out ho (by omega) (Nat.le_refl _)); have HO9 := Lib.hid ho; clear hz hh ho))
      refine bodyPost_ret (results_cell2 rfl _ _ (w.heap.size + 1) 57 _ (0, 0) _ rfl HY.out Tryz.underlying57 rfl (by kernel_rfl)) rfl ?_
      exact decN0 w _ 120 HB9.out
  · rw [show openD x d = (msg0, x) from if_neg h0]
    have hq : (x != 0) = true := by simpa using h0
    clear h0 hD
    go_enter Tryz.func57, Tryz.ntmps57
    go_upto_region 1 with fail
    generalize hw0 : (w.alloc _).alloc _ = w0 at *
    have HR := Lib.hid x1
    have HX := Lib.hid x2
    have HB := Lib.hid x3
    clear x1 x2 x3 hw0
    go_wp2_with (first
      | (refine wpList_load_mid rfl 40 _ rfl w.heap.size 0 rfl _ _ (heap_all HR.out) Tryz.underlying40 rfl (by kernel_rfl) ?_)
      | (go_at_call 104; refine (HC.out _ HB.out).mono ?_; rintro e w1 ⟨rfl, hb⟩; have HR := Lib.hid (heapB HR.out hb); have HX := Lib.hid (heapB HX.out hb); have r0 := rowCell HR.out 0 (.int .i64 e.1) rfl; have r1 := rowCell HR.out 1 (.slice BA e.2.length bc0) rfl; have HB := Lib.hid (bel2M HB.out hb); clear hb)
      | (refine wpList_storeAll rfl 57 _ _ rfl (w.heap.size + 1) _ _ rfl rfl HX.out rfl (by kernel_rfl) (by kernel_rfl) ?_; intro w9 hz hh ho; have HY := Lib.hid hh; have HB9 := Lib.hid (onlyBelow HB.out ho (by omega) (Nat.le_refl _)); have HO9 := Lib.hid ho; clear hz hh ho))
    refine bodyPost_ret (results_cell2 rfl _ _ (w.heap.size + 1) 57 _ (0, 0) _ rfl HY.out Tryz.underlying57 rfl (by kernel_rfl)) rfl ?_
    exact decN0 w _ x HB9.out
def reqD (o : Msg × Int) (s : Int) : Rqt := if o.2 = 0 then (if o.1.k = 1 then (if o.1.c = s then ((o.1.c, o.1.t, o.1.x), 0) else ((0, 0, []), 120)) else ((0, 0, []), 120)) else ((0, 0, []), o.2)
set_option maxHeartbeats 4000000 in
theorem rReq_of (pa : Value) (e : Int × List UInt8) (bv : Value) (o : Msg × Int) (w : World) (hv : Bs w bv e.2)
    (hO : ∀ W, Below w.heap.size w W → Calls Tryz.prog 57 #[pa, agE e.1 bv] W (DecN o W)) :
    Calls Tryz.prog 18 #[pa, agE e.1 bv] w (ReqN (reqD o e.1) w) := by
  obtain ⟨BA, bc0, rfl, -⟩ := hv.open
  have HO := Lib.hid hO
  clear hO hv
  obtain ⟨x1, x2, x3⟩ := box2B w #[.int .i64 e.1, .slice BA e.2.length bc0] #[.int .i64 0, .int .i64 0, .slice none 0 0] 40 35
  obtain ⟨m, y⟩ := o
  by_cases h0 : y = 0
  · subst h0
    by_cases h1 : m.k = 1
    · have hk1 : (m.k != 1) = false := by simpa using h1
      by_cases h2 : m.c = e.1
      · rw [show reqD (m, 0) e.1 = ((m.c, m.t, m.x), 0) from by unfold reqD; rw [if_pos rfl, if_pos h1, if_pos h2]]
        have hq : (m.c != e.1) = false := by simpa using h2
        clear h1 h2
        go_enter Tryz.func18, Tryz.ntmps18
        go_upto_region 1 with fail
        generalize hw0 : (w.alloc _).alloc _ = w0 at *
        have HR := Lib.hid x1
        have HX := Lib.hid x2
        have HB := Lib.hid x3
        clear x1 x2 x3 hw0
        go_wp2_with (first
          | (refine wpList_load_mid rfl 40 _ rfl w.heap.size 0 rfl _ _ (heap_all HR.out) Tryz.underlying40 rfl (by kernel_rfl) ?_)
          | (go_at_call 57; go_loud (refine (HO.out _ HB.out).mono ?_; rintro e w2 ⟨P, rfl, hk, hb⟩; have HB1 := Lib.hid HB.out; have HK := Lib.hid hk; have HP := Lib.hid (keep_alloc (B := w0.heap.size) w2 (.cells (msC m P) 57)); have HZ1 := Lib.hid (Array.getElem?_eq_some_iff.1 HX.out).1; have HR := Lib.hid (heapB HR.out hb); have HX := Lib.hid (heapB HX.out hb); have HB2 := Lib.hid (bel2M HB.out hb); have HBX := Lib.hid (heap_alloc_new w2 (.cells (msC m P) 57)); have HR := Lib.hid (heapB HR.out (alloc1B w2 (.cells (msC m P) 57))); have HX := Lib.hid (heapB HX.out (alloc1B w2 (.cells (msC m P) 57))); have HB := Lib.hid (bel2M HB2.out (alloc1B w2 (.cells (msC m P) 57))); have r0 := rowCell HR.out 0 (.int .i64 e.1) rfl; have r1 := rowCell HR.out 1 (.slice BA e.2.length bc0) rfl; have m0 := rowCell HBX.out 0 (.int .i64 m.k) rfl; have m3 := rowCell HBX.out 3 (.int .i64 m.c) rfl; have m4 := rowCell HBX.out 4 (.int .i64 m.t) rfl; have m6 := rowCell HBX.out 6 (.slice P.x.1 m.x.length P.x.2) rfl; clear hb hk))
          | (refine wpList_storeAll rfl 35 _ _ rfl (w.heap.size + 1) _ _ rfl rfl HX.out rfl (by kernel_rfl) (by kernel_rfl) ?_; intro w9 hz hh ho; have HY := Lib.hid hh; have HB9 := Lib.hid (onlyBelow HB.out ho (by omega) (Nat.le_refl _)); have HO9 := Lib.hid ho; clear hz hh ho))
        refine bodyPost_ret (results_cell2 rfl _ _ (w.heap.size + 1) 35 _ (0, 0) _ rfl HY.out Tryz.underlying35 rfl (by kernel_rfl)) rfl ?_
        exact ⟨P.x.1, P.x.2, rfl, fun W hW => (HK.out W (kpb_to (keep_only HP.out HO9.out HZ1.out) hW HB1.out.size)).x, HB9.out⟩
      · rw [show reqD (m, 0) e.1 = ((0, 0, []), 120) from by unfold reqD; rw [if_pos rfl, if_pos h1, if_neg h2]]
        have hq : (m.c != e.1) = true := by simpa using h2
        clear h1 h2
        go_enter Tryz.func18, Tryz.ntmps18
        go_upto_region 1 with fail
        generalize hw0 : (w.alloc _).alloc _ = w0 at *
        have HR := Lib.hid x1
        have HX := Lib.hid x2
        have HB := Lib.hid x3
        clear x1 x2 x3 hw0
        go_wp2_with (first
          | (refine wpList_load_mid rfl 40 _ rfl w.heap.size 0 rfl _ _ (heap_all HR.out) Tryz.underlying40 rfl (by kernel_rfl) ?_)
          | (go_at_call 57; go_loud (refine (HO.out _ HB.out).mono ?_; rintro e w2 ⟨P, rfl, hk, hb⟩; have HB1 := Lib.hid HB.out; have HK := Lib.hid hk; have HP := Lib.hid (keep_alloc (B := w0.heap.size) w2 (.cells (msC m P) 57)); have HZ1 := Lib.hid (Array.getElem?_eq_some_iff.1 HX.out).1; have HR := Lib.hid (heapB HR.out hb); have HX := Lib.hid (heapB HX.out hb); have HB2 := Lib.hid (bel2M HB.out hb); have HBX := Lib.hid (heap_alloc_new w2 (.cells (msC m P) 57)); have HR := Lib.hid (heapB HR.out (alloc1B w2 (.cells (msC m P) 57))); have HX := Lib.hid (heapB HX.out (alloc1B w2 (.cells (msC m P) 57))); have HB := Lib.hid (bel2M HB2.out (alloc1B w2 (.cells (msC m P) 57))); have r0 := rowCell HR.out 0 (.int .i64 e.1) rfl; have r1 := rowCell HR.out 1 (.slice BA e.2.length bc0) rfl; have m0 := rowCell HBX.out 0 (.int .i64 m.k) rfl; have m3 := rowCell HBX.out 3 (.int .i64 m.c) rfl; have m4 := rowCell HBX.out 4 (.int .i64 m.t) rfl; have m6 := rowCell HBX.out 6 (.slice P.x.1 m.x.length P.x.2) rfl; clear hb hk))
          | (refine wpList_storeAll rfl 35 _ _ rfl (w.heap.size + 1) _ _ rfl rfl HX.out rfl (by kernel_rfl) (by kernel_rfl) ?_; intro w9 hz hh ho; have HY := Lib.hid hh; have HB9 := Lib.hid (onlyBelow HB.out ho (by omega) (Nat.le_refl _)); have HO9 := Lib.hid ho; clear hz hh ho))
        refine bodyPost_ret (results_cell2 rfl _ _ (w.heap.size + 1) 35 _ (0, 0) _ rfl HY.out Tryz.underlying35 rfl (by kernel_rfl)) rfl ?_
        exact reqN0 w _ 120 HB9.out
    · rw [show reqD (m, 0) e.1 = ((0, 0, []), 120) from by unfold reqD; rw [if_pos rfl, if_neg h1]]
      have hk1 : (m.k != 1) = true := by simpa using h1
      clear h1
      go_enter Tryz.func18, Tryz.ntmps18
      go_upto_region 1 with fail
      generalize hw0 : (w.alloc _).alloc _ = w0 at *
      have HR := Lib.hid x1
      have HX := Lib.hid x2
      have HB := Lib.hid x3
      clear x1 x2 x3 hw0
      go_wp2_with (first
        | (refine wpList_load_mid rfl 40 _ rfl w.heap.size 0 rfl _ _ (heap_all HR.out) Tryz.underlying40 rfl (by kernel_rfl) ?_)
        | (go_at_call 57; go_loud (refine (HO.out _ HB.out).mono ?_; rintro e w2 ⟨P, rfl, hk, hb⟩; have HB1 := Lib.hid HB.out; have HK := Lib.hid hk; have HP := Lib.hid (keep_alloc (B := w0.heap.size) w2 (.cells (msC m P) 57)); have HZ1 := Lib.hid (Array.getElem?_eq_some_iff.1 HX.out).1; have HR := Lib.hid (heapB HR.out hb); have HX := Lib.hid (heapB HX.out hb); have HB2 := Lib.hid (bel2M HB.out hb); have HBX := Lib.hid (heap_alloc_new w2 (.cells (msC m P) 57)); have HR := Lib.hid (heapB HR.out (alloc1B w2 (.cells (msC m P) 57))); have HX := Lib.hid (heapB HX.out (alloc1B w2 (.cells (msC m P) 57))); have HB := Lib.hid (bel2M HB2.out (alloc1B w2 (.cells (msC m P) 57))); have r0 := rowCell HR.out 0 (.int .i64 e.1) rfl; have r1 := rowCell HR.out 1 (.slice BA e.2.length bc0) rfl; have m0 := rowCell HBX.out 0 (.int .i64 m.k) rfl; have m3 := rowCell HBX.out 3 (.int .i64 m.c) rfl; have m4 := rowCell HBX.out 4 (.int .i64 m.t) rfl; have m6 := rowCell HBX.out 6 (.slice P.x.1 m.x.length P.x.2) rfl; clear hb hk))
        | (refine wpList_storeAll rfl 35 _ _ rfl (w.heap.size + 1) _ _ rfl rfl HX.out rfl (by kernel_rfl) (by kernel_rfl) ?_; intro w9 hz hh ho; have HY := Lib.hid hh; have HB9 := Lib.hid (onlyBelow HB.out ho (by omega) (Nat.le_refl _)); have HO9 := Lib.hid ho; clear hz hh ho))
      refine bodyPost_ret (results_cell2 rfl _ _ (w.heap.size + 1) 35 _ (0, 0) _ rfl HY.out Tryz.underlying35 rfl (by kernel_rfl)) rfl ?_
      exact reqN0 w _ 120 HB9.out
  · rw [show reqD (m, y) e.1 = ((0, 0, []), y) from if_neg h0]
    have hq : (y != 0) = true := by simpa using h0
    clear h0
    go_enter Tryz.func18, Tryz.ntmps18
    go_upto_region 1 with fail
    generalize hw0 : (w.alloc _).alloc _ = w0 at *
    have HR := Lib.hid x1
    have HX := Lib.hid x2
    have HB := Lib.hid x3
    clear x1 x2 x3 hw0
    go_wp2_with (first
      | (refine wpList_load_mid rfl 40 _ rfl w.heap.size 0 rfl _ _ (heap_all HR.out) Tryz.underlying40 rfl (by kernel_rfl) ?_)
      | (go_at_call 57; go_loud (refine (HO.out _ HB.out).mono ?_; rintro e w2 ⟨P, rfl, hk, hb⟩; have HB1 := Lib.hid HB.out; have HK := Lib.hid hk; have HP := Lib.hid (keep_alloc (B := w0.heap.size) w2 (.cells (msC m P) 57)); have HZ1 := Lib.hid (Array.getElem?_eq_some_iff.1 HX.out).1; have HR := Lib.hid (heapB HR.out hb); have HX := Lib.hid (heapB HX.out hb); have HB2 := Lib.hid (bel2M HB.out hb); have HBX := Lib.hid (heap_alloc_new w2 (.cells (msC m P) 57)); have HR := Lib.hid (heapB HR.out (alloc1B w2 (.cells (msC m P) 57))); have HX := Lib.hid (heapB HX.out (alloc1B w2 (.cells (msC m P) 57))); have HB := Lib.hid (bel2M HB2.out (alloc1B w2 (.cells (msC m P) 57))); have r0 := rowCell HR.out 0 (.int .i64 e.1) rfl; have r1 := rowCell HR.out 1 (.slice BA e.2.length bc0) rfl; have m0 := rowCell HBX.out 0 (.int .i64 m.k) rfl; have m3 := rowCell HBX.out 3 (.int .i64 m.c) rfl; have m4 := rowCell HBX.out 4 (.int .i64 m.t) rfl; have m6 := rowCell HBX.out 6 (.slice P.x.1 m.x.length P.x.2) rfl; clear hb hk))
      | (refine wpList_storeAll rfl 35 _ _ rfl (w.heap.size + 1) _ _ rfl rfl HX.out rfl (by kernel_rfl) (by kernel_rfl) ?_; intro w9 hz hh ho; have HY := Lib.hid hh; have HB9 := Lib.hid (onlyBelow HB.out ho (by omega) (Nat.le_refl _)); have HO9 := Lib.hid ho; clear hz hh ho))
    refine bodyPost_ret (results_cell2 rfl _ _ (w.heap.size + 1) 35 _ (0, 0) _ rfl HY.out Tryz.underlying35 rfl (by kernel_rfl)) rfl ?_
    exact reqN0 w _ y HB9.out







set_option maxHeartbeats 2000000 in
theorem rBatch_of (pa : Value) (A : Option Addr) (c : Nat) (l : List (Int × List UInt8)) (w : World) (rq : Nat → Rqt) (hl : EnvK w A c l)
    (hQ : ∀ (k : Nat) (hk : k < l.length) W bv, Below w.heap.size w W → Bs W bv l[k].2 → Calls Tryz.prog 18 #[pa, agE l[k].1 bv] W (ReqN (rq k) W)) :
    Calls Tryz.prog 20 #[pa, .slice A l.length c] w (Ans (.int .i64 (batX l.length rq)) w) := by
  have hn63 : l.length ≤ 9223372036854775807 := by have h3 := hl.1; have h4 := hl.2.1; unfold maxLen at h4; omega
  have HQ := Lib.hid hQ
  have HX := Lib.hid (fun k hk => env_open hl k hk)
  have HB0 := Lib.hid (Below.refl w.heap.size w)
  clear hQ hl
  by_cases h4 : 4 < l.length
  · rw [show batX l.length rq = 11 from if_pos h4]
    have hI : (4 : Int) < (l.length : Int) := by omega
    go_enter Tryz.func20, Tryz.ntmps20
    go_wp2
    go_ret
    exact ⟨rfl, HB0.out⟩
  · rw [show batX l.length rq = findX l.length (fun k => (rq k).2) 0 from if_neg h4]
    have hI : ¬ (4 : Int) < (l.length : Int) := by omega
    clear h4
    go_enter Tryz.func20, Tryz.ntmps20
    go_wp2
    go_loopw [5] (fun i wr => ∃ (k : Nat), k ≤ l.length ∧ i = .int .i64 k ∧ (∀ j, j < k → (rq j).2 = 0) ∧ Below w.heap.size w wr) (fun i _ => l.length - (intOf i).toNat)
    case atStart => exact ⟨0, Nat.zero_le _, rfl, fun j hj => absurd hj (Nat.not_lt_zero _), Below.refl _ _⟩
    case round =>
      obtain ⟨k, hk, rfl, hall, hbel⟩ := hrel
      have HALL := Lib.hid hall
      have HBEL := Lib.hid hbel
      clear hall hbel
      by_cases hlt : k < l.length
      · have hltI : (k : Int) < (l.length : Int) := by omega
        have HQK := Lib.hid (HQ.out k hlt)
        obtain ⟨ad, bv, rfl, hbl, h1, h2, h3⟩ := HX.out k hlt
        obtain ⟨BA, bc1, rfl, -⟩ := h3.open
        have c1 := cellM HBEL.out (p := ad.add (k * 2)) (by rw [block_add]; exact hbl) h1
        have c2 := cellM HBEL.out (p := ⟨(ad.add (k * 2)).block, (ad.add (k * 2)).off + 1, none⟩) (by rw [block_add]; exact hbl) h2
        have HV := Lib.hid h3
        have HLT := Lib.hid hlt
        generalize l[k] = x at *
        clear h1 h2 h3 hlt
        have HQL := Lib.hid (fun W (hb : Below w.heap.size w W) => HQK.out W _ hb (HV.out.below hb (Nat.le_refl _)))
        by_cases h0 : (rq k).2 = 0
        · have HA2 := Lib.hid (show ∀ j, j < k + 1 → (rq j).2 = 0 from fun j hj => by
            by_cases hjk : j < k
            · exact HALL.out j hjk
            · obtain rfl : j = k := by omega
              exact h0)
          clear HALL
          rcases hrq : rq k with ⟨⟨rc, rt, rx⟩, re⟩
          rw [hrq] at HQL h0
          simp only at h0
          subst h0
          clear hrq
          go_wp2_with (first
            | (go_at_call 18; refine (HQL.out _ HBEL.out).mono ?_; rintro e w2 ⟨A2, c2', rfl, hk2, hb⟩; have HB2 := Lib.hid (bel2M HBEL.out hb); clear hb hk2))
          go_roundw
          case rel => exact ⟨k + 1, by have := HLT.out; omega, by go_num, HA2.out, bel2M HB2.out (alloc1B _ _)⟩
          case measure => simp [intOf]; have := HLT.out; omega
        · have hf := findX_at (n := l.length) (d := 0) (r := fun k => (rq k).2) HLT.out HALL.out h0
          (try simp only at hf)
          have HF := Lib.hid hf
          clear hf HALL
          rcases hrq : rq k with ⟨⟨rc, rt, rx⟩, re⟩
          rw [hrq] at HQL h0 HF
          simp only at h0 HF
          have hq : (re != 0) = true := by simpa using h0
          clear hrq h0
          go_wp2_with (first
            | (go_at_call 18; refine (HQL.out _ HBEL.out).mono ?_; rintro e w2 ⟨A2, c2', rfl, hk2, hb⟩; have HB2 := Lib.hid (bel2M HBEL.out hb); clear hb hk2))
          go_ret
          exact ⟨by rw [HF.out]; rfl, bel2M HB2.out (alloc1B _ _)⟩
      · obtain rfl : k = l.length := by omega
        have hltI : ¬ (l.length : Int) < (l.length : Int) := by omega
        have HF := Lib.hid (findX_ok (d := 0) (r := fun k => (rq k).2) HALL.out)
        go_wp2
        go_ret
        exact ⟨by rw [HF.out]; rfl, HBEL.out⟩





















section
variable {w : World} {g bm : Nat} {K : Kn}
end

section
variable {K : Kn}
end
/-! an authority that is none -/





section
variable {K : Kn}
end

section
variable {K : Kn}
def openR (K : Kn) (e : Int × List UInt8) : Msg × Int := openD (chkA K e) (decD e.2)
def reqR (K : Kn) (e : Int × List UInt8) : Rqt := reqD (openR K e) e.1
def batR (K : Kn) (l : List (Int × List UInt8)) : Int := batX l.length fun k => reqR K (envAt l k)
theorem chk_nil {m : Msg} (hb : m.b = []) (hp : m.p = []) (hq : m.q = []) : checkM m = checkD m := by
  unfold checkM checkD fitsM docFits eachE eachC
  rw [hb, hp, hq]
  simp only [List.all_nil, Bool.and_true, List.length_nil]
theorem chk_kind {m : Msg} (h : checkD m = true) (hk : m.k = 1 ∨ m.k = 3 ∨ m.k = 4 ∨ m.k = 5) : checkM m = true := by
  have hf := checkD_fit h
  have nil : ∀ {α : Type} {l : List α}, allowB (0, 0) ((l.length : Nat) : Int) = true → l = [] := fun {α l} h => by
    unfold allowB at h
    simp only [Bool.and_eq_true, decide_eq_true_eq] at h
    exact List.eq_nil_of_length_eq_zero (by omega)
  have key : m.b = [] ∧ m.p = [] ∧ m.q = [] := by
    obtain ⟨k, v, s, c, t, d, x, r, b, p, q⟩ := m
    rcases hk with hk | hk | hk | hk <;> (simp only at hk; subst hk; exact ⟨nil hf.b, nil hf.p, nil hf.q.1⟩)
  rw [chk_nil key.1 key.2.1 key.2.2]
  exact h
theorem decM_D {y : List UInt8} (h : (decM y).2 = 0) : decD y = decM y := by
  unfold decM at h ⊢
  unfold decD
  by_cases h1 : 16777216 < y.length
  · rw [if_pos h1, if_pos h1]
  rw [if_neg h1] at h
  rw [if_neg h1, if_neg h1]
  by_cases h2 : gotM y = true
  · have h3 : gotD y = true := by
      unfold gotM at h2
      unfold gotD
      rw [Bool.and_eq_true] at h2 ⊢
      exact ⟨h2.1, checkD_of h2.2⟩
    rw [if_pos h2, if_pos h3]
  · rw [if_neg h2] at h
    exact absurd h (by decide)
theorem decD_M {y : List UInt8} (h : (decD y).2 = 0) (hk : (decD y).1.k = 1 ∨ (decD y).1.k = 3 ∨ (decD y).1.k = 4 ∨ (decD y).1.k = 5) : decM y = decD y := by
  unfold decD at h hk ⊢
  unfold decM
  by_cases h1 : 16777216 < y.length
  · rw [if_pos h1, if_pos h1]
  rw [if_neg h1] at h hk
  rw [if_neg h1, if_neg h1]
  by_cases h2 : gotD y = true
  · rw [if_pos h2] at hk
    have h3 : gotM y = true := by
      unfold gotD at h2
      unfold gotM
      rw [Bool.and_eq_true] at h2 ⊢
      exact ⟨h2.1, chk_kind h2.2 hk⟩
    rw [if_pos h2, if_pos h3]
  · rw [if_neg h2] at h
    exact absurd h (by decide)
theorem open_R (e : Int × List UInt8) (kind : Int) (hk : kind = 1 ∨ kind = 3 ∨ kind = 4 ∨ kind = 5) : openA K e kind = if (openR K e).2 = 0 then (if (openR K e).1.k = kind then ((openR K e).1, 0) else (msg0, 120)) else (msg0, (openR K e).2) := by
  unfold openA openX openR openD
  by_cases h1 : chkA K e = 0
  · rw [if_pos h1, if_pos h1]
    by_cases h2 : (decM e.2).2 = 0
    · rw [if_pos h2, decM_D h2, if_pos h2, if_pos rfl]
    · rw [if_neg h2]
      by_cases h3 : (decD e.2).2 = 0
      · rw [if_pos h3, if_pos rfl]
        by_cases h4 : (decD e.2).1.k = kind
        · have := decD_M h3 (by rw [h4]; exact hk)
          rw [this] at h2
          exact absurd h3 h2
        · rw [if_neg h4]
      · rw [if_neg h3, if_neg (by decide)]
  · rw [if_neg h1, if_neg h1]
    rw [if_neg h1]
theorem req_R (e : Int × List UInt8) : reqA K e = reqR K e := by
  unfold reqA reqR
  rw [open_R e 1 (.inl rfl)]
  unfold reqX reqD
  by_cases h1 : (openR K e).2 = 0
  · rw [if_pos h1, if_pos h1]
    by_cases h2 : (openR K e).1.k = 1
    · rw [if_pos h2, if_pos h2, if_pos rfl]
    · rw [if_neg h2, if_neg h2, if_neg (by decide)]
  · rw [if_neg h1, if_neg h1]
    simp only
    rw [if_neg h1]
theorem bat_R (l : List (Int × List UInt8)) : batA K l = batR K l := by
  unfold batA batR
  congr 1
  funext k
  exact req_R _
end





section
variable {w wx W : World} {g bm g2 : Nat} {f c : Int} {v : Value} {E : List Tri} {bv : Value} {l : List UInt8} {he : Nat} {sS ve : Value} {B n : Nat} {xs : List Value}
end

section
variable {w wr w2 w3 w4 W w5 Wc : World} {g bm g2 : Nat} {f c : Int} {v : Value} {E : List Tri} {L : List (Int × List UInt8)} {bv : Value} {l : List UInt8} {sS ve : Value} {n : Nat} {xs : List Value}
end

section
variable {w w' w2 : World} {N g bm g2 : Nat} {f c : Int} {L : List (Int × List UInt8)} {T T' T2 : Nat → Prop}
end

def NoC (y : List UInt8) : Prop := (readR y 0).1.q = []
def KN (K : Kn) : Prop := ∀ e ∈ K.L, NoC e.2
def RaK (w : World) (g : Nat) (K : Kn) (S : Nat → Prop) : Prop := ∃ v E, DT w g K.f K.c v E S ∧ pairsT E = K.L
section
variable {w : World} {g : Nat} {K : Kn} {S : Nat → Prop}
theorem RaK.below {w' : World} (h : RaK w g K S) (hb : Below w.heap.size w w') : RaK w' g K S := by
  obtain ⟨v, E, h1, h2⟩ := h
  exact ⟨v, E, h1.below hb, h2⟩
theorem RaK.f (h : RaK w g K S) : 0 ≤ K.f ∧ K.f ≤ 2 := by
  obtain ⟨v, E, h1, h2⟩ := h
  exact ⟨h1.head.2.1, h1.head.2.2.1⟩
theorem chk_mem {e : Int × List UInt8} (h : chkA K e = 0) : e ∈ K.L := by
  unfold chkA checkE at h
  split at h
  · split at h
    · assumption
    · exact absurd h (by decide)
  · exact absurd h (by decide)
theorem rA_open (h : RaK w g K S) (hn : KN K) (e : Int × List UInt8) (bv : Value) (hv : Bs w bv e.2) (hs : ok64 e.1) (hl : e.2.length ≤ 100000) : Calls Tryz.prog 57 #[.pointer (some ⟨g, 0, none⟩), agE e.1 bv] w (DecN (openR K e) w) :=
  rOpen_of _ e bv (chkA K e) (decD e.2) w hv (fun W hb => by
    obtain ⟨v, E, h1, h2⟩ := h.below hb
    have := rCheck_any g K.f K.c e.1 v bv e.2 E S W h1 hs (hv.below hb (Nat.le_refl _))
    rw [h2] at this
    exact this) fun h0 W hb => rDecode_any bv e.2 W (hv.below hb (Nat.le_refl _)) hl (hn e (chk_mem h0))
theorem rA_req (h : RaK w g K S) (hn : KN K) (e : Int × List UInt8) (bv : Value) (hv : Bs w bv e.2) (hs : ok64 e.1) (hl : e.2.length ≤ 100000) : Calls Tryz.prog 18 #[.pointer (some ⟨g, 0, none⟩), agE e.1 bv] w (ReqN (reqR K e) w) :=
  rReq_of _ e bv _ w hv fun W hb => rA_open (h.below hb) hn e bv (hv.below hb (Nat.le_refl _)) hs hl
theorem rA_batch (h : RaK w g K S) (hn : KN K) (A : Option Addr) (c : Nat) (l : List (Int × List UInt8)) (hl : EnvK w A c l) (ho : ∀ e ∈ l, ok64 e.1 ∧ e.2.length ≤ 100000) : Calls Tryz.prog 20 #[.pointer (some ⟨g, 0, none⟩), .slice A l.length c] w (Ans (.int .i64 (batR K l)) w) :=
  rBatch_of _ A c l w _ hl fun k hk W bv hb hv => by
    rw [envAt_eq hk]
    exact rA_req (h.below hb) hn l[k] bv hv (ho _ (List.getElem_mem hk)).1 (ho _ (List.getElem_mem hk)).2
abbrev OkEr (l : List (Int × List UInt8)) : Prop := ∀ e ∈ l, ok64 e.1 ∧ e.2.length ≤ 100000
end

end Go.Proofs.YtjkbmmhnlhaapaaGreat

namespace Go.Proofs.YtjkbmmhnlhaapaaGreat
open Go.RowKit Go.ChangeShapes Go.WideShapes Go.ChangeAt
set_option linter.unusedVariables false
set_option linter.unusedSimpArgs false
set_option maxRecDepth 20000

structure Wd where
  s : Int
  g : Bool
  m : Msg
structure WdP (w : World) (p : Addr) (x : Wd) (P : Plc) : Prop where
  s : w.cell? p = some (.int .i64 x.s)
  g : w.cell? ⟨p.block, p.off + 1, none⟩ = some (.bool x.g)
  c : ∀ j u, (msC x.m P)[j]? = some u → w.cell? ⟨p.block, p.off + 2 + j, none⟩ = some u
  m : MsgK w x.m P
abbrev WdE (w : World) (p : Addr) (x : Wd) : Prop := ∃ P, WdP w p x P
abbrev WdK (w : World) : Option Addr → Nat → List Wd → Prop := RowM w 14 WdE
abbrev OkWd (x : Wd) : Prop := ok64 x.s ∧ OkM x.m
theorem WdP.below {w w' : World} {p : Addr} {x : Wd} {P : Plc} (h : WdP w p x P) (hb : Below w.heap.size w w') (hl : p.block < w.heap.size) : WdP w' p x P :=
  ⟨cellM hb hl h.s, cellM (p := ⟨p.block, p.off + 1, none⟩) hb hl h.g, fun j u hu => cellM (p := ⟨p.block, p.off + 2 + j, none⟩) hb hl (h.c j u hu), h.m.below hb⟩
theorem WdK.below {w w' : World} {A : Option Addr} {c : Nat} {l : List Wd} (h : WdK w A c l) (hb : Below w.heap.size w w') : WdK w' A c l := RowM.below (fun p x hl ⟨P, h⟩ => ⟨P, h.below hb hl⟩) h hb.size
theorem wd_open {w : World} {A : Option Addr} {c : Nat} {l : List Wd} (h : WdK w A c l) (k : Nat) (hk : k < l.length) : ∃ ad P, A = some ad ∧ ad.block < w.heap.size ∧ WdP w (ad.add (k * 14)) l[k] P := by
  obtain ⟨ad, e1, e2, P, e3⟩ := h.2.2.2 k hk
  exact ⟨ad, P, e1, e2, e3⟩
section
variable {H : Type} {enc : TypeId × Value → H} {W : World} {sp : Nat → Bool} {hd : Bool} {base : Nat} {v : Value} {d : DataW H} {ps : List MemPlace}
theorem part_msg (n : Nat) (cs : List Value) (x : DataW H × List MemPlace) (ht : DataW.trod enc Tryz.prog W 0 sp hd n 57 cs = some x) (hlen : cs.length = 12) : ∃ m P, cs = (msC m P).toList ∧ MsgK W m P ∧ OkM m := by
  obtain ⟨ys, m, -, -, -, hys, hfs⟩ := DataW.trod_struct Tryz.underlying57 ht
  match cs, hlen with
  | [c0, c1, c2, c3, c4, c5, c6, c7, c8, c9, c10, c11], _ =>
    match ys, hys with
    | [y0, y1, y2, y3, y4, y5, y6, y7, y8, y9, y10], _ =>
      have k1 : Tryz.prog.cellsOf 3 = 1 := by kernel_rfl
      have k2 : Tryz.prog.cellsOf 52 = 1 := by kernel_rfl
      have k3 : Tryz.prog.cellsOf 33 = 1 := by kernel_rfl
      have k4 : Tryz.prog.cellsOf 54 = 2 := by kernel_rfl
      have k5 : Tryz.prog.cellsOf 31 = 1 := by kernel_rfl
      have k6 : Tryz.prog.cellsOf 55 = 1 := by kernel_rfl
      have k7 : Tryz.prog.cellsOf 36 = 1 := by kernel_rfl
      have g0 := hfs 0 _ rfl
      have g1 := hfs 1 _ rfl
      have g2 := hfs 2 _ rfl
      have g3 := hfs 3 _ rfl
      have g4 := hfs 4 _ rfl
      have g5 := hfs 5 _ rfl
      have g6 := hfs 6 _ rfl
      have g7 := hfs 7 _ rfl
      have g8 := hfs 8 _ rfl
      have g9 := hfs 9 _ rfl
      have g10 := hfs 10 _ rfl
      simp [k1, k2, k3, k4, k5, k6, Value.cells] at g0 g1 g2 g3 g4 g5 g6 g7 g8 g9 g10
      obtain ⟨z0, e0, -, w0⟩ := DataW.trod_int Tryz.underlying3 g0
      obtain ⟨z1, e1, -, w1⟩ := DataW.trod_int Tryz.underlying3 g1
      obtain ⟨z2, e2, -, w2⟩ := DataW.trod_int Tryz.underlying3 g2
      obtain ⟨z3, e3, -, w3⟩ := DataW.trod_int Tryz.underlying3 g3
      obtain ⟨z4, e4, -, w4⟩ := DataW.trod_int Tryz.underlying3 g4
      obtain ⟨z5, e5, -⟩ := DataW.trod_string Tryz.underlying52 g5
      obtain ⟨xl, hx⟩ := open_bytes g6
      obtain ⟨XA, xc, e6, -⟩ := hx.open
      obtain ⟨us, um, -, -, -, hus, hgs⟩ := DataW.trod_struct Tryz.underlying54 g7
      obtain ⟨bl, BA, bc, e9, hb, hb2⟩ := row_ofM ⟨(0, [])⟩ EnvP (fun z => in64B z.1) Tryz.underlying31 (by kernel_rfl) (fun p x h => World.block_lt_of_cell? _ _ h.1) part_env g8
      obtain ⟨pl, PA, pc, e10, hp, hp2⟩ := row_ofM ⟨(0, [])⟩ EnvP (fun z => in64B z.1) Tryz.underlying31 (by kernel_rfl) (fun p x h => World.block_lt_of_cell? _ _ h.1) part_env g9
      obtain ⟨ql, QA, qc, e11, hq, hq2⟩ := row_ofM ⟨((0, []), [])⟩ CrtP (fun z => in64B z.1.1 ∧ ∀ e ∈ z.2, in64B e.1) Tryz.underlying55 (by kernel_rfl) (fun p x h => World.block_lt_of_cell? _ _ h.1.1) part_crt g10
      match us, hus with
      | [u0, u1], _ =>
        have f0 := hgs 0 _ rfl
        have f1 := hgs 1 _ rfl
        simp [k1, k7] at f0 f1
        obtain ⟨z7, e7, -, w7⟩ := DataW.trod_int Tryz.underlying36 f0
        obtain ⟨z8, e8, -, w8⟩ := DataW.trod_int Tryz.underlying3 f1
        simp at e0 e1 e2 e3 e4 e5 e7 e8
        subst e0 e1 e2 e3 e4 e5 e6 e7 e8 e9 e10 e11
        refine ⟨⟨z0, z1, z2, z3, z4, z5.data.toList, xl, (z7, z8), bl, pl, ql⟩, ⟨(XA, xc), (BA, bc), (PA, pc), (QA, qc)⟩, ?_, ⟨hx, hb, hp, hq⟩, ⟨inM_of w0, inM_of w1, inM_of w2, inM_of w3, inM_of w4, ⟨inM_of w7, inM_of w8⟩, hb2, hp2, hq2⟩⟩
        simp only [msC]
        rw [← strB_of z5]
theorem part_wd (n : Nat) (cs : List Value) (x : DataW H × List MemPlace) (p : Addr) (ht : DataW.trod enc Tryz.prog W 0 sp hd n 98 cs = some x) (hlen : cs.length = 14) (hat : ∀ i, i < 14 → W.cell? (p.add i) = cs[i]?) : ∃ z, WdE W p z ∧ OkWd z := by
  obtain ⟨ys, m, -, -, -, hys, hfs⟩ := DataW.trod_struct Tryz.underlying98 ht
  match cs, hlen with
  | [c0, c1, c2, c3, c4, c5, c6, c7, c8, c9, c10, c11, c12, c13], _ =>
    match ys, hys with
    | [y0, y1, y2], _ =>
      have k1 : Tryz.prog.cellsOf 3 = 1 := by kernel_rfl
      have k2 : Tryz.prog.cellsOf 4 = 1 := by kernel_rfl
      have k3 : Tryz.prog.cellsOf 57 = 12 := by kernel_rfl
      have g0 := hfs 0 _ rfl
      have g1 := hfs 1 _ rfl
      have g2 := hfs 2 _ rfl
      simp [k1, k2, k3] at g0 g1 g2
      obtain ⟨z0, e0, -, w0⟩ := DataW.trod_int Tryz.underlying3 g0
      obtain ⟨z1, e1, -⟩ := DataW.trod_bool Tryz.underlying4 g1
      obtain ⟨mm, P, e2, hk, ho⟩ := part_msg _ _ _ g2 rfl
      simp at e0 e1
      subst e0 e1
      have f0 := hat 0 (by omega)
      have f1 := hat 1 (by omega)
      refine ⟨⟨z0, z1, mm⟩, ⟨P, ⟨by simpa [Addr.add_zero'] using f0, by simpa [Addr.add_succ'] using f1, fun j u hu => ?_, hk⟩⟩, inM_of w0, ho⟩
      have hu2 : (msC mm P).toList[j]? = some u := by simpa using hu
      have hj : j < 12 := by
        have := (List.getElem?_eq_some_iff.1 hu2).1
        simpa using this
      rw [← e2] at hu2
      have h3 := hat (2 + j) (by omega)
      have h4 : [Value.int .i64 z0, Value.bool z1, c2, c3, c4, c5, c6, c7, c8, c9, c10, c11, c12, c13][2 + j]? = [c2, c3, c4, c5, c6, c7, c8, c9, c10, c11, c12, c13][j]? := by
        rw [Nat.add_comm]
        rfl
      rw [h4, hu2] at h3
      have h5 : p.add (2 + j) = ⟨p.block, p.off + 2 + j, none⟩ := by
        have h6 : p.add (2 + j) = ⟨p.block, p.off + (2 + j), none⟩ := by
          rw [Nat.add_comm 2 j]
          exact Addr.add_succ' p (j + 1)
        rw [h6, Nat.add_assoc]
      rw [h5] at h3
      exact h3
theorem open_words (hv : Value.okWide Tryz.prog W .any base 24 v) (h : DataW.Trod enc Tryz.prog W 0 sp hd 24 v d ps) : ∃ (l : List Wd) (A : Option Addr) (c : Nat), v = .slice A l.length c ∧ WdK W A c l ∧ ∀ z ∈ l, OkWd z := by
  obtain ⟨A0, n0, c0, rfl⟩ := okWide_slice Tryz.underlying24 hv
  obtain ⟨fuel, hf⟩ := h
  exact row_ofM (W := W) ⟨⟨0, false, msg0⟩⟩ WdE OkWd Tryz.underlying24 (by kernel_rfl) (fun p x ⟨P, h⟩ => World.block_lt_of_cell? _ _ h.s) part_wd (by simpa [Value.cells] using hf)
end
end Go.Proofs.YtjkbmmhnlhaapaaGreat
