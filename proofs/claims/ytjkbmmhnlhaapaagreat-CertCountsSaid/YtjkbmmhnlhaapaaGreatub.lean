/- ub: HRd0 RefI HRd1 HRd2 HRd3 HRd4 HRf1 HRf2 HRf3 HRg3 HRg4 HRf4 HRfP HRfA HRfN BSame GSame GSame2 (made by shake.py). -/
import Derived.Deep.CutRange
import Derived.Deep.QuietTactic
import Derived.BigQuiet
import Derived.Test.YtjkbmmhnlhaapaaGreatua
namespace Go.Proofs.YtjkbmmhnlhaapaaGreat
open Go.RowKit
set_option linter.unusedVariables false
set_option linter.unusedSimpArgs false
set_option maxRecDepth 20000

def loB (b : Int × Int) (n : Int) : Int × Int := if countB b = true then (0, n) else (0, 0)
theorem loB_count {b : Int × Int} {n : Int} (h : 0 < n) : countB (loB b n) = countB b := by
  unfold loB
  by_cases h1 : countB b = true
  · rw [if_pos h1, h1]
    exact decide_eq_true h
  · rw [if_neg h1]
    simp only [Bool.not_eq_true] at h1
    rw [h1]
    rfl
theorem loB_ok {b : Int × Int} {n : Int} (h : n ≤ 9223372036854775807) : OkBd (loB b n) := by
  unfold loB OkBd
  split <;> simp only <;> omega
theorem loB_allow {b : Int × Int} (hb : OkBd b) {n m : Int} (h : allowB b m = true) (hm : m ≤ n) : allowB (loB b n) m = true := by
  unfold loB
  rcases count_of hb h with ⟨h1, -⟩ | ⟨h1, rfl⟩
  · rw [if_pos h1]
    unfold allowB at h ⊢
    have := hb.1
    simp only [Bool.and_eq_true, decide_eq_true_eq] at h ⊢
    omega
  · rw [if_neg h1]
    rfl
def bytR : Rdg (List UInt8) := fun rest e => bytesF 1099511627776 rest e
def envR : Rdg (Int × List UInt8) := fun rest e => (((int8F rest e).1, (bytR (int8F rest e).2.1 (int8F rest e).2.2).1), (bytR (int8F rest e).2.1 (int8F rest e).2.2).2)
def lenR : Rdg (List (Int × List UInt8)) := lisG envR (0, 15)
def crtR : Rdg Crt := fun rest e => (((envR rest e).1, (lenR (envR rest e).2.1 (envR rest e).2.2).1), (lenR (envR rest e).2.1 (envR rest e).2.2).2)
def rowR (b : Int × Int) : Rdg (List UInt8) := rowG (loB b 1099511627776)
def lstR (b : Int × Int) : Rdg (List (Int × List UInt8)) := lisG envR (loB b 15)
def crsR (b : Int × Int) : Rdg (List Crt) := lisG crtR (loB b 8)
def bodyR (k : Int) (s : Shp) : Rdg Msg :=
  thenG (numG s.v) fun v => thenG (numG s.s) fun n => thenG (numG s.c) fun c => thenG (numG s.t) fun t => thenG (rowR s.d) fun d => thenG (rowR s.x) fun x => thenG (resG s.r) fun r =>
    thenG (lstR s.b) fun b => thenG (lstR s.p) fun p => thenG (crsR s.q) fun q => retG ⟨k, v, n, c, t, d, x, r, b, p, q⟩
def readR : Rdg Msg := thenG int8F fun k => bodyR k (shapeM k).1
/- back -/
theorem rowP_lo (b : Int × Int) (n : Int) (hn : 0 < n) : rowP (loB b n) = rowP b := by
  funext l
  unfold rowP
  rw [loB_count hn]
theorem lisP_lo {α : Type} (f : α → List UInt8) (b : Int × Int) (n : Int) (hn : 0 < n) : lisP f (loB b n) = lisP f b := by
  funext l
  unfold lisP
  rw [loB_count hn]
theorem rowR_bk (b : Int × Int) : Bk (rowR b) (rowP b) := by
  have := row_bk (loB b 1099511627776)
  rwa [rowP_lo b _ (by decide)] at this
theorem envR_bk : Bk envR envW := fun rest e h => by
  unfold envR bytR at h ⊢
  unfold envW
  obtain ⟨h2, e2⟩ := bytesF_bk h
  obtain ⟨h3, e3⟩ := int8F_ok h2
  refine ⟨h3, ?_⟩
  simp only [List.append_assoc]
  rw [← e2, ← e3]
theorem lstR_bk (b : Int × Int) : Bk (lstR b) (lisP envW b) := by
  have := lis_bk envR_bk (loB b 15)
  rwa [lisP_lo envW b _ (by decide)] at this
theorem lisP_cnt {α : Type} (f : α → List UInt8) {a b : Int × Int} (h : countB a = countB b) : lisP f a = lisP f b := by
  funext l
  unfold lisP
  rw [h]
theorem crtR_bk : Bk crtR crtW := fun rest e h => by
  unfold crtR lenR at h ⊢
  unfold crtW
  obtain ⟨h2, e2⟩ := lis_bk envR_bk (0, 15) _ _ h
  obtain ⟨h3, e3⟩ := envR_bk _ _ h2
  refine ⟨h3, ?_⟩
  rw [lisP_cnt envW (a := (0, 7)) (b := (0, 15)) rfl]
  simp only [List.append_assoc]
  rw [← e2, ← e3]
theorem crsR_bk (b : Int × Int) : Bk (crsR b) (lisP crtW b) := by
  have := lis_bk crtR_bk (loB b 8)
  rwa [lisP_lo crtW b _ (by decide)] at this
theorem bodyR_bk (k : Int) (s : Shp) : BkC (bodyR k s) (fun m => numP s.v m.v ++ (numP s.s m.s ++ (numP s.c m.c ++ (numP s.t m.t ++ (rowP s.d m.d ++ (rowP s.x m.x ++ (resP s.r m.r ++ (lisP envW s.b m.b ++ (lisP envW s.p m.p ++ (lisP crtW s.q m.q ++ [])))))))))) (fun m => m.k = k) := by
  unfold bodyR
  refine bk_then (fun m : Msg => numP s.v m.v ++ (numP s.s m.s ++ (numP s.c m.c ++ (numP s.t m.t ++ (rowP s.d m.d ++ (rowP s.x m.x ++ (resP s.r m.r ++ (lisP envW s.b m.b ++ (lisP envW s.p m.p ++ (lisP crtW s.q m.q ++ [])))))))))) (fun m => m.k = k) (fun _ m => numP s.s m.s ++ (numP s.c m.c ++ (numP s.t m.t ++ (rowP s.d m.d ++ (rowP s.x m.x ++ (resP s.r m.r ++ (lisP envW s.b m.b ++ (lisP envW s.p m.p ++ (lisP crtW s.q m.q ++ []))))))))) (fun v m => m.k = k ∧ m.v = v) (num_bk s.v) (fun v => ?_) (fun v m h => ⟨by simp only [h], by simp only [h, and_self]⟩)
  refine bk_then (fun m : Msg => numP s.s m.s ++ (numP s.c m.c ++ (numP s.t m.t ++ (rowP s.d m.d ++ (rowP s.x m.x ++ (resP s.r m.r ++ (lisP envW s.b m.b ++ (lisP envW s.p m.p ++ (lisP crtW s.q m.q ++ []))))))))) (fun m => m.k = k ∧ m.v = v) (fun _ m => numP s.c m.c ++ (numP s.t m.t ++ (rowP s.d m.d ++ (rowP s.x m.x ++ (resP s.r m.r ++ (lisP envW s.b m.b ++ (lisP envW s.p m.p ++ (lisP crtW s.q m.q ++ [])))))))) (fun n m => m.k = k ∧ m.v = v ∧ m.s = n) (num_bk s.s) (fun n => ?_) (fun n m h => ⟨by simp only [h], by simp only [h, and_self]⟩)
  refine bk_then (fun m : Msg => numP s.c m.c ++ (numP s.t m.t ++ (rowP s.d m.d ++ (rowP s.x m.x ++ (resP s.r m.r ++ (lisP envW s.b m.b ++ (lisP envW s.p m.p ++ (lisP crtW s.q m.q ++ [])))))))) (fun m => m.k = k ∧ m.v = v ∧ m.s = n) (fun _ m => numP s.t m.t ++ (rowP s.d m.d ++ (rowP s.x m.x ++ (resP s.r m.r ++ (lisP envW s.b m.b ++ (lisP envW s.p m.p ++ (lisP crtW s.q m.q ++ []))))))) (fun c m => m.k = k ∧ m.v = v ∧ m.s = n ∧ m.c = c) (num_bk s.c) (fun c => ?_) (fun c m h => ⟨by simp only [h], by simp only [h, and_self]⟩)
  refine bk_then (fun m : Msg => numP s.t m.t ++ (rowP s.d m.d ++ (rowP s.x m.x ++ (resP s.r m.r ++ (lisP envW s.b m.b ++ (lisP envW s.p m.p ++ (lisP crtW s.q m.q ++ []))))))) (fun m => m.k = k ∧ m.v = v ∧ m.s = n ∧ m.c = c) (fun _ m => rowP s.d m.d ++ (rowP s.x m.x ++ (resP s.r m.r ++ (lisP envW s.b m.b ++ (lisP envW s.p m.p ++ (lisP crtW s.q m.q ++ [])))))) (fun t m => m.k = k ∧ m.v = v ∧ m.s = n ∧ m.c = c ∧ m.t = t) (num_bk s.t) (fun t => ?_) (fun t m h => ⟨by simp only [h], by simp only [h, and_self]⟩)
  refine bk_then (fun m : Msg => rowP s.d m.d ++ (rowP s.x m.x ++ (resP s.r m.r ++ (lisP envW s.b m.b ++ (lisP envW s.p m.p ++ (lisP crtW s.q m.q ++ [])))))) (fun m => m.k = k ∧ m.v = v ∧ m.s = n ∧ m.c = c ∧ m.t = t) (fun _ m => rowP s.x m.x ++ (resP s.r m.r ++ (lisP envW s.b m.b ++ (lisP envW s.p m.p ++ (lisP crtW s.q m.q ++ []))))) (fun d m => m.k = k ∧ m.v = v ∧ m.s = n ∧ m.c = c ∧ m.t = t ∧ m.d = d) (rowR_bk s.d) (fun d => ?_) (fun d m h => ⟨by simp only [h], by simp only [h, and_self]⟩)
  refine bk_then (fun m : Msg => rowP s.x m.x ++ (resP s.r m.r ++ (lisP envW s.b m.b ++ (lisP envW s.p m.p ++ (lisP crtW s.q m.q ++ []))))) (fun m => m.k = k ∧ m.v = v ∧ m.s = n ∧ m.c = c ∧ m.t = t ∧ m.d = d) (fun _ m => resP s.r m.r ++ (lisP envW s.b m.b ++ (lisP envW s.p m.p ++ (lisP crtW s.q m.q ++ [])))) (fun x m => m.k = k ∧ m.v = v ∧ m.s = n ∧ m.c = c ∧ m.t = t ∧ m.d = d ∧ m.x = x) (rowR_bk s.x) (fun x => ?_) (fun x m h => ⟨by simp only [h], by simp only [h, and_self]⟩)
  refine bk_then (fun m : Msg => resP s.r m.r ++ (lisP envW s.b m.b ++ (lisP envW s.p m.p ++ (lisP crtW s.q m.q ++ [])))) (fun m => m.k = k ∧ m.v = v ∧ m.s = n ∧ m.c = c ∧ m.t = t ∧ m.d = d ∧ m.x = x) (fun _ m => lisP envW s.b m.b ++ (lisP envW s.p m.p ++ (lisP crtW s.q m.q ++ []))) (fun r m => m.k = k ∧ m.v = v ∧ m.s = n ∧ m.c = c ∧ m.t = t ∧ m.d = d ∧ m.x = x ∧ m.r = r) (res_bk s.r) (fun r => ?_) (fun r m h => ⟨by simp only [h], by simp only [h, and_self]⟩)
  refine bk_then (fun m : Msg => lisP envW s.b m.b ++ (lisP envW s.p m.p ++ (lisP crtW s.q m.q ++ []))) (fun m => m.k = k ∧ m.v = v ∧ m.s = n ∧ m.c = c ∧ m.t = t ∧ m.d = d ∧ m.x = x ∧ m.r = r) (fun _ m => lisP envW s.p m.p ++ (lisP crtW s.q m.q ++ [])) (fun b m => m.k = k ∧ m.v = v ∧ m.s = n ∧ m.c = c ∧ m.t = t ∧ m.d = d ∧ m.x = x ∧ m.r = r ∧ m.b = b) (lstR_bk s.b) (fun b => ?_) (fun b m h => ⟨by simp only [h], by simp only [h, and_self]⟩)
  refine bk_then (fun m : Msg => lisP envW s.p m.p ++ (lisP crtW s.q m.q ++ [])) (fun m => m.k = k ∧ m.v = v ∧ m.s = n ∧ m.c = c ∧ m.t = t ∧ m.d = d ∧ m.x = x ∧ m.r = r ∧ m.b = b) (fun _ m => lisP crtW s.q m.q ++ []) (fun p m => m.k = k ∧ m.v = v ∧ m.s = n ∧ m.c = c ∧ m.t = t ∧ m.d = d ∧ m.x = x ∧ m.r = r ∧ m.b = b ∧ m.p = p) (lstR_bk s.p) (fun p => ?_) (fun p m h => ⟨by simp only [h], by simp only [h, and_self]⟩)
  refine bk_then (fun m : Msg => lisP crtW s.q m.q ++ []) (fun m => m.k = k ∧ m.v = v ∧ m.s = n ∧ m.c = c ∧ m.t = t ∧ m.d = d ∧ m.x = x ∧ m.r = r ∧ m.b = b ∧ m.p = p) (fun _ m => []) (fun q m => m = ⟨k, v, n, c, t, d, x, r, b, p, q⟩) (crsR_bk s.q) (fun q => ?_) (fun q m h => by subst h; exact ⟨rfl, rfl, rfl, rfl, rfl, rfl, rfl, rfl, rfl, rfl, rfl⟩)
  exact bk_ret _
theorem readR_bkC : BkC readR putM (fun _ => True) := by
  unfold readR
  refine bk_then putM (fun _ => True) (fun k m => numP (shapeM k).1.v m.v ++ (numP (shapeM k).1.s m.s ++ (numP (shapeM k).1.c m.c ++ (numP (shapeM k).1.t m.t ++ (rowP (shapeM k).1.d m.d ++ (rowP (shapeM k).1.x m.x ++ (resP (shapeM k).1.r m.r ++ (lisP envW (shapeM k).1.b m.b ++ (lisP envW (shapeM k).1.p m.p ++ (lisP crtW (shapeM k).1.q m.q ++ [])))))))))) (fun k m => m.k = k) (fun _ _ h => int8F_ok h) (fun k => ?_) (fun k m h => ⟨?_, trivial⟩)
  · exact bodyR_bk k _
  · subst h
    exact put_eq (shapeM m.k).1 m
theorem readR_bk : Bk readR putM := fun rest e h => ⟨(readR_bkC rest e h).1, (readR_bkC rest e h).2.1⟩
/- forth -/
theorem envR_fo {e : Int × List UInt8} (h : in64B e.1) (hl : e.2.length ≤ 100000) : Fo envR (envW e) e := fun rest => by
  unfold envR envW bytR
  rw [List.append_assoc, int8F_put _ h]
  simp only
  rw [bytesF_fo _ _ _ (by omega) (by omega)]
theorem crtR_fo {c : Crt} (h1 : in64B c.1.1) (h2 : ∀ e ∈ c.2, in64B e.1) (h3 : c.1.2.length ≤ 100000) (h4 : c.2.length ≤ 100) (h5 : ∀ e ∈ c.2, e.2.length ≤ 100000) (hw : allowB (0, 7) (c.2.length : Nat) = true) : Fo crtR (crtW c) c := fun rest => by
  have h6 := envR_fo h1 h3
  have h8 : allowB (0, 15) (c.2.length : Nat) = true := by
    unfold allowB at hw ⊢
    simp only [Bool.and_eq_true, decide_eq_true_eq] at hw ⊢
    omega
  have h7 := lis_fo (f := envW) (b := (0, 15)) ⟨by decide, by decide⟩ (l := c.2) (by omega) h8 fun e he => envR_fo (h2 e he) (h5 e he)
  unfold crtR crtW lenR
  rw [lisP_cnt envW (a := (0, 7)) (b := (0, 15)) rfl, List.append_assoc, h6]
  simp only
  rw [h7]
theorem rowR_fo {b : Int × Int} (hb : OkBd b) {l : List UInt8} (hl : l.length < 4294967296) (h : allowB b (l.length : Nat) = true) : Fo (rowR b) (rowP b l) l := by
  have := row_fo (loB_ok (b := b) (by decide)) hl (loB_allow (n := 1099511627776) hb h (by omega))
  rwa [rowP_lo b _ (by decide)] at this
theorem lstR_fo {b : Int × Int} (hb : OkBd b) (hb8 : b.2 ≤ 8) {l : List (Int × List UInt8)} (hl : l.length < 4294967296) (h : allowB b (l.length : Nat) = true) (hG : ∀ a ∈ l, Fo envR (envW a) a) : Fo (lstR b) (lisP envW b l) l := by
  have := lis_fo (loB_ok (b := b) (n := 15) (by decide)) hl (loB_allow (n := 15) hb h (by have := allow_le h; omega)) hG
  rwa [lisP_lo envW b _ (by decide)] at this
theorem crsR_fo {b : Int × Int} (hb : OkBd b) (hb8 : b.2 ≤ 8) {l : List Crt} (hl : l.length < 4294967296) (h : allowB b (l.length : Nat) = true) (hG : ∀ a ∈ l, Fo crtR (crtW a) a) : Fo (crsR b) (lisP crtW b l) l := by
  have := lis_fo (loB_ok (b := b) (n := 8) (by decide)) hl (loB_allow (n := 8) hb h (by have := allow_le h; omega)) hG
  rwa [lisP_lo crtW b _ (by decide)] at this
theorem bodyR_fo {s : Shp} {m : Msg} (hs : OkS s) (ho : OkM m) (hd : MidM m) (hf : FitD s m) : Fo (bodyR m.k s) (numP s.v m.v ++ (numP s.s m.s ++ (numP s.c m.c ++ (numP s.t m.t ++ (rowP s.d m.d ++ (rowP s.x m.x ++ (resP s.r m.r ++ (lisP envW s.b m.b ++ (lisP envW s.p m.p ++ (lisP crtW s.q m.q ++ [])))))))))) m := by
  have k5 : m.d.length < 4294967296 := by have := hd.d; omega
  have k6 : m.x.length < 4294967296 := by have := hd.x; omega
  have k7 : m.b.length < 4294967296 := by have := hd.b.1; omega
  have k8 : m.p.length < 4294967296 := by have := hd.p.1; omega
  have k9 : m.q.length < 4294967296 := by have := hd.q.1; omega
  unfold bodyR
  refine (num_fo hs.v hf.v).then ?_
  refine (num_fo hs.s hf.s).then ?_
  refine (num_fo hs.c hf.c).then ?_
  refine (num_fo hs.t hf.t).then ?_
  refine (rowR_fo hs.d k5 hf.d).then ?_
  refine (rowR_fo hs.x k6 hf.x).then ?_
  refine (res_fo ho.r hf.r).then ?_
  refine (lstR_fo hs.b.1 hs.b.2 k7 hf.b fun e he => envR_fo (ho.b e he) (hd.b.2 e he)).then ?_
  refine (lstR_fo hs.p.1 hs.p.2 k8 hf.p fun e he => envR_fo (ho.p e he) (hd.p.2 e he)).then ?_
  refine (crsR_fo hs.q.1 hs.q.2 k9 hf.q.1 fun e he => crtR_fo (ho.q e he).1 (ho.q e he).2 (hd.q.2 e he).1 (hd.q.2 e he).2.1 (hd.q.2 e he).2.2 (hf.q.2 e he)).then ?_
  exact Fo.ret m
theorem readR_fo {m : Msg} (ho : OkM m) (hd : MidM m) (hc : checkD m = true) : Fo readR (putM m) m := by
  have hb := bodyR_fo (shape_ok m.k) ho hd (checkD_fit hc)
  have he : putM m = _ := put_eq (shapeM m.k).1 m
  rw [he]
  clear he hc
  unfold readR
  exact Fo.then (G := int8F) (F := fun k => bodyR k (shapeM k).1) (fun rest => int8F_put _ ho.k rest) hb
theorem envR_64 (rest : List UInt8) (e : Int) : in64B (envR rest e).1.1 := int8F_64 _ _
theorem crtR_64 (rest : List UInt8) (e : Int) : in64B (crtR rest e).1.1.1 ∧ ∀ e' ∈ (crtR rest e).1.2, in64B e'.1 := ⟨envR_64 _ _, lis_all (G := envR) (P := fun e => in64B e.1) envR_64 _ _ _⟩
theorem bodyR_ok (k : Int) (hk : in64B k) (s : Shp) : ∀ rest e, OkM (bodyR k s rest e).1 := by
  unfold bodyR
  refine then_all in64B (num_64 _) fun v hv => ?_
  refine then_all in64B (num_64 _) fun n hn => ?_
  refine then_all in64B (num_64 _) fun c hc => ?_
  refine then_all in64B (num_64 _) fun t ht => ?_
  refine then_all (fun _ => True) (fun _ _ => trivial) fun d _ => ?_
  refine then_all (fun _ => True) (fun _ _ => trivial) fun x _ => ?_
  refine then_all (fun r : Int × Int => in64B r.1 ∧ in64B r.2) (res_64 _) fun r hr => ?_
  refine then_all (fun l : List (Int × List UInt8) => ∀ e ∈ l, in64B e.1) (lis_all (G := envR) (P := fun e => in64B e.1) envR_64 _) fun b hb => ?_
  refine then_all (fun l : List (Int × List UInt8) => ∀ e ∈ l, in64B e.1) (lis_all (G := envR) (P := fun e => in64B e.1) envR_64 _) fun p hp => ?_
  refine then_all (fun l : List Crt => ∀ c ∈ l, in64B c.1.1 ∧ ∀ e ∈ c.2, in64B e.1) (lis_all (G := crtR) (P := fun c => in64B c.1.1 ∧ ∀ e ∈ c.2, in64B e.1) crtR_64 _) fun q hq => ?_
  exact fun rest e => ⟨hk, hv, hn, hc, ht, hr, hb, hp, hq⟩
theorem readR_ok (y : List UInt8) (e : Int) : OkM (readR y e).1 := then_all (G := int8F) (F := fun k => bodyR k (shapeM k).1) in64B int8F_64 (fun k hk => bodyR_ok k hk _) y e
def gotR (y : List UInt8) : Bool := decide (endE (readR y 0).2.1 (readR y 0).2.2 = 0) && checkD (readR y 0).1
def decR (y : List UInt8) : Msg × Int := if 16777216 < y.length then (msg0, 11) else if gotR y = true then ((readR y 0).1, 0) else (msg0, 12)
theorem endE_split {r : List UInt8} {e : Int} (h : endE r e = 0) : e = 0 ∧ r = [] := by
  unfold endE at h
  by_cases h5 : e = 0 ∧ r ≠ []
  · rw [if_pos h5] at h; exact absurd h (by decide)
  · rw [if_neg h5] at h
    exact ⟨h, Decidable.not_not.1 fun h6 => h5 ⟨h, h6⟩⟩
theorem midD_fit {s : Shp} {m : Msg} (hs : OkS s) (hf : FitD s m) (hl : ((partsM s m).flatten).length ≤ 100000) : MidM m := by
  rw [put_eq] at hl
  simp only [List.length_append] at hl
  have b1 := row_le hs.d hf.d
  have b2 := row_le hs.x hf.x
  have b3 := allow_le hf.b
  have b4 := allow_le hf.p
  have b5 := allow_le hf.q.1
  have b6 := hs.b.2
  have b7 := hs.p.2
  have b8 := hs.q.2
  refine ⟨by omega, by omega, ⟨by omega, fun e he => ?_⟩, ⟨by omega, fun e he => ?_⟩, ⟨by omega, fun c he => ?_⟩⟩
  · have h1 := lis_le envW hs.b.1 hf.b e he
    have h2 := env_le e
    omega
  · have h1 := lis_le envW hs.p.1 hf.p e he
    have h2 := env_le e
    omega
  · have h1 := lis_le crtW hs.q.1 hf.q.1 c he
    have hw2 := hf.q.2 c he
    have h3 := allow_le hw2
    have h4 : (crtW c).length = (envW c.1).length + (lisP envW (0, 7) c.2).length := by unfold crtW; rw [List.length_append]
    have h5 := env_le c.1
    simp only at h3
    refine ⟨by omega, by omega, fun e hee => ?_⟩
    have h6 := lis_le envW (b := (0, 7)) ⟨by decide, by decide⟩ hw2 e hee
    have h7 := env_le e
    omega
theorem decR_eq {y : List UInt8} (hl : y.length ≤ 100000) : decR y = decD y := by
  unfold decR decD
  have hn : ¬ 16777216 < y.length := by omega
  rw [if_neg hn, if_neg hn]
  by_cases h1 : gotR y = true
  · have h2 := h1
    unfold gotR at h2
    simp only [Bool.and_eq_true, decide_eq_true_eq] at h2
    obtain ⟨h3, h4⟩ := endE_split h2.1
    have h5 := (readR_bk y 0 h3).2
    rw [h4, List.append_nil] at h5
    have ho := readR_ok y 0
    generalize (readR y 0).1 = m at *
    have hd : MidM m := midD_fit (shape_ok m.k) (checkD_fit h2.2) (by have : (putM m).length ≤ 100000 := by rw [← h5]; exact hl
                                                                      exact this)
    have h6 := readD_fo ho hd h2.2 []
    rw [List.append_nil, ← h5] at h6
    rw [if_pos h1]
    unfold gotD
    rw [h6, if_pos (by simp [endE, h2.2])]
  · rw [if_neg h1]
    by_cases h2 : gotD y = true
    · exfalso
      have h2' := h2
      unfold gotD at h2'
      simp only [Bool.and_eq_true, decide_eq_true_eq] at h2'
      obtain ⟨h3, h4⟩ := endE_split h2'.1
      have h5 := (read_bk y 0 h3).2
      rw [h4, List.append_nil] at h5
      have ho := read_ok y 0
      generalize (readM y 0).1 = m at *
      have hd : MidM m := midD_fit (shape_ok m.k) (checkD_fit h2'.2) (by have : (putM m).length ≤ 100000 := by rw [← h5]; exact hl
                                                                         exact this)
      have h6 := readR_fo ho hd h2'.2 []
      rw [List.append_nil, ← h5] at h6
      apply h1
      unfold gotR
      rw [h6]
      simp [endE, h2'.2]
    · rw [if_neg h2]

theorem wrap64_nought : (0 : Int) = wrap64 ((0 : Nat) : Int) := by
  first | rfl | (simp; done) | (unfold wrap64; simp; done) | (unfold wrap64; decide) | (rw [wrap64_of] <;> omega)
set_option maxHeartbeats 1000000 in
theorem rfInt_at (h : Nat) (bs : List UInt8) (i : Nat) (e : Int) (w : World) (hr : RfG w h bs i e) :
    Calls Tryz.prog 136 #[.pointer (some ⟨h, 0, none⟩)] w
      (DidG h bs (.int .i64 (wrap64 (stepF 8 alInt (bs.drop i) e).1)) (stepF 8 alInt (bs.drop i) e).2.1 (stepF 8 alInt (bs.drop i) e).2.2 w) := by
  obtain ⟨A, c, -, -, -, hi, h99, hc0, hc1, hc2, hf, hlt, -⟩ := hr.open
  by_cases he : e = 0
  · subst he
    by_cases hs : 8 ≤ (bs.drop i).length
    · have hn : numF 8 (bs.drop i) = (wordN ((bs.drop i).take 8), true) := by unfold numF; rw [if_pos hs]
      have hnum := number_any h bs i 0 8 w hr (by omega)
      rw [hn] at hnum
      have hsl : 8 ≤ bs.length - i := by rw [List.length_drop] at hs; exact hs
      have hdd : (bs.drop i).drop 8 = bs.drop (i + 8) := by rw [List.drop_drop]
      have h8 := wordN_lt8 ((bs.drop i).take 8) (List.length_take_le _ _)
      have hal : alInt (wordN ((bs.drop i).take 8)) = 0 := by unfold alInt ceilE; rw [if_neg (by omega)]
      have hst : stepF 8 alInt (bs.drop i) 0 = (wordN ((bs.drop i).take 8), bs.drop (i + 8), 0) := by
        unfold stepF
        rw [if_neg (by simp), if_neg (by omega), if_neg (by rw [hal]; decide), hdd]
      rw [hst]
      clear hst hs hn hdd
      generalize wordN ((bs.drop i).take 8) = x at *
      have hx4 : (i : Int) + 8 = ((i + 8 : Nat) : Int) := by omega
      have HX4 := Lib.hid hx4
      have HNUM := Lib.hid hnum
      clear hnum hx4
      go_enter Tryz.func136, Tryz.ntmps136
      go_wp2_with (go_at_call 157; refine HNUM.out.mono ?_; rintro e w1 ⟨rfl, n, rfl⟩)
      all_goals go_ret
      all_goals exact ⟨rfl, ⟨i + 8, (hr.drewN n).setAt (i + 8) (by omega), rfl⟩, ((Only.refl _ w).below (below_drewN (Below.refl _ _) n)).set _ _⟩
    · have hn : numF 8 (bs.drop i) = (0, false) := by unfold numF; rw [if_neg hs]
      have hnum := number_any h bs i 0 8 w hr (by omega)
      rw [hn] at hnum
      have hst : stepF 8 alInt (bs.drop i) 0 = (0, bs.drop i, 10) := by unfold stepF; rw [if_neg (by simp), if_pos (by omega)]
      rw [hst]
      have HNUM := Lib.hid hnum
      clear hst hs hn hnum
      go_enter Tryz.func136, Tryz.ntmps136
      go_wp2_with (go_at_call 157; refine HNUM.out.mono ?_; rintro e w1 ⟨rfl, n, rfl⟩)
      go_ret
      exact ⟨(by first | rfl | exact ret_int wrap64_nought), ⟨i, (hr.drewN n).setErr 10, rfl⟩, ((Only.refl _ w).below (below_drewN (Below.refl _ _) n)).set _ _⟩
  · have h1 : (e != 0) = true := by simpa using he
    have hst : stepF 8 alInt (bs.drop i) e = (0, bs.drop i, e) := by unfold stepF; rw [if_pos he]
    rw [hst]
    clear hst he
    go_enter Tryz.func136, Tryz.ntmps136
    go_wp2
    go_ret
    exact ⟨(by first | rfl | exact ret_int wrap64_nought), ⟨i, hr, rfl⟩, Only.refl _ _⟩
theorem rfInt_any (h : Nat) (rest : List UInt8) (e : Int) (w : World) (hr : RfS w h rest e) :
    Calls Tryz.prog 136 #[.pointer (some ⟨h, 0, none⟩)] w
      (DidR h (.int .i64 (wrap64 (stepF 8 alInt rest e).1)) (stepF 8 alInt rest e).2.1 (stepF 8 alInt rest e).2.2 w) := by
  obtain ⟨bs, i, hr, rfl⟩ := hr
  exact (rfInt_at h bs i e w hr).mono fun _ _ ⟨h1, ⟨i', h2, h3⟩, h4⟩ => ⟨h1, ⟨bs, i', h2, h3⟩, h4⟩

theorem Bq.keepH {w w' : World} {g : Nat} {v : Value} {l : List UInt8} (h : Bq g w v l) (hz : w.heap.size ≤ w'.heap.size) (hk : ∀ (k : Nat) (cs : Array Value) (fr : Nat × Nat), w.heap[k]? = some (Obj.cells cs 5 fr) → w'.heap[k]? = w.heap[k]?) (hlow : ∀ k, k < g → w'.heap[k]? = w.heap[k]?) : Bq g w' v l := by
  rcases h with ⟨h1, h2 | h2⟩
  · exact (Bt.keepG ⟨h1, h2⟩ hz hk).bq
  · obtain ⟨A, c, hv, hc, hm, hn, hx⟩ := h1
    refine ⟨⟨A, c, hv, hc, hm, hn, fun he => ?_⟩, Or.inr h2⟩
    obtain ⟨ad, ha, hb, hr⟩ := hx he
    have hown : v.ownBlock = some ad.block := by rw [hv, ha]; rfl
    have hl : l ≠ [] := fun e => he (by rw [e]; rfl)
    have hblk := hlow _ (h2 hl _ hown)
    refine ⟨ad, ha, Nat.lt_of_lt_of_le hb hz, fun j u hu => ?_⟩
    have hb2 : (ad.add j).block = ad.block := block_add ad j
    exact (World.cell?_of_block (w := w) (w' := w') (a := ad.add j) (by rw [hb2]; exact hblk)).trans (hr j u hu)
theorem RfG.keepH {w w' : World} {g : Nat} {bs : List UInt8} {i : Nat} {e : Int} (h : RfG w g bs i e) (hz : w.heap.size ≤ w'.heap.size) (hg : w'.heap[g]? = w.heap[g]?) (hk : ∀ (k : Nat) (cs : Array Value) (fr : Nat × Nat), w.heap[k]? = some (Obj.cells cs 5 fr) → w'.heap[k]? = w.heap[k]?) (hlow : ∀ k, k < g → w'.heap[k]? = w.heap[k]?) : RfG w' g bs i e := by
  obtain ⟨bv, hh, hb, h1, h2⟩ := h
  exact ⟨bv, hg.trans hh, hb.keepH hz hk hlow, h1, h2⟩
theorem RfS.keepH {w w' : World} {g : Nat} {rest : List UInt8} {e : Int} (h : RfS w g rest e) (hz : w.heap.size ≤ w'.heap.size) (hg : w'.heap[g]? = w.heap[g]?) (hk : ∀ (k : Nat) (cs : Array Value) (fr : Nat × Nat), w.heap[k]? = some (Obj.cells cs 5 fr) → w'.heap[k]? = w.heap[k]?) (hlow : ∀ k, k < g → w'.heap[k]? = w.heap[k]?) : RfS w' g rest e := by
  obtain ⟨bs, i, h1, h2⟩ := h
  exact ⟨bs, i, h1.keepH hz hg hk hlow, h2⟩
theorem RfS.store {w w' : World} {N g : Nat} {rest : List UInt8} {err : Int} {cs : Array Value} {t : TypeId} {fr : Nat × Nat} (h : RfS w g rest err) (ho : Only N w w') (hlt : g < N) (hN : w.heap[N]? = some (.cells cs t fr)) (ht : 5 ≠ t) : RfS w' g rest err := by
  have hl := h.lt
  refine h.keepH ho.size (ho.block g hl (by intro e; injection e with e; omega)) (fun k cs2 fr2 hk => ho.block k (Array.getElem?_eq_some_iff.1 hk).1 (by intro e; injection e with e; exact other_blockG hk hN ht e)) fun k hk => ho.block k (by omega) (by intro e; injection e with e; omega)
theorem rInt8_any (g : Nat) (rest : List UInt8) (e : Int) (w : World) (hr : RfS w g rest e) : Calls Tryz.prog 136 #[.pointer (some ⟨g, 0, none⟩)] w (DidR g (.int .i64 (int8F rest e).1) (int8F rest e).2.1 (int8F rest e).2.2 w) := rfInt_any g rest e w hr
theorem rByt_any (g : Nat) (rest : List UInt8) (e : Int) (w : World) (hr : RfS w g rest e) : Calls Tryz.prog 158 #[.pointer (some ⟨g, 0, none⟩), .int .i64 1099511627776] w (DidRN g (bytR rest e).1 (bytR rest e).2.1 (bytR rest e).2.2 w) := rfBytes_any g rest e 1099511627776 (by decide) (by decide) w hr
theorem byt_len (rest : List UInt8) (e : Int) : (bytR rest e).2.1.length ≤ rest.length := bytesF_lenG _ rest e
theorem envR_len (rest : List UInt8) (e : Int) : (envR rest e).2.1.length ≤ rest.length := Nat.le_trans (byt_len _ _) (int8F_lenG _ _)
def elR (G : Rdg (Int × List UInt8)) (g : Nat) (r : List UInt8) (e : Int) : World → Ending → World → Prop := fun W en W' => ∃ q : EnvB, Prod.fst q = (G r e).1 ∧ en = .returned (.agg #[.int .i64 q.1.1, q.2]) ∧ envOk (fun b => W.heap.size ≤ b) W' q ∧ RfS W' g (G r e).2.1 (G r e).2.2 ∧ Only g W W'
set_option maxHeartbeats 1000000 in
theorem rEnvelope_any (g : Nat) (rest : List UInt8) (err : Int) (w : World) (hr : RfS w g rest err) : Calls Tryz.prog 161 #[.pointer (some ⟨g, 0, none⟩)] w (elR envR g rest err w) := by
  have x1 := heap_alloc_new w (.cells #[.int .i64 0, .slice none 0 0] 40)
  have hb0 := alloc1B w (.cells #[.int .i64 0, .slice none 0 0] 40)
  have hgl := hr.lt
  have HI := Lib.hid (fun W (h : RfS W g rest err) => rInt8_any g rest err W h)
  have HY := Lib.hid (fun W (h : RfS W g (int8F rest err).2.1 (int8F rest err).2.2) => rByt_any g (int8F rest err).2.1 (int8F rest err).2.2 W h)
  unfold elR envR
  generalize int8F rest err = a1 at *
  obtain ⟨a, r1, e1⟩ := a1
  simp only at *
  generalize bytR r1 e1 = a2 at *
  obtain ⟨l, r2, e2⟩ := a2
  simp only at *
  have HR := Lib.hid (hr.below hb0)
  have HO := Lib.hid (only_of g hb0)
  have HX := Lib.hid x1
  have HG := Lib.hid hgl
  go_enter Tryz.func161, Tryz.ntmps161
  go_upto_region 1 with fail
  generalize hw0 : w.alloc _ = w0 at *
  have HZ0 := Lib.hid hb0.size
  clear x1 hb0 hw0 hgl hr
  go_wp2_with (first
    | (go_at_call 136; refine (HI.out _ HR.out).mono ?_; rintro e w1 ⟨rfl, hr1, ho1⟩; have HR1 := Lib.hid hr1; have HX := Lib.hid (onlyHeap ho1 HX.out (by have := HG.out; omega)); have HO1 := Lib.hid (HO.out.trans ho1); clear hr1 ho1)
    | (go_at_call 158; refine (HY.out _ HR1.out).mono ?_; rintro e w2 ⟨v2, rfl, hv2, hr2, ho2, hn2⟩; obtain ⟨A, c, rfl, -⟩ := hv2.open; have HV2 := Lib.hid hv2; have HR2 := Lib.hid hr2; have HN2 := Lib.hid hn2; have HLT := Lib.hid ((Array.getElem?_eq_some_iff.1 HX.out).1); have HX := Lib.hid (onlyHeap ho2 HX.out (by have := HG.out; omega)); have HO2 := Lib.hid (HO1.out.trans ho2); clear hv2 hr2 ho2 hn2)
    | (refine wpList_storeAll rfl 40 _ _ rfl w.heap.size _ _ rfl rfl HX.out rfl (by kernel_rfl) (by kernel_rfl) ?_; intro w3 hz hh ho; have HYY := Lib.hid hh; have HO3 := Lib.hid ho; clear hz hh ho))
  have z0 := rowCell HYY.out 0 (.int .i64 a) rfl
  have z1 := rowCell HYY.out 1 (.slice A l.length c) rfl
  refine bodyPost_ret (v := .agg #[.int .i64 a, .slice A l.length c]) ?_ rfl ⟨((a, l), .slice A l.length c), rfl, rfl, ⟨?_, ?_⟩, ?_, ?_⟩
  · simp [results, Tryz.results161, go_sem, z0, z1]
  · exact HV2.out.grown HO3.out (fun _ k hk e => by injection e with e; have := HN2.out k hk; have := HLT.out; omega)
  · exact fun _ k hk => by have := HN2.out k hk; have := HLT.out; omega
  · exact HR2.out.store HO3.out HG.out HX.out (by decide)
  · exact onlyNew HO2.out HO3.out (Nat.le_refl _)
def LsRd {α β : Type} (g : Nat) (t : TypeId) (K : Nat) (cells : β → List Value) (val : β → α) (ok : (Nat → Prop) → World → β → Prop) (x : List α × List UInt8 × Int) (w : World) (e : Ending) (w' : World) : Prop :=
  ∃ (qs : List β) (v : Value), e = .returned v ∧ qs.map val = x.1 ∧ w'.ownsRow w.heap.size t K v qs.length (qs.flatMap cells) ∧ (∀ q ∈ qs, ok (fun b => w.heap.size ≤ b ∧ v.ownBlock ≠ some b) w' q) ∧ RfS w' g x.2.1 x.2.2 ∧ Only g w w'
structure GsRd {α β : Type} (G : Rdg α) (w : World) (g : Nat) (t : TypeId) (K : Nat) (cells : β → List Value) (val : β → α) (ok : (Nat → Prop) → World → β → Prop) (c : Nat) (L : List α × List UInt8 × Int) (wr : World) (k : Nat) (qs : List β) (rk : List UInt8) (ek : Int) (row : Value) : Prop where
  cnt : qs.length = k
  pre : (qs.map val ++ (timesG G (c - k) rk ek).1, (timesG G (c - k) rk ek).2) = L
  len : Far rk
  rd : RfS wr g rk ek
  own : wr.ownsRow w.heap.size t K row k (qs.flatMap cells)
  els : ∀ q ∈ qs, ok (fun b => w.heap.size ≤ b ∧ row.ownBlock ≠ some b) wr q
  on : Only g w wr
theorem GsRd.next {α β : Type} {G : Rdg α} {w : World} {g : Nat} {t : TypeId} {K : Nat} {cells : β → List Value} {val : β → α} {ok : (Nat → Prop) → World → β → Prop} {c : Nat} {L : List α × List UInt8 × Int} {wr w2 w3 w4 : World} {k : Nat} {qs : List β} {rk r1 : List UInt8} {ek e1 : Int} {row row' : Value} {q : β}
    (hmv : ∀ (S T : Nat → Prop) (w w' : World) (q : β), KeptC S T w w' → w.heap.size ≤ w'.heap.size → ok S w q → ok T w' q) (ht : 5 ≠ t) (hgw : g < w.heap.size)
    (h : GsRd G w g t K cells val ok c L wr k qs rk ek row) (hk : k < c) (hx : G rk ek = (val q, r1, e1)) (hlen : r1.length ≤ rk.length)
    (hel : ok (fun b => wr.heap.size ≤ b) w2 q) (hrd : RfS w2 g r1 e1) (hon : Only g wr w2) (hal : Below w2.heap.size w2 w3)
    (hown : w4.ownsRow w.heap.size t K row' (k + 1) (qs.flatMap cells ++ cells q)) (hgr : w3.grownBy w4 row.ownBlock) (hrow : row'.ownBlock = row.ownBlock ∨ row'.ownBlock = some w3.heap.size) :
    GsRd G w g t K cells val ok c L w4 (k + 1) (qs ++ [q]) r1 e1 row' := by
  have hz2 := hon.size
  have hz3 := hal.size
  have hz4 := hgr.size
  have hz0 := h.on.size
  have hrow0 := h.own.lt
  have hkeep : ∀ b, b < w2.heap.size → row.ownBlock ≠ some b → w4.heap[b]? = w2.heap[b]? := fun b h1 h3 => by
    rw [hgr.block b (by omega) (fun e => h3 e.symm)]
    exact hal.block b h1
  have hlow : ∀ b, b < w.heap.size → row.ownBlock ≠ some b := fun b hb e => by have := (hrow0 b e).1; omega
  have hrowT : ∀ (b : Nat) (cs : Array Value) (fr : Nat × Nat), w2.heap[b]? = some (Obj.cells cs 5 fr) → row.ownBlock ≠ some b := fun b cs fr hb e => by
    obtain ⟨cs2, fr2, h4⟩ := own_typed h.own b e
    have h5 := (hon.block b (h.own.lt b e).2 (by intro e2; injection e2 with e2; have := (h.own.lt b e).1; omega)).trans h4
    exact other_blockG hb h5 ht rfl
  refine ⟨by rw [List.length_append, h.cnt]; rfl, ?_, by have := h.len; unfold Far at *; omega, ?_, ?_, ?_, ⟨?_, ?_, ?_, by omega, fun m hm m1 => ?_⟩⟩
  · rw [← h.pre, show c - k = c - (k + 1) + 1 by omega, timesG, hx]
    simp
  · exact hrd.keepH (by omega) (hkeep g (by omega) (hlow g hgw)) (fun b cs fr hb => hkeep b (Array.getElem?_eq_some_iff.1 hb).1 (hrowT b cs fr hb)) fun b hb => hkeep b (by omega) (hlow b (by omega))
  · rw [List.flatMap_append, List.flatMap_cons, List.flatMap_nil, List.append_nil]
    exact hown
  · intro x hxq
    rcases List.mem_append.1 hxq with hxq | hxq
    · refine hmv _ _ _ _ _ (fun b hl hb => ?_) (by omega) (h.els x hxq)
      refine ⟨(hkeep b (by omega) hb.2).trans (hon.block b hl (by intro e; injection e with e; omega)), hb.1, ?_⟩
      rcases hrow with e | e
      · rw [e]; exact hb.2
      · rw [e]; intro e2; injection e2 with e2; omega
    · rw [List.mem_singleton.1 hxq]
      refine hmv _ _ _ _ _ (fun b hl hb => ?_) (by omega) hel
      have hne : row.ownBlock ≠ some b := fun e => by have := (hrow0 b e).2; omega
      refine ⟨hkeep b hl hne, by omega, ?_⟩
      rcases hrow with e | e
      · rw [e]; exact hne
      · rw [e]; intro e2; injection e2 with e2; omega
  · exact hgr.os.trans (hal.os.trans (hon.os.trans h.on.os))
  · exact hgr.tape.trans (hal.tape.trans (hon.tape.trans h.on.tape))
  · exact hgr.output.trans (hal.output.trans (hon.output.trans h.on.output))
  · exact (hkeep m (by omega) (hlow m hm)).trans ((hon.block m (by omega) m1).trans (h.on.block m hm m1))
theorem GsRd.end {α β : Type} {G : Rdg α} {w : World} {g : Nat} {t : TypeId} {K : Nat} {cells : β → List Value} {val : β → α} {ok : (Nat → Prop) → World → β → Prop} {c : Nat} {L : List α × List UInt8 × Int} {wr : World} {qs : List β} {rk : List UInt8} {ek : Int} {row : Value} (h : GsRd G w g t K cells val ok c L wr c qs rk ek row) : LsRd g t K cells val ok L w (.returned row) wr := by
  have hp := h.pre
  rw [Nat.sub_self, timesG, List.append_nil] at hp
  rw [← hp]
  have ho := h.own
  rw [← h.cnt] at ho
  exact ⟨qs, row, rfl, rfl, ho, h.els, h.rd, h.on⟩
theorem cntR_le (n : Int) (hn : 0 ≤ n ∧ n ≤ 15) (rest : List UInt8) (e : Int) : (cntG (0, n) rest e).1 ≤ 15 := by
  unfold cntG stepF
  split
  · exact Nat.zero_le _
  split
  · exact Nat.zero_le _
  split
  · exact Nat.zero_le _
  · rename_i h0
    have h0 := Decidable.not_not.1 h0
    unfold alCount ceilE at h0
    by_cases hc : max n 0 < (wordN (rest.take 4) : Int)
    · rw [if_pos hc] at h0
      exact absurd h0 (by decide)
    · simp only
      omega
set_option maxHeartbeats 2000000 in
theorem rGetList_any (g : Nat) (rest : List UInt8) (err : Int) (w : World) (hr : RfS w g rest err) (hl : Far rest) :
    Calls Tryz.prog 159 #[.pointer (some ⟨g, 0, none⟩)] w (LsRd g 40 2 envC Prod.fst envOk (lenR rest err) w) := by
  have hcnt := fun W (hW : RfS W g rest err) => rfCount_any g rest err 15 (by decide) (by decide) W hW
  have hc8 := cntR_le 15 (by decide) rest err
  have hcl := stepF_lenG 4 (alCount 15) rest err
  have hcg : stepF 4 (alCount 15) rest err = cntG (0, 15) rest err := rfl
  rw [hcg] at hcl
  simp only [hcg] at hcnt
  unfold lenR lisG
  rw [if_pos (show countB (0, 15) = true from rfl)]
  rcases hst : cntG (0, 15) rest err with ⟨c, r1, e1⟩
  rw [hst] at hc8 hcl
  simp only [hst] at hcnt
  dsimp only at hc8 hcl hcnt ⊢
  clear hst hcg
  have HGW := Lib.hid hr.lt
  have HR := Lib.hid hr
  generalize hL : timesG envR c r1 e1 = L
  have HL := Lib.hid hL
  have HLEN := Lib.hid (show Far r1 from Nat.le_trans hcl hl)
  have HC8 := Lib.hid hc8
  have HCC := Lib.hid hcnt
  clear hL hl hr hc8 hcl hcnt
  obtain ⟨i1, hi1, hz1, hsz1, hby1⟩ := info_partsG envinfoB
  go_enter Tryz.func159, Tryz.ntmps159
  go_wp2_with (go_at_call 160; refine (HCC.out _ HR.out).mono ?_; rintro e w2 ⟨rfl, hrd, hon⟩; have HRD := Lib.hid hrd; have HON := Lib.hid hon; clear hrd hon)
  go_loopw [3, 5] (fun row i wr => ∃ (k : Nat) (qs : List EnvB) (rk : List UInt8) (ek : Int), k ≤ c ∧ i = .int .i64 k ∧ GsRd envR w g 40 2 envC Prod.fst envOk c L wr k qs rk ek row) (fun _ i _ => c - (intOf i).toNat)
  case atStart => exact ⟨0, [], r1, e1, Nat.zero_le _, rfl, ⟨rfl, (by rw [List.map_nil, List.nil_append, Nat.sub_zero]; exact HL.out), HLEN.out, HRD.out, World.ownsRow_nil _ _ _ _, (fun q hq => by cases hq), HON.out⟩⟩
  case round =>
    obtain ⟨k, qs, rk, ek, hk, rfl, hi⟩ := hrel
    have HI := Lib.hid hi
    clear hi HRD HON
    by_cases hlt : k < c
    · have hltI : (k : Int) < (c : Int) := by omega
      have hcall := rEnvelope_any g rk ek wr HI.out.rd
      rcases hx2 : envR rk ek with ⟨x, r2, e2⟩
      have hrl : r2.length ≤ rk.length := by have := envR_len rk ek; rw [hx2] at this; exact this
      unfold elR at hcall
      rw [hx2] at hcall
      have HC := Lib.hid hcall
      have HX := Lib.hid hx2
      have HLT := Lib.hid hlt
      have HRL := Lib.hid hrl
      clear hcall hx2 hrl
      dsimp only at HC
      go_wp2_with fail
      refine HC.out.mono ?_
      rintro _ wA ⟨q, hq, rfl, hel, hrdA, hoA⟩
      have HQ := Lib.hid (show envR rk ek = (Prod.fst q, r2, e2) by rw [hq]; exact HX.out)
      have HEL := Lib.hid hel
      have HRA := Lib.hid hrdA
      have HOA := Lib.hid hoA
      have hownA := own_onlyG HI.out.own hoA HGW.out
      have HOW := Lib.hid (own_belowG hownA (alloc1B wA (.cells (envC q).toArray 40)))
      have HRW := Lib.hid (rowMs_new wA (envC q).toArray 40 1 2 rfl 1 (by decide))
      have HONE := Lib.hid (show ∀ u ∈ envC q, u.oneCell' = true from by intro u hu; have hb := HEL.out.1.open; obtain ⟨A0, c0, h0, -⟩ := hb; simp only [envC, List.mem_cons, List.not_mem_nil, or_false] at hu; rcases hu with rfl | rfl; rfl; rw [h0]; rfl)
      have hb1 : k + 1 ≤ maxLen := by have := HC8.out; have := HLT.out; unfold maxLen; omega
      have hb2 : (k + 1) * 32 ≤ 140737488355328 := by have := HC8.out; have := HLT.out; omega
      have HBS := Lib.hid (And.intro hb1 hb2)
      have hb5 : w.heap.size ≤ (wA.alloc (.cells (envC q).toArray 40)).heap.size := by have := HI.out.on.size; have := HOA.out.size; simp only [World.size_alloc]; omega
      have HB5 := Lib.hid hb5
      have hkb : k + 1 ≤ 1000000 := by have := HC8.out; omega
      clear hb1 hb2 hb5 hq hel hrdA hoA hownA HC HX
      go_wp2_with (at_builtin; refine wpList_append_rowsM rfl (.tmp 13) (.tmp 16) 31 rfl w.heap.size 40 i1 (.agg #[.int .i64 0, .slice none 0 0]) 2 32 Tryz.underlying31 hi1 hz1 hsz1 hby1 rfl (by decide) _ k _ rfl HOW.out _ 1 (envC q) rfl HRW.out HONE.out HBS.out.1 HBS.out.2 HB5.out ?_; intro v4 w4 hown4 hgr4 hor4; have HN := Lib.hid (GsRd.next envOk.mv (by decide) HGW.out HI.out HLT.out HQ.out HRL.out HEL.out HRA.out HOA.out (alloc1B _ _) hown4 hgr4 hor4); clear hown4 hgr4 hor4)
      go_roundw
      case rel => exact ⟨k + 1, _, _, _, by have := HLT.out; omega, by go_num, HN.out⟩
      case measure => simp [intOf]; have := HLT.out; omega
    · obtain rfl : k = c := by omega
      have hltI : ¬ (k : Int) < (k : Int) := by omega
      go_wp2
      go_ret
      exact HI.out.end

structure PtM (B g : Nat) (s : Shp) (m : Msg) (P : Plc) (rest : List UInt8) (e : Int) (w W : World) : Prop where
  box : W.heap[B]? = some (.cells (msC m P) 57 (0, 0))
  has : W.heap[B + 1]? = some (.cells (hasC s) 118 (0, 0))
  res : W.heap[B + 2]? = some (.cells msH 57 (0, 0))
  rd : RfS W g rest e
  on : Only g w W
  far : Far rest
  x : Bs W (.slice P.x.1 m.x.length P.x.2) m.x ∧ New (B + 3) (.slice P.x.1 m.x.length P.x.2)
  b : RowC (fun k => B + 3 ≤ k) W 2 (EnvC (fun k => B + 3 ≤ k)) P.b.1 P.b.2 m.b
  p : RowC (fun k => B + 3 ≤ k) W 2 (EnvC (fun k => B + 3 ≤ k)) P.p.1 P.p.2 m.p
  q : m.q = [] ∧ P.q = (none, 0)
theorem rowC_onlyH {C : Nat → Prop} {g : Nat} {w W : World} {A : Option Addr} {c : Nat} {l : List (Int × List UInt8)} (h : RowC C w 2 (EnvC C) A c l) (ho : Only g w W) (hg : ¬ C g) : RowC C W 2 (EnvC C) A c l :=
  have hk : KeptC C C w W := fun k hl hc => ⟨ho.block k hl (by intro e; injection e with e; exact hg (e ▸ hc)), hc⟩
  h.keep ho.size hk fun p x hl hp hx => hx.keep ho.size hk hl hp
theorem PtM.call {B g : Nat} {s : Shp} {m : Msg} {P : Plc} {rest r' : List UInt8} {e e' : Int} {w W W2 : World} (h : PtM B g s m P rest e w W) (hg : g < B) (hr : RfS W2 g r' e') (ho : Only g W W2) (hf : r'.length ≤ rest.length) : PtM B g s m P r' e' w W2 :=
  ⟨onlyHeap ho h.box (by omega), onlyHeap ho h.has (by omega), onlyHeap ho h.res (by omega), hr, h.on.trans ho, Nat.le_trans hf h.far, ⟨h.x.1.grown ho (fun _ k hk e => by injection e with e; have := h.x.2 k hk; omega), h.x.2⟩, rowC_onlyH h.b ho (by omega), rowC_onlyH h.p ho (by omega), h.q⟩
theorem PtM.put {B g : Nat} {s : Shp} {m m' : Msg} {P P' : Plc} {rest : List UInt8} {e : Int} {w W W2 : World} (h : PtM B g s m P rest e w W) (hg : g < B) (hB : w.heap.size ≤ B) (ho : Only B W W2) (hb : W2.heap[B]? = some (.cells (msC m' P') 57 (0, 0)))
    (hx : Bs W (.slice P'.x.1 m'.x.length P'.x.2) m'.x ∧ New (B + 3) (.slice P'.x.1 m'.x.length P'.x.2)) (hbb : RowC (fun k => B + 3 ≤ k) W 2 (EnvC (fun k => B + 3 ≤ k)) P'.b.1 P'.b.2 m'.b) (hpp : RowC (fun k => B + 3 ≤ k) W 2 (EnvC (fun k => B + 3 ≤ k)) P'.p.1 P'.p.2 m'.p) (hq : m'.q = [] ∧ P'.q = (none, 0)) : PtM B g s m' P' rest e w W2 :=
  ⟨hb, onlyHeap ho h.has (by omega), onlyHeap ho h.res (by omega), h.rd.store ho hg h.box (by decide), onlyNew h.on ho hB, h.far, ⟨hx.1.grown ho (fun _ k hk e => by injection e with e; have := hx.2 k hk; omega), hx.2⟩, rowC_onlyH hbb ho (by omega), rowC_onlyH hpp ho (by omega), hq⟩
theorem PtM.lt {B g : Nat} {s : Shp} {m : Msg} {P : Plc} {rest : List UInt8} {e : Int} {w W : World} (h : PtM B g s m P rest e w W) : B + 2 < W.heap.size := (Array.getElem?_eq_some_iff.1 h.res).1
theorem row_up {C C' : Nat → Prop} {w : World} {A : Option Addr} {c : Nat} {l : List (Int × List UInt8)} (h : RowC C w 2 (EnvC C) A c l) (hc : ∀ k, C k → C' k) : RowC C' w 2 (EnvC C') A c l :=
  have hk : KeptC C C' w w := fun k _ h => ⟨rfl, hc k h⟩
  h.keep (Nat.le_refl _) hk fun p x hl hp hx => hx.keep (Nat.le_refl _) hk hl hp
theorem num_len (b : Int × Int) (rest : List UInt8) (e : Int) : (numG b rest e).2.1.length ≤ rest.length := by
  unfold numG
  split
  · exact int8F_lenG _ _
  · exact Nat.le_refl _
theorem lenR_len (rest : List UInt8) (e : Int) : (lenR rest e).2.1.length ≤ rest.length := lis_lenG envR_len _ _ _
def GtM (g : Nat) (x : Msg × List UInt8 × Int) (w : World) (en : Ending) (w' : World) : Prop := ∃ P, en = .returned (agM x.1 P) ∧ (∀ W, KpB w.heap.size w' W → MsgK W x.1 P) ∧ RfS w' g x.2.1 x.2.2 ∧ Only g w w'
theorem bs_kpb {B : Nat} {w W : World} {v : Value} {l : List UInt8} (h : Bs w v l) (hn : New B v) (hk : KpB B w W) : Bs W v l := h.keep hk.1 fun hne k e => hk.2 k (hn k e) (h.lt hne k e)
theorem row_kpb {B : Nat} {w W : World} {A : Option Addr} {c : Nat} {l : List (Int × List UInt8)} (h : RowC (fun k => B ≤ k) w 2 (EnvC (fun k => B ≤ k)) A c l) (hk : KpB B w W) : EnvK W A c l :=
  have hc : KeptC (fun k => B ≤ k) (fun k => B ≤ k) w W := fun k hl hb => ⟨hk.2 k hb hl, hb⟩
  (h.keep hk.1 hc fun p x hl hp hx => hx.keep hk.1 hc hl hp).1.to fun _ _ => EnvC.p
theorem getM_eq {k : Int} {s : Shp} {rest r1 r2 r3 r4 r5 r6 r7 r8 r9 r10 : List UInt8} {err e1 e2 e3 e4 e5 e6 e7 e8 e9 e10 v n c t : Int} {d x : List UInt8} {r : Int × Int} {b p : List (Int × List UInt8)} {q : List Crt}
    (h1 : numG s.v rest err = (v, r1, e1)) (h2 : numG s.s r1 e1 = (n, r2, e2)) (h3 : numG s.c r2 e2 = (c, r3, e3)) (h4 : numG s.t r3 e3 = (t, r4, e4)) (h5 : rowR s.d r4 e4 = (d, r5, e5)) (h6 : rowR s.x r5 e5 = (x, r6, e6)) (h7 : resG s.r r6 e6 = (r, r7, e7)) (h8 : lstR s.b r7 e7 = (b, r8, e8)) (h9 : lstR s.p r8 e8 = (p, r9, e9)) (h10 : crsR s.q r9 e9 = (q, r10, e10)) :
    bodyR k s rest err = (⟨k, v, n, c, t, d, x, r, b, p, q⟩, r10, e10) := by
  unfold bodyR thenG retG
  simp only [h1, h2, h3, h4, h5, h6, h7, h8, h9, h10]
set_option maxHeartbeats 8000000 in
theorem rGetM_any (g : Nat) (k : Int) (s : Shp) (hst : countB s.c = countB s.t) (rest : List UInt8) (err : Int) (w : World) (hr : RfS w g rest err) (hl : Far rest) (hq : (bodyR k s rest err).1.q = []) :
    Calls Tryz.prog 137 #[.pointer (some ⟨g, 0, none⟩), agM ⟨k, 0, 0, 0, 0, [], [], (0, 0), [], [], []⟩ P0, .agg (hasC s)] w (GtM g (bodyR k s rest err) w) := by
  rcases h1 : numG s.v rest err with ⟨v, r1, e1⟩
  rcases h2 : numG s.s r1 e1 with ⟨n, r2, e2⟩
  rcases h3 : numG s.c r2 e2 with ⟨c, r3, e3⟩
  rcases h4 : numG s.t r3 e3 with ⟨t, r4, e4⟩
  rcases h5 : rowR s.d r4 e4 with ⟨d, r5, e5⟩
  rcases h6 : rowR s.x r5 e5 with ⟨x, r6, e6⟩
  rcases h7 : resG s.r r6 e6 with ⟨r, r7, e7⟩
  rcases h8 : lstR s.b r7 e7 with ⟨b, r8, e8⟩
  rcases h9 : lstR s.p r8 e8 with ⟨p, r9, e9⟩
  rcases h10 : crsR s.q r9 e9 with ⟨q, r10, e10⟩
  rw [getM_eq h1 h2 h3 h4 h5 h6 h7 h8 h9 h10] at hq ⊢
  simp only at hq
  subst hq
  have HG := Lib.hid hr.lt
  obtain ⟨x1, x2, x3⟩ := box2B w (msC ⟨k, 0, 0, 0, 0, [], [], (0, 0), [], [], []⟩ P0) (hasC s) 57 118
  have x4 := heapB x1 (alloc1B _ (.cells msH 57))
  have x5 := heapB x2 (alloc1B _ (.cells msH 57))
  have x6 := bel2M x3 (alloc1B _ (.cells msH 57))
  have x7 := heap_alloc_new ((w.alloc (.cells (msC ⟨k, 0, 0, 0, 0, [], [], (0, 0), [], [], []⟩ P0) 57)).alloc (.cells (hasC s) 118)) (.cells msH 57)
  have hz : ((w.alloc (.cells (msC ⟨k, 0, 0, 0, 0, [], [], (0, 0), [], [], []⟩ P0) 57)).alloc (.cells (hasC s) 118)).heap.size = w.heap.size + 2 := by simp
  rw [hz] at x7
  have HT := Lib.hid (show PtM w.heap.size g s ⟨k, 0, 0, 0, 0, [], [], (0, 0), [], [], []⟩ P0 rest err w _ from ⟨x4, x5, x7, hr.below x6, only_of g x6, hl, ⟨Bs.nil _, New.nil _⟩, ⟨RowM.none _ _ _, fun h => absurd rfl h⟩, ⟨RowM.none _ _ _, fun h => absurd rfl h⟩, rfl, rfl⟩)
  have H1 := Lib.hid h1
  have H2 := Lib.hid h2
  have H3 := Lib.hid h3
  have H4 := Lib.hid h4
  have H5 := Lib.hid h5
  have H6 := Lib.hid h6
  have H7 := Lib.hid h7
  have H8 := Lib.hid h8
  have H9 := Lib.hid h9
  have H10 := Lib.hid h10
  have HCT := Lib.hid hst
  clear x1 x2 x3 x4 x5 x6 x7 hz h1 h2 h3 h4 h5 h6 h7 h8 h9 h10 hr hl hst
  go_enter Tryz.func137, Tryz.ntmps137
  go_upto_region 1 with fail
  generalize hw0 : ((w.alloc _).alloc _).alloc _ = w0 at *
  clear hw0
  have a1 := rowCell HT.out.has 0 (.bool (countB s.v)) rfl
  go_upto_if 10 with fail
  go_cut [] from 10 to 13 (fun wx => PtM w.heap.size g s ⟨k, v, 0, 0, 0, [], [], (0, 0), [], [], []⟩ P0 r1 e1 w wx)
  case first =>
    clear a1
    rcases hf : countB s.v with _ | _
    · have hh := H1.out
      unfold numG at hh
      rw [if_neg (by rw [hf]; decide)] at hh
      injection hh with hv hh
      injection hh with hr he
      subst hv hr he
      clear hf
      go_wp2_with fail
      go_meet
      exact HT.out
    · have hh := H1.out
      unfold numG at hh
      rw [if_pos hf] at hh
      clear hf
      have HI := Lib.hid (fun W (h : RfS W g rest err) => rInt8_any g rest err W h)
      have hlen := int8F_lenG rest err
      rw [hh] at HI hlen
      dsimp only at HI hlen
      clear hh
      go_wp2_with (go_at_call 136; go_loud (refine (HI.out _ HT.out.rd).mono ?_; rintro e w1 ⟨rfl, hr1, ho1⟩; have HT1 := Lib.hid (HT.out.call HG.out hr1 ho1 hlen); clear hr1 ho1; have f1 : w1.frozen? ⟨w.heap.size, 1, none⟩ = false := (by have := HT1.out.box; simp [World.frozen?, this]); have q1 := rowCell HT1.out.box 1 (.int .i64 0) rfl))
      go_meet
      exact HT1.out.put HG.out (Nat.le_refl _) ((Only.refl _ _).set 1 _) (set_at HT1.out.box 1 _) HT1.out.x HT1.out.b HT1.out.p HT1.out.q
  case rest =>
  clear HT a1
  have HT := Lib.hid hcut
  clear hcut
  skip
  have a2 := rowCell HT.out.has 1 (.bool (countB s.s)) rfl
  go_upto_if 15 with fail
  go_cut [] from 15 to 18 (fun wx => PtM w.heap.size g s ⟨k, v, n, 0, 0, [], [], (0, 0), [], [], []⟩ P0 r2 e2 w wx)
  case first =>
    clear a2
    rcases hf : countB s.s with _ | _
    · have hh := H2.out
      unfold numG at hh
      rw [if_neg (by rw [hf]; decide)] at hh
      injection hh with hv hh
      injection hh with hr he
      subst hv hr he
      clear hf
      go_wp2_with fail
      go_meet
      exact HT.out
    · have hh := H2.out
      unfold numG at hh
      rw [if_pos hf] at hh
      clear hf
      have HI := Lib.hid (fun W (h : RfS W g r1 e1) => rInt8_any g r1 e1 W h)
      have hlen := int8F_lenG r1 e1
      rw [hh] at HI hlen
      dsimp only at HI hlen
      clear hh
      go_wp2_with (go_at_call 136; go_loud (refine (HI.out _ HT.out.rd).mono ?_; rintro e w1 ⟨rfl, hr1, ho1⟩; have HT1 := Lib.hid (HT.out.call HG.out hr1 ho1 hlen); clear hr1 ho1; have f1 : w1.frozen? ⟨w.heap.size, 2, none⟩ = false := (by have := HT1.out.box; simp [World.frozen?, this]); have q1 := rowCell HT1.out.box 2 (.int .i64 0) rfl))
      go_meet
      exact HT1.out.put HG.out (Nat.le_refl _) ((Only.refl _ _).set 2 _) (set_at HT1.out.box 2 _) HT1.out.x HT1.out.b HT1.out.p HT1.out.q
  case rest =>
  clear HT a2
  have HT := Lib.hid hcut
  clear hcut
  skip
  have a3 := rowCell HT.out.has 2 (.bool (countB s.c)) rfl
  go_upto_if 20 with fail
  go_cut [] from 20 to 26 (fun wx => PtM w.heap.size g s ⟨k, v, n, c, t, [], [], (0, 0), [], [], []⟩ P0 r4 e4 w wx)
  case first =>
    clear a3
    rcases hf : countB s.c with _ | _
    · have hh := H3.out
      have hh2 := H4.out
      unfold numG at hh hh2
      rw [if_neg (by rw [hf]; decide)] at hh
      rw [← HCT.out, if_neg (by rw [hf]; decide)] at hh2
      injection hh with hv hh
      injection hh with hr he
      subst hv hr he
      injection hh2 with hv2 hh2
      injection hh2 with hr2 he2
      subst hv2 hr2 he2
      clear hf
      go_wp2_with fail
      go_meet
      exact HT.out
    · have hh := H3.out
      have hh2 := H4.out
      unfold numG at hh hh2
      rw [if_pos hf] at hh
      rw [← HCT.out, if_pos hf] at hh2
      clear hf
      have HI := Lib.hid (fun W (h : RfS W g r2 e2) => rInt8_any g r2 e2 W h)
      have HJ := Lib.hid (fun W (h : RfS W g r3 e3) => rInt8_any g r3 e3 W h)
      have hlen := int8F_lenG r2 e2
      have hlen2 := int8F_lenG r3 e3
      rw [hh] at HI hlen
      rw [hh2] at HJ hlen2
      dsimp only at HI hlen HJ hlen2
      clear hh hh2
      go_upto_region 7 with (go_at_call 136; go_loud (refine (HI.out _ HT.out.rd).mono ?_; rintro e w1 ⟨rfl, hr1, ho1⟩; have HT1 := Lib.hid (HT.out.call HG.out hr1 ho1 hlen); clear hr1 ho1; have f1 : w1.frozen? ⟨w.heap.size, 3, none⟩ = false := (by have := HT1.out.box; simp [World.frozen?, this]); have q1 := rowCell HT1.out.box 3 (.int .i64 0) rfl))
      have HT2 := Lib.hid (show PtM w.heap.size g s ⟨k, v, n, c, 0, [], [], (0, 0), [], [], []⟩ P0 r3 e3 w (w1.setCell ⟨w.heap.size, 3, none⟩ (.int .i64 c)) from HT1.out.put HG.out (Nat.le_refl _) ((Only.refl _ _).set 3 _) (set_at HT1.out.box 3 _) HT1.out.x HT1.out.b HT1.out.p HT1.out.q)
      generalize w1.setCell ⟨w.heap.size, 3, none⟩ (.int .i64 c) = w2 at *
      go_wp2_with (go_at_call 136; go_loud (refine (HJ.out _ HT2.out.rd).mono ?_; rintro e w3 ⟨rfl, hr1, ho1⟩; have HT3 := Lib.hid (HT2.out.call HG.out hr1 ho1 hlen2); clear hr1 ho1; have f3 : w3.frozen? ⟨w.heap.size, 4, none⟩ = false := (by have := HT3.out.box; simp [World.frozen?, this]); have q3 := rowCell HT3.out.box 4 (.int .i64 0) rfl))
      go_meet
      exact HT3.out.put HG.out (Nat.le_refl _) ((Only.refl _ _).set 4 _) (set_at HT3.out.box 4 _) HT3.out.x HT3.out.b HT3.out.p HT3.out.q
  case rest =>
  clear HT a3
  have HT := Lib.hid hcut
  clear hcut
  skip
  have a4 := rowCell HT.out.has 3 (.bool (countB s.d)) rfl
  go_upto_if 28 with fail
  go_cut [] from 28 to 32 (fun wx => PtM w.heap.size g s ⟨k, v, n, c, t, d, [], (0, 0), [], [], []⟩ P0 r5 e5 w wx)
  case first =>
    clear a4
    rcases hf : countB s.d with _ | _
    · have hh := H5.out
      unfold rowR rowG at hh
      rw [if_neg (by rw [loB_count (by decide), hf]; decide)] at hh
      injection hh with hv hh
      injection hh with hr he
      subst hv hr he
      clear hf
      go_wp2_with fail
      go_meet
      exact HT.out
    · have hh := H5.out
      unfold rowR rowG at hh
      rw [if_pos (by rw [loB_count (by decide), hf])] at hh
      have hlo : (loB s.d 1099511627776).2 = 1099511627776 := by unfold loB; rw [if_pos hf]
      rw [hlo] at hh
      clear hf hlo
      have HI := Lib.hid (fun W (h : RfS W g r4 e4) => rByt_any g r4 e4 W h)
      have hlen := byt_len r4 e4
      rw [show bytR r4 e4 = _ from hh] at HI hlen
      dsimp only at HI hlen
      clear hh
      go_wp2_with (go_at_call 158; go_loud (refine (HI.out _ HT.out.rd).mono ?_; rintro e w1 ⟨v1, rfl, hv1, hr1, ho1, hn1⟩; have HT1 := Lib.hid (HT.out.call HG.out hr1 ho1 hlen); have hcv := run_strD hv1; obtain ⟨A1, c1, rfl, -⟩ := hv1.open; clear hr1 ho1 hn1; have f1 : w1.frozen? ⟨w.heap.size, 5, none⟩ = false := (by have := HT1.out.box; simp [World.frozen?, this]); have q1 := rowCell HT1.out.box 5 (.string ⟨#[]⟩) rfl))
      go_meet
      exact HT1.out.put HG.out (Nat.le_refl _) ((Only.refl _ _).set 5 _) (set_at HT1.out.box 5 _) HT1.out.x HT1.out.b HT1.out.p HT1.out.q
  case rest =>
  clear HT a4
  have HT := Lib.hid hcut
  clear hcut
  skip
  have a5 := rowCell HT.out.has 4 (.bool (countB s.x)) rfl
  go_upto_if 34 with fail
  go_cut [] from 34 to 37 (fun wx => ∃ XA xc, PtM w.heap.size g s ⟨k, v, n, c, t, d, x, (0, 0), [], [], []⟩ ⟨(XA, xc), (none, 0), (none, 0), (none, 0)⟩ r6 e6 w wx)
  case first =>
    clear a5
    rcases hf : countB s.x with _ | _
    · have hh := H6.out
      unfold rowR rowG at hh
      rw [if_neg (by rw [loB_count (by decide), hf]; decide)] at hh
      injection hh with hv hh
      injection hh with hr he
      subst hv hr he
      clear hf
      go_wp2_with fail
      go_meet
      exact ⟨none, 0, HT.out⟩
    · have hh := H6.out
      unfold rowR rowG at hh
      rw [if_pos (by rw [loB_count (by decide), hf])] at hh
      have hlo : (loB s.x 1099511627776).2 = 1099511627776 := by unfold loB; rw [if_pos hf]
      rw [hlo] at hh
      clear hf hlo
      have HI := Lib.hid (fun W (h : RfS W g r5 e5) => rByt_any g r5 e5 W h)
      have hlen := byt_len r5 e5
      rw [show bytR r5 e5 = _ from hh] at HI hlen
      dsimp only at HI hlen
      clear hh
      go_wp2_with (go_at_call 158; go_loud (refine (HI.out _ HT.out.rd).mono ?_; rintro e w1 ⟨v1, rfl, hv1, hr1, ho1, hn1⟩; have HLT := Lib.hid HT.out.lt; have HT1 := Lib.hid (HT.out.call HG.out hr1 ho1 hlen); obtain ⟨A1, c1, rfl, -⟩ := hv1.open; have HV1 := Lib.hid hv1; have HN1 := Lib.hid hn1; clear hr1 ho1 hv1 hn1; have f1 : w1.frozen? ⟨w.heap.size, 6, none⟩ = false := (by have := HT1.out.box; simp [World.frozen?, this]); have q1 := rowCell HT1.out.box 6 (.slice none 0 0) rfl))
      go_meet
      exact ⟨A1, c1, HT1.out.put (P' := ⟨(A1, c1), (none, 0), (none, 0), (none, 0)⟩) HG.out (Nat.le_refl _) ((Only.refl _ _).set 6 _) (set_at HT1.out.box 6 _) ⟨HV1.out, fun k hk => by have := HN1.out k hk; have := HLT.out; omega⟩ HT1.out.b HT1.out.p HT1.out.q⟩
  case rest =>
  clear HT a5
  obtain ⟨XA, xc, hcut⟩ := hcut
  have HT := Lib.hid hcut
  clear hcut
  skip
  have a6 := rowCell HT.out.has 5 (.bool (s.r)) rfl
  go_upto_if 39 with fail
  go_cut [] from 39 to 45 (fun wx => PtM w.heap.size g s ⟨k, v, n, c, t, d, x, r, [], [], []⟩ ⟨(XA, xc), (none, 0), (none, 0), (none, 0)⟩ r7 e7 w wx)
  case first =>
    clear a6
    rcases hf : s.r with _ | _
    · have hh := H7.out
      unfold resG at hh
      rw [if_neg (by rw [hf]; decide)] at hh
      injection hh with hv hh
      injection hh with hr he
      subst hv hr he
      clear hf
      go_wp2_with fail
      go_meet
      exact HT.out
    · have hh := H7.out
      unfold resG at hh
      rw [if_pos hf] at hh
      clear hf
      rcases hi1 : int8F r6 e6 with ⟨z1, y1, g1⟩
      rw [hi1] at hh
      dsimp only at hh
      rcases hi2 : int8F y1 g1 with ⟨z2, y2, g2⟩
      rw [hi2] at hh
      injection hh with hv hh
      injection hh with hr he
      subst hv hr he
      have HI := Lib.hid (fun W (h : RfS W g r6 e6) => rInt8_any g r6 e6 W h)
      have HJ := Lib.hid (fun W (h : RfS W g y1 g1) => rInt8_any g y1 g1 W h)
      have hlen := int8F_lenG r6 e6
      have hlen2 := int8F_lenG y1 g1
      rw [hi1] at HI hlen
      rw [hi2] at HJ hlen2
      dsimp only at HI hlen HJ hlen2
      clear hi1 hi2
      go_wp2_with (first
        | (go_at_call 136; refine (HI.out _ HT.out.rd).mono ?_; rintro e w1 ⟨rfl, hr1, ho1⟩; have HT1 := Lib.hid (HT.out.call HG.out hr1 ho1 hlen); clear hr1 ho1 HI)
        | (go_at_call 136; go_loud (refine (HJ.out _ HT1.out.rd).mono ?_; rintro e w2 ⟨rfl, hr1, ho1⟩; have HT2 := Lib.hid (HT1.out.call HG.out hr1 ho1 hlen2); clear hr1 ho1; have f7 : w2.frozen? ⟨w.heap.size, 7, none⟩ = false := (by have := HT2.out.box; simp [World.frozen?, this]); have f8 : w2.frozen? ⟨w.heap.size, 8, none⟩ = false := (by have := HT2.out.box; simp [World.frozen?, this]); have q7 := rowCell HT2.out.box 7 (.int .i64 0) rfl; have q8 := rowCell HT2.out.box 8 (.int .i64 0) rfl)))
      go_meet
      exact HT2.out.put HG.out (Nat.le_refl _) (((Only.refl _ _).set 7 _).set 8 _) (set_at (set_at HT2.out.box 7 _) 8 _) HT2.out.x HT2.out.b HT2.out.p HT2.out.q
  case rest =>
  clear HT a6
  have HT := Lib.hid hcut
  clear hcut
  skip
  have a7 := rowCell HT.out.has 6 (.bool (countB s.b)) rfl
  go_upto_if 47 with fail
  go_cut [] from 47 to 50 (fun wx => ∃ BA bc1, PtM w.heap.size g s ⟨k, v, n, c, t, d, x, r, b, [], []⟩ ⟨(XA, xc), (BA, bc1), (none, 0), (none, 0)⟩ r8 e8 w wx)
  case first =>
    clear a7
    rcases hf : countB s.b with _ | _
    · have hh := H8.out
      unfold lstR lisG at hh
      rw [if_neg (by rw [loB_count (by decide), hf]; decide)] at hh
      injection hh with hv hh
      injection hh with hr he
      subst hv hr he
      clear hf
      go_wp2_with fail
      go_meet
      exact ⟨none, 0, HT.out⟩
    · have hlo : loB s.b 15 = (0, 15) := by unfold loB; rw [if_pos hf]
      have hh := H8.out
      unfold lstR at hh
      rw [hlo] at hh
      clear hf hlo
      have HI := Lib.hid (fun W (h : RfS W g r7 e7) (hl : Far r7) => rGetList_any g r7 e7 W h hl)
      have hlen := lenR_len r7 e7
      rw [show lenR r7 e7 = _ from hh] at HI hlen
      dsimp only at HI hlen
      clear hh
      go_wp2_with (go_at_call 159; go_loud (refine (HI.out _ HT.out.rd HT.out.far).mono ?_; rintro e w1 ⟨qs, v1, rfl, hq1, hown1, hel1, hr1, ho1⟩; obtain ⟨A1, c1, hv1, hrow1⟩ := envs_rowC hown1 (fun q hq => envOk.mv _ _ _ _ q (fun k _ hk => ⟨rfl, hk.1⟩) (Nat.le_refl _) (hel1 q hq)); rw [hq1] at hv1 hrow1; subst hv1; have HLT := Lib.hid HT.out.lt; have HT1 := Lib.hid (HT.out.call HG.out hr1 ho1 hlen); have HR1 := Lib.hid hrow1; clear hr1 ho1 hq1 hown1 hel1 hrow1; have f1 : w1.frozen? ⟨w.heap.size, 9, none⟩ = false := (by have := HT1.out.box; simp [World.frozen?, this]); have q1 := rowCell HT1.out.box 9 (.slice none 0 0) rfl))
      go_meet
      exact ⟨A1, c1, HT1.out.put (P' := ⟨(XA, xc), (A1, c1), (none, 0), (none, 0)⟩) HG.out (Nat.le_refl _) ((Only.refl _ _).set 9 _) (set_at HT1.out.box 9 _) HT1.out.x (row_up HR1.out fun k hk => by have := HLT.out; omega) HT1.out.p HT1.out.q⟩
  case rest =>
  clear HT a7
  obtain ⟨BA, bc1, hcut⟩ := hcut
  have HT := Lib.hid hcut
  clear hcut
  skip
  have a8 := rowCell HT.out.has 7 (.bool (countB s.p)) rfl
  go_upto_if 52 with fail
  go_cut [] from 52 to 55 (fun wx => ∃ PA pc1, PtM w.heap.size g s ⟨k, v, n, c, t, d, x, r, b, p, []⟩ ⟨(XA, xc), (BA, bc1), (PA, pc1), (none, 0)⟩ r9 e9 w wx)
  case first =>
    clear a8
    rcases hf : countB s.p with _ | _
    · have hh := H9.out
      unfold lstR lisG at hh
      rw [if_neg (by rw [loB_count (by decide), hf]; decide)] at hh
      injection hh with hv hh
      injection hh with hr he
      subst hv hr he
      clear hf
      go_wp2_with fail
      go_meet
      exact ⟨none, 0, HT.out⟩
    · have hlo : loB s.p 15 = (0, 15) := by unfold loB; rw [if_pos hf]
      have hh := H9.out
      unfold lstR at hh
      rw [hlo] at hh
      clear hf hlo
      have HI := Lib.hid (fun W (h : RfS W g r8 e8) (hl : Far r8) => rGetList_any g r8 e8 W h hl)
      have hlen := lenR_len r8 e8
      rw [show lenR r8 e8 = _ from hh] at HI hlen
      dsimp only at HI hlen
      clear hh
      go_wp2_with (go_at_call 159; go_loud (refine (HI.out _ HT.out.rd HT.out.far).mono ?_; rintro e w1 ⟨qs, v1, rfl, hq1, hown1, hel1, hr1, ho1⟩; obtain ⟨A1, c1, hv1, hrow1⟩ := envs_rowC hown1 (fun q hq => envOk.mv _ _ _ _ q (fun k _ hk => ⟨rfl, hk.1⟩) (Nat.le_refl _) (hel1 q hq)); rw [hq1] at hv1 hrow1; subst hv1; have HLT := Lib.hid HT.out.lt; have HT1 := Lib.hid (HT.out.call HG.out hr1 ho1 hlen); have HR1 := Lib.hid hrow1; clear hr1 ho1 hq1 hown1 hel1 hrow1; have f1 : w1.frozen? ⟨w.heap.size, 10, none⟩ = false := (by have := HT1.out.box; simp [World.frozen?, this]); have q1 := rowCell HT1.out.box 10 (.slice none 0 0) rfl))
      go_meet
      exact ⟨A1, c1, HT1.out.put (P' := ⟨(XA, xc), (BA, bc1), (A1, c1), (none, 0)⟩) HG.out (Nat.le_refl _) ((Only.refl _ _).set 10 _) (set_at HT1.out.box 10 _) HT1.out.x HT1.out.b (row_up HR1.out fun k hk => by have := HLT.out; omega) HT1.out.q⟩
  case rest =>
  clear HT a8
  obtain ⟨PA, pc1, hcut⟩ := hcut
  have HT := Lib.hid hcut
  clear hcut
  skip
  have a9 := rowCell HT.out.has 8 (.bool (countB s.q)) rfl
  go_upto_if 57 with fail
  go_cut [] from 57 to 74 (fun wx => PtM w.heap.size g s ⟨k, v, n, c, t, d, x, r, b, p, []⟩ ⟨(XA, xc), (BA, bc1), (PA, pc1), (none, 0)⟩ r10 e10 w wx)
  case first =>
    clear a9
    rcases hf : countB s.q with _ | _
    · have hh := H10.out
      unfold crsR lisG at hh
      rw [if_neg (by rw [loB_count (by decide), hf]; decide)] at hh
      injection hh with hv hh
      injection hh with hr he
      subst hr he
      clear hf hv
      go_wp2_with fail
      go_meet
      exact HT.out
    · have hlo : loB s.q 8 = (0, 8) := by unfold loB; rw [if_pos hf]
      have hh := H10.out
      unfold crsR lisG at hh
      rw [hlo, if_pos (show countB (0, 8) = true from rfl)] at hh
      clear hf hlo
      have hcg : stepF 4 (alCount 8) r9 e9 = cntG (0, 8) r9 e9 := rfl
      have HI := Lib.hid (fun W (h : RfS W g r9 e9) => rfCount_any g r9 e9 8 (by decide) (by decide) W h)
      have hlen := stepF_lenG 4 (alCount 8) r9 e9
      rw [hcg] at hlen
      simp only [hcg] at HI
      rcases hst : cntG (0, 8) r9 e9 with ⟨y, y1, g1⟩
      rw [hst] at hh hlen
      simp only [hst] at HI
      dsimp only at hh hlen
      have hy : y = 0 := by
        have h1 := times_len crtR y y1 g1
        rw [hh] at h1
        exact h1.symm
      subst hy
      rw [timesG] at hh
      injection hh with hv hh
      injection hh with hr he
      subst hr he
      clear hst hcg hv
      go_wp2_with (go_at_call 160; go_loud (refine (HI.out _ HT.out.rd).mono ?_; rintro e w1 ⟨rfl, hr1, ho1⟩; have HT1 := Lib.hid (HT.out.call HG.out hr1 ho1 hlen); clear hr1 ho1))
      go_loopw [8] (fun i wr => i = .int .i64 0 ∧ PtM w.heap.size g s ⟨k, v, n, c, t, d, x, r, b, p, []⟩ ⟨(XA, xc), (BA, bc1), (PA, pc1), (none, 0)⟩ y1 g1 w wr) (fun _ _ => 0)
      case atStart => exact ⟨rfl, HT1.out⟩
      case round =>
        obtain ⟨rfl, hi⟩ := hrel
        have HJ := Lib.hid hi
        clear hi HT1
        go_wp2
        go_meet
        exact HJ.out
  case rest =>
  clear HT a9
  have HT := Lib.hid hcut
  clear hcut
  skip
  go_wp2_with (first
    | (refine wpList_load_mid rfl 57 _ rfl w.heap.size 0 rfl _ _ (heap_all HT.out.box) Tryz.underlying57 rfl (by kernel_rfl) ?_)
    | (refine wpList_storeAll rfl 57 _ _ rfl (w.heap.size + 2) _ _ rfl rfl HT.out.res rfl (by kernel_rfl) (by kernel_rfl) ?_; intro w9 hz hh ho; have HY := Lib.hid hh; have HO9 := Lib.hid ho; clear hz hh ho))
  refine bodyPost_ret (v := agM ⟨k, v, n, c, t, d, x, r, b, p, []⟩ ⟨(XA, xc), (BA, bc1), (PA, pc1), (none, 0)⟩) ?_ rfl ⟨_, rfl, fun W hW => ?_, ?_, ?_⟩
  · have z0 := rowCell HY.out 0 (.int .i64 k) rfl
    have z1 := rowCell HY.out 1 (.int .i64 v) rfl
    have z2 := rowCell HY.out 2 (.int .i64 n) rfl
    have z3 := rowCell HY.out 3 (.int .i64 c) rfl
    have z4 := rowCell HY.out 4 (.int .i64 t) rfl
    have z5 := rowCell HY.out 5 (.string (strB d)) rfl
    have z6 := rowCell HY.out 6 (.slice XA x.length xc) rfl
    have z7 := rowCell HY.out 7 (.int .i64 r.1) rfl
    have z8 := rowCell HY.out 8 (.int .i64 r.2) rfl
    have z9 := rowCell HY.out 9 (.slice BA b.length bc1) rfl
    have z10 := rowCell HY.out 10 (.slice PA p.length pc1) rfl
    have z11 := rowCell HY.out 11 (.slice none 0 0) rfl
    simp [results, Tryz.results137, go_sem, z0, z1, z2, z3, z4, z5, z6, z7, z8, z9, z10, z11]
  · have hk := kpb_to (B := w.heap.size + 3) (w2 := wc) (w9 := w9) (keep_only (kpb_refl _ _) HO9.out (by omega)) hW (by omega)
    exact ⟨bs_kpb HT.out.x.1 HT.out.x.2 hk, row_kpb HT.out.b hk, row_kpb HT.out.p hk, RowM.none _ _ _⟩
  · exact HT.out.rd.store HO9.out (by have := HG.out; omega) HT.out.res (by decide)
  · exact onlyNew HT.out.on HO9.out (by omega)

theorem shape_ct (k : Int) : countB (shapeM k).1.c = countB (shapeM k).1.t := by
  unfold shapeM
  repeat' split
  all_goals rfl
def SmG {α : Type} (N : Nat) (G : Rdg α) (A : α → Prop) : Prop := ∀ rest e, rest.length ≤ N → A (G rest e).1 ∧ (G rest e).2.1.length ≤ N
theorem SmG.then {α β : Type} {N : Nat} {G : Rdg α} {F : α → Rdg β} {A : α → Prop} {P : β → Prop} (hG : SmG N G A) (h : ∀ a, A a → SmG N (F a) P) : SmG N (thenG G F) P := fun rest e hl =>
  have h1 := hG rest e hl
  h _ h1.1 _ _ h1.2
theorem SmG.ret {α : Type} {N : Nat} {P : α → Prop} {a : α} (h : P a) : SmG N (retG a) P := fun rest e hl => ⟨h, hl⟩
theorem num_sm (N : Nat) (b : Int × Int) : SmG N (numG b) (fun _ => True) := fun rest e hl => ⟨trivial, Nat.le_trans (num_len b rest e) hl⟩
theorem res_sm (N : Nat) (y : Bool) : SmG N (resG y) (fun _ => True) := fun rest e hl => by
  refine ⟨trivial, ?_⟩
  unfold resG
  split
  · exact Nat.le_trans (int8F_lenG _ _) (Nat.le_trans (int8F_lenG _ _) hl)
  · exact hl
theorem bytesF_le (most : Int) (rest : List UInt8) (e : Int) : (bytesF most rest e).1.length ≤ rest.length := by
  unfold bytesF
  split
  · exact Nat.zero_le _
  · have := stepF_lenG 4 (alBytes most rest) rest e
    simp only [List.length_take]
    omega
theorem row_sm (N : Nat) (b : Int × Int) : SmG N (rowG b) (fun l => l.length ≤ N) := fun rest e hl => by
  unfold rowG
  split
  · exact ⟨Nat.le_trans (bytesF_le _ _ _) hl, Nat.le_trans (bytesF_lenG _ _ _) hl⟩
  · exact ⟨Nat.zero_le _, hl⟩
theorem env_sm (N : Nat) : SmG N envR (fun x => x.2.length ≤ N) := fun rest e hl =>
  ⟨Nat.le_trans (bytesF_le _ _ _) (Nat.le_trans (int8F_lenG _ _) hl), Nat.le_trans (envR_len rest e) hl⟩
theorem times_sm {α : Type} {N : Nat} {G : Rdg α} {A : α → Prop} (h : SmG N G A) : ∀ n, SmG N (timesG G n) (fun l => ∀ a ∈ l, A a)
  | 0 => fun rest e hl => ⟨(fun a ha => by cases ha), hl⟩
  | n + 1 => fun rest e hl => by
    have h1 := h rest e hl
    have h2 := times_sm h n _ (G rest e).2.2 h1.2
    rw [timesG]
    refine ⟨fun a ha => ?_, h2.2⟩
    rcases List.mem_cons.1 ha with rfl | ha
    · exact h1.1
    · exact h2.1 a ha
theorem lst_sm (N : Nat) (b : Int × Int) : SmG N (lstR b) (fun l => l.length ≤ 15 ∧ ∀ x ∈ l, x.2.length ≤ N) := fun rest e hl => by
  unfold lstR loB lisG
  by_cases hc : countB b = true
  · rw [if_pos hc, if_pos (show countB (0, 15) = true from rfl)]
    have h1 := times_sm (env_sm N) (cntG (0, 15) rest e).1 (cntG (0, 15) rest e).2.1 (cntG (0, 15) rest e).2.2 (Nat.le_trans (stepF_lenG 4 _ rest e) hl)
    exact ⟨⟨by rw [times_len]; exact cntR_le 15 (by decide) rest e, h1.1⟩, h1.2⟩
  · rw [if_neg hc, if_neg (show ¬ countB (0, 0) = true by decide)]
    exact ⟨⟨Nat.zero_le _, fun x hx => by cases hx⟩, hl⟩
theorem body_sm (N : Nat) (k : Int) (s : Shp) (rest : List UInt8) (e : Int) (hl : rest.length ≤ N) : (bodyR k s rest e).1.d.length ≤ N ∧ (bodyR k s rest e).1.x.length ≤ N ∧ ((bodyR k s rest e).1.b.length ≤ 15 ∧ ∀ z ∈ (bodyR k s rest e).1.b, z.2.length ≤ N) ∧ ((bodyR k s rest e).1.p.length ≤ 15 ∧ ∀ z ∈ (bodyR k s rest e).1.p, z.2.length ≤ N) ∧ (bodyR k s rest e).1.k = k := by
  have h1 := (num_sm N s.v) rest e hl
  have h2 := (num_sm N s.s) _ (numG s.v rest e).2.2 h1.2
  have h3 := (num_sm N s.c) _ (numG s.s (numG s.v rest e).2.1 (numG s.v rest e).2.2).2.2 h2.2
  rcases k1 : numG s.v rest e with ⟨v, r1, e1⟩
  rcases k2 : numG s.s r1 e1 with ⟨n, r2, e2⟩
  rcases k3 : numG s.c r2 e2 with ⟨c, r3, e3⟩
  rcases k4 : numG s.t r3 e3 with ⟨t, r4, e4⟩
  rcases k5 : rowR s.d r4 e4 with ⟨d, r5, e5⟩
  rcases k6 : rowR s.x r5 e5 with ⟨x, r6, e6⟩
  rcases k7 : resG s.r r6 e6 with ⟨r, r7, e7⟩
  rcases k8 : lstR s.b r7 e7 with ⟨b, r8, e8⟩
  rcases k9 : lstR s.p r8 e8 with ⟨p, r9, e9⟩
  rcases k10 : crsR s.q r9 e9 with ⟨q, r10, e10⟩
  rw [getM_eq k1 k2 k3 k4 k5 k6 k7 k8 k9 k10]
  have a1 : r1.length ≤ N := by have := h1.2; rw [k1] at this; exact this
  have a2 : r2.length ≤ N := by have := ((num_sm N s.s) r1 e1 a1).2; rw [k2] at this; exact this
  have a3 : r3.length ≤ N := by have := ((num_sm N s.c) r2 e2 a2).2; rw [k3] at this; exact this
  have a4 : r4.length ≤ N := by have := ((num_sm N s.t) r3 e3 a3).2; rw [k4] at this; exact this
  have a5 := (row_sm N (loB s.d 1099511627776)) r4 e4 a4
  rw [show rowG (loB s.d 1099511627776) r4 e4 = _ from k5] at a5
  have a6 := (row_sm N (loB s.x 1099511627776)) r5 e5 a5.2
  rw [show rowG (loB s.x 1099511627776) r5 e5 = _ from k6] at a6
  have a7 : r7.length ≤ N := by have := ((res_sm N s.r) r6 e6 a6.2).2; rw [k7] at this; exact this
  have a8 := (lst_sm N s.b) r7 e7 a7
  rw [k8] at a8
  have a9 := (lst_sm N s.p) r8 e8 a8.2
  rw [k9] at a9
  exact ⟨a5.1, a6.1, a8.1, a9.1, rfl⟩
theorem decR_1 {y : List UInt8} (hl : ¬ 16777216 < y.length) (h : gotR y = true) : decR y = ((readR y 0).1, 0) := by unfold decR; rw [if_neg hl, if_pos h]
theorem decR_2 {y : List UInt8} (hl : ¬ 16777216 < y.length) (h : ¬ gotR y = true) : decR y = (msg0, 12) := by unfold decR; rw [if_neg hl, if_neg h]
theorem onlyB {B g : Nat} {w w1 w' : World} (h : Below B w w1) (ho : Only g w1 w') (hB : B ≤ w.heap.size) (hg : B ≤ g) : Below B w w' := onlyBelow h ho hg hB
set_option maxHeartbeats 8000000 in
theorem rDecode_of (v : Value) (y : List UInt8) (w : World) (k : Int) (r1 : List UInt8) (e1 : Int) (s : Shp) (ok : Bool) (m : Msg) (r2 : List UInt8) (e2 ee : Int) (ck : Bool) (X : Msg × Int) (hv : Bs w v y) (hl : y.length ≤ 100000)
    (hI : ∀ g W, RfS W g y 0 → Calls Tryz.prog 136 #[.pointer (some ⟨g, 0, none⟩)] W (DidR g (.int .i64 k) r1 e1 W))
    (hFL : ∀ W, Calls Tryz.prog 72 #[.int .i64 k] W (fun e w' => e = .returned (.tuple #[.agg (hasC s), .bool ok]) ∧ Below W.heap.size W w'))
    (hG : ∀ g W, RfS W g r1 e1 → Calls Tryz.prog 137 #[.pointer (some ⟨g, 0, none⟩), agM ⟨k, 0, 0, 0, 0, [], [], (0, 0), [], [], []⟩ P0, .agg (hasC s)] W (GtM g (m, r2, e2) W))
    (hEN : ∀ g W, RfS W g r2 e2 → Calls Tryz.prog 138 #[.pointer (some ⟨g, 0, none⟩)] W (DidR g (.tuple #[]) r2 ee W))
    (hCK : ∀ P W, Calls Tryz.prog 71 #[agM m P] W (Ans (.int .i64 (yesE ck)) W))
    (h1 : ok = false → X = (msg0, 12)) (h2 : ee ≠ 0 → X = (msg0, 12)) (h3 : ck = false → X = (msg0, 12)) (h4 : ok = true → ee = 0 → ck = true → X = (m, 0)) : Calls Tryz.prog 105 #[v] w (DecN X w) := by
  obtain ⟨BA, bc, rfl, -⟩ := hv.open
  have hlt : ¬ (16777216 : Int) < (y.length : Int) := by omega
  have x0 := heap_alloc_new w (.cells msH 57)
  have hb0 := alloc1B w (.cells msH 57)
  have hq0 : Bq (w.alloc (.cells msH 57)).heap.size (w.alloc (.cells msH 57)) (.slice BA y.length bc) y := (hv.below hb0 (Nat.le_refl _)).bq fun hne k e => Nat.lt_of_lt_of_le (hv.lt hne k e) hb0.size
  have hr0 := RfS.mkq (w.alloc (.cells msH 57)) (.slice BA y.length bc) y hq0 (by omega) (w.heap.size + 1) (by simp)
  have hb1 := bel2M hb0 (alloc1B (w.alloc (.cells msH 57)) (.cells #[.slice BA y.length bc, .int .i64 0, .int .i64 0] 183))
  have x1 := heapB x0 (alloc1B (w.alloc (.cells msH 57)) (.cells #[.slice BA y.length bc, .int .i64 0, .int .i64 0] 183))
  have HI := Lib.hid hI
  have HFL := Lib.hid hFL
  have HG := Lib.hid hG
  have HEN := Lib.hid hEN
  have HCK := Lib.hid hCK
  have HJ1 := Lib.hid h1
  have HJ2 := Lib.hid h2
  have HJ3 := Lib.hid h3
  have HJ4 := Lib.hid h4
  clear hI hFL hG hEN hCK h1 h2 h3 h4
  go_enter Tryz.func105, Tryz.ntmps105
  go_upto_region 4 with fail
  generalize hw0 : (w.alloc _).alloc _ = w0 at *
  have HX := Lib.hid x1
  have HR := Lib.hid hr0
  have HB := Lib.hid hb1
  clear x0 hb0 hq0 hr0 hb1 x1 hw0 hv hl hlt
  go_upto_region 5 with (go_at_call 136; go_loud (refine (HI.out _ _ HR.out).mono ?_; rintro e w1 ⟨rfl, hr1, ho1⟩; have HR1 := Lib.hid hr1; have HX1 := Lib.hid (onlyHeap ho1 HX.out (by omega)); have HB1 := Lib.hid (onlyB HB.out ho1 (Nat.le_refl _) (by omega)); clear hr1 ho1))
  go_upto_region 6 with (go_at_call 72; go_loud (refine (HFL.out _).mono ?_; rintro e w2 ⟨rfl, hb2⟩; have HR2 := Lib.hid (HR1.out.below hb2); have HX2 := Lib.hid (heapB HX1.out hb2); have HB2 := Lib.hid (bel2M HB1.out hb2); clear hb2))
  have HH := Lib.hid (heap_alloc_new w2 (.cells (hasC s) 118))
  have HR2 := Lib.hid (HR2.out.below (alloc1B w2 (.cells (hasC s) 118)))
  have HX2 := Lib.hid (heapB HX2.out (alloc1B w2 (.cells (hasC s) 118)))
  have HB2 := Lib.hid (bel2M HB2.out (alloc1B w2 (.cells (hasC s) 118)))
  generalize hwn : w2.alloc _ = w3 at *
  clear hwn
  go_upto_region 7 with (first
    | (refine wpList_load_mid rfl 118 _ rfl w2.heap.size 0 rfl _ _ (heap_all HH.out) Tryz.underlying118 rfl (by kernel_rfl) ?_)
    | (go_at_call 137; go_loud (refine (HG.out _ _ HR2.out).mono ?_; rintro e w4 ⟨P, rfl, hk4, hr4, ho4⟩; have HK4 := Lib.hid hk4; have HR4 := Lib.hid hr4; have HL4 := Lib.hid HR2.out.lt; have HX4 := Lib.hid (onlyHeap ho4 HX2.out (by omega)); have HB4 := Lib.hid (onlyB HB2.out ho4 (Nat.le_refl _) (by omega)); have HS4 := Lib.hid ho4.size; clear hk4 hr4 ho4)))
  have HKP := Lib.hid (show KpB w3.heap.size w4 (w4.alloc (.cells (msC m P) 57)) from keep_alloc w4 _)
  have HM := Lib.hid (heap_alloc_new w4 (.cells (msC m P) 57))
  have HR5 := Lib.hid (HR4.out.below (alloc1B w4 (.cells (msC m P) 57)))
  have HX5 := Lib.hid (heapB HX4.out (alloc1B w4 (.cells (msC m P) 57)))
  have HB5 := Lib.hid (bel2M HB4.out (alloc1B w4 (.cells (msC m P) 57)))
  generalize hwn : w4.alloc _ = w5 at *
  clear hwn
  have HNE := Lib.hid (show w4.heap.size ≠ w.heap.size + 1 from by have := HS4.out; have := HL4.out; omega)
  have HZ3 := Lib.hid (show w.heap.size + 1 < w3.heap.size from HL4.out)
  go_upto_region 8 with (go_at_call 138; go_loud (refine (HEN.out _ _ HR5.out).mono ?_; rintro e w6 ⟨rfl, hr6, ho6⟩; have HR6 := Lib.hid hr6; have HX6 := Lib.hid (onlyHeap ho6 HX5.out (by omega)); have HM6 := Lib.hid (onlyHeap ho6 HM.out HNE.out); have HB6 := Lib.hid (onlyB HB5.out ho6 (Nat.le_refl _) (by omega)); have HKP := Lib.hid (keep_only HKP.out ho6 HZ3.out); clear hr6 ho6))
  have f2 := HR6.out.err
  cases ok
  · obtain rfl := HJ1.out rfl
    go_wp2_with (refine wpList_storeAll rfl 57 _ _ rfl w.heap.size _ _ rfl rfl HX6.out rfl (by kernel_rfl) (by kernel_rfl) ?_; intro w9 hz hh ho; have HYY := Lib.hid hh; have HO9 := Lib.hid ho; clear hz hh ho)
    refine bodyPost_ret (results_cell2 rfl _ _ w.heap.size 57 _ (0, 0) _ rfl HYY.out Tryz.underlying57 rfl (by kernel_rfl)) rfl ?_
    exact decN0 w w9 12 (onlyB HB6.out HO9.out (Nat.le_refl _) (Nat.le_refl _))
  · by_cases he : ee = 0
    · subst he
      have m0 := rowCell HM6.out 0 (.int .i64 m.k) rfl
      have m1 := rowCell HM6.out 1 (.int .i64 m.v) rfl
      have m2 := rowCell HM6.out 2 (.int .i64 m.s) rfl
      have m3 := rowCell HM6.out 3 (.int .i64 m.c) rfl
      have m4 := rowCell HM6.out 4 (.int .i64 m.t) rfl
      have m5 := rowCell HM6.out 5 (.string (strB m.d)) rfl
      have m6 := rowCell HM6.out 6 (.slice P.x.1 m.x.length P.x.2) rfl
      have m7 := rowCell HM6.out 7 (.int .i64 m.r.1) rfl
      have m8 := rowCell HM6.out 8 (.int .i64 m.r.2) rfl
      have m9 := rowCell HM6.out 9 (.slice P.b.1 m.b.length P.b.2) rfl
      have m10 := rowCell HM6.out 10 (.slice P.p.1 m.p.length P.p.2) rfl
      have m11 := rowCell HM6.out 11 (.slice P.q.1 m.q.length P.q.2) rfl
      cases ck
      · obtain rfl := HJ3.out rfl
        go_wp2_with (first
          | (go_at_call 71; go_loud (refine (HCK.out P _).mono ?_; rintro e w7 ⟨rfl, hb7⟩; have HX7 := Lib.hid (heapB HX6.out hb7); have HB7 := Lib.hid (bel2M HB6.out hb7); clear hb7; unfold yesE; rw [if_neg (show ¬ (false = true) by decide)]))
          | (refine wpList_storeAll rfl 57 _ _ rfl w.heap.size _ _ rfl rfl HX7.out rfl (by kernel_rfl) (by kernel_rfl) ?_; intro w9 hz hh ho; have HYY := Lib.hid hh; have HO9 := Lib.hid ho; clear hz hh ho))
        refine bodyPost_ret (results_cell2 rfl _ _ w.heap.size 57 _ (0, 0) _ rfl HYY.out Tryz.underlying57 rfl (by kernel_rfl)) rfl ?_
        exact decN0 w w9 12 (onlyB HB7.out HO9.out (Nat.le_refl _) (Nat.le_refl _))
      · obtain rfl := HJ4.out rfl rfl rfl
        go_wp2_with (first
          | (go_at_call 71; go_loud (refine (HCK.out P _).mono ?_; rintro e w7 ⟨rfl, hb7⟩; have HX7 := Lib.hid (heapB HX6.out hb7); have HM7 := Lib.hid (heapB HM6.out hb7); have HB7 := Lib.hid (bel2M HB6.out hb7); have HKP := Lib.hid (keep_below HKP.out hb7); clear hb7 m0 m1 m2 m3 m4 m5 m6 m7 m8 m9 m10 m11; unfold yesE; rw [if_pos rfl]))
          | (refine wpList_load_mid rfl 57 _ rfl w4.heap.size 0 rfl _ _ (heap_all HM7.out) Tryz.underlying57 rfl (by kernel_rfl) ?_)
          | (refine wpList_storeAll rfl 57 _ _ rfl w.heap.size _ _ rfl rfl HX7.out rfl (by kernel_rfl) (by kernel_rfl) ?_; intro w9 hz hh ho; have HYY := Lib.hid hh; have HO9 := Lib.hid ho; clear hz hh ho))
        refine bodyPost_ret (results_cell2 rfl _ _ w.heap.size 57 _ (0, 0) _ rfl HYY.out Tryz.underlying57 rfl (by kernel_rfl)) rfl ?_
        exact ⟨P, rfl, fun W hW => HK4.out W (kpb_to (keep_only HKP.out HO9.out (by have := HZ3.out; omega)) hW (by have := HZ3.out; omega)), onlyB HB7.out HO9.out (Nat.le_refl _) (Nat.le_refl _)⟩
    · have hne : (ee != 0) = true := by simpa using he
      obtain rfl := HJ2.out he
      clear he
      go_wp2_with (refine wpList_storeAll rfl 57 _ _ rfl w.heap.size _ _ rfl rfl HX6.out rfl (by kernel_rfl) (by kernel_rfl) ?_; intro w9 hz hh ho; have HYY := Lib.hid hh; have HO9 := Lib.hid ho; clear hz hh ho)
      refine bodyPost_ret (results_cell2 rfl _ _ w.heap.size 57 _ (0, 0) _ rfl HYY.out Tryz.underlying57 rfl (by kernel_rfl)) rfl ?_
      exact decN0 w w9 12 (onlyB HB6.out HO9.out (Nat.le_refl _) (Nat.le_refl _))

theorem then_eq {α β : Type} {G : Rdg α} {F : α → Rdg β} {y r1 : List UInt8} {e e1 : Int} {a : α} (h : G y e = (a, r1, e1)) : thenG G F y e = F a r1 e1 := by
  unfold thenG
  rw [h]
theorem read_then (B : Int → Rdg Msg) (hB : ∀ k, B k = bodyR k (shapeM k).1) : readR = thenG int8F B := by
  have : B = fun k => bodyR k (shapeM k).1 := funext hB
  rw [this]
  rfl
theorem dec_s1 {y : List UInt8} {k : Int} {r1 : List UInt8} {e1 : Int} {m : Msg} {r2 : List UInt8} {e2 : Int} (hi : int8F y 0 = (k, r1, e1)) (hb : bodyR k (shapeM k).1 r1 e1 = (m, r2, e2)) : readR y 0 = (m, r2, e2) := by
  obtain ⟨B, hB⟩ : ∃ B : Int → Rdg Msg, ∀ k, B k = bodyR k (shapeM k).1 := ⟨_, fun _ => rfl⟩
  rw [← hB] at hb
  rw [read_then B hB]
  exact (then_eq hi).trans hb
theorem dec_s2 {y : List UInt8} {m : Msg} {r2 : List UInt8} {e2 : Int} (hr : readR y 0 = (m, r2, e2)) : gotR y = (decide (endE r2 e2 = 0) && checkD m) := by
  unfold gotR
  rw [hr]
theorem dec_s3 {k : Int} {s : Shp} {r1 r2 : List UInt8} {e1 e2 : Int} {m : Msg} (hb : bodyR k s r1 e1 = (m, r2, e2)) (hl : r1.length ≤ 100000) : m.k = k ∧ (m.q = [] → SmD m) := by
  have hsm := body_sm 100000 k s r1 e1 hl
  rw [hb] at hsm
  obtain ⟨h1, h2, h3, h4, h5⟩ := hsm
  simp only at h1 h2 h3 h4 h5
  exact ⟨h5, fun hq => ⟨by omega, by omega, ⟨by omega, h3.2⟩, ⟨by omega, h4.2⟩, hq⟩⟩
theorem dec_s4 {m : Msg} {k : Int} (h : m.k = k) (h2 : (shapeM k).2 = false) : checkD m = false := by
  unfold checkD
  rw [h, h2, Bool.false_and]
theorem dec_step {y : List UInt8} {k : Int} {r1 : List UInt8} {e1 : Int} {m : Msg} {r2 : List UInt8} {e2 : Int} (hl : y.length ≤ 100000) (hi : int8F y 0 = (k, r1, e1)) (hb : bodyR k (shapeM k).1 r1 e1 = (m, r2, e2)) :
    readR y 0 = (m, r2, e2) ∧ m.k = k ∧ (m.q = [] → SmD m) ∧ ((shapeM k).2 = false → decR y = (msg0, 12)) ∧ (endE r2 e2 ≠ 0 → decR y = (msg0, 12)) ∧ (checkD m = false → decR y = (msg0, 12)) ∧ ((shapeM k).2 = true → endE r2 e2 = 0 → checkD m = true → decR y = (m, 0)) := by
  have hlen := int8F_lenG y 0
  rw [hi] at hlen
  have hr := dec_s1 hi hb
  have hsm := dec_s3 hb (Nat.le_trans hlen hl)
  have hng : ¬ 16777216 < y.length := by omega
  have hg := dec_s2 hr
  have hno : gotR y = false → decR y = (msg0, 12) := fun h => decR_2 hng (by rw [h]; exact Bool.false_ne_true)
  have hyes : gotR y = true → decR y = ((readR y 0).1, 0) := fun h => decR_1 hng h
  rw [hr] at hyes
  generalize gotR y = gt at *
  generalize endE r2 e2 = ee at *
  refine ⟨hr, hsm.1, hsm.2, fun h => hno ?_, fun h => hno ?_, fun h => hno ?_, fun _ h2 h3 => ?_⟩
  · rw [hg, dec_s4 hsm.1 h, Bool.and_false]
  · rw [hg, decide_eq_false h, Bool.false_and]
  · rw [hg, h, Bool.and_false]
  · exact hyes (by rw [hg, decide_eq_true h2, h3]; rfl)
theorem rDecode_any (v : Value) (y : List UInt8) (w : World) (hv : Bs w v y) (hl : y.length ≤ 100000) (hq : (readR y 0).1.q = []) : Calls Tryz.prog 105 #[v] w (DecN (decD y) w) := by
  rcases hi : int8F y 0 with ⟨k, r1, e1⟩
  rcases hb : bodyR k (shapeM k).1 r1 e1 with ⟨m, r2, e2⟩
  obtain ⟨hr, hk, hsd, h1, h2, h3, h4⟩ := dec_step hl hi hb
  rw [hr] at hq
  have hlen := int8F_lenG y 0
  rw [hi] at hlen
  rw [← decR_eq hl]
  refine rDecode_of v y w k r1 e1 (shapeM k).1 (shapeM k).2 m r2 e2 (endE r2 e2) (checkD m) (decR y) hv hl (fun g W hr => ?_) (fun W => rFields_any k W) (fun g W hr => ?_) (fun g W hr => rfEnd_any g r2 e2 W hr) (fun P W => rCheckD_any m P W (hsd hq)) h1 h2 h3 h4
  · have := rInt8_any g y 0 W hr
    rwa [hi] at this
  · have := rGetM_any g k (shapeM k).1 (shape_ct k) r1 e1 W hr (by unfold Far; simp only at hlen; omega) (by rw [hb]; exact hq)
    rwa [hb] at this

def openD (x : Int) (d : Msg × Int) : Msg × Int := if x = 0 then (if d.2 = 0 then (d.1, 0) else (msg0, 120)) else (msg0, x)
set_option maxHeartbeats 4000000 in
theorem rOpen_of (pa : Value) (e : Int × List UInt8) (bv : Value) (x : Int) (d : Msg × Int) (w : World) (hv : Bs w bv e.2)
    (hC : ∀ W, Below w.heap.size w W → Calls Tryz.prog 104 #[pa, agE e.1 bv] W (Ans (.int .i64 x) W))
    (hD : x = 0 → ∀ W, Below w.heap.size w W → Calls Tryz.prog 105 #[bv] W (DecN d W)) :
    Calls Tryz.prog 57 #[pa, agE e.1 bv] w (DecN (openD x d) w) := by
  obtain ⟨BA, bc0, rfl, -⟩ := hv.open
  have HC := Lib.hid hC
  clear hC hv
  obtain ⟨x1, x2, x3⟩ := box2B w #[.int .i64 e.1, .slice BA e.2.length bc0] msH 40 57
  by_cases h0 : x = 0
  · subst h0
    have HD := Lib.hid (hD rfl)
    clear hD
    obtain ⟨m, y⟩ := d
    by_cases h1 : y = 0
    · subst h1
      rw [show openD 0 (m, 0) = (m, 0) from rfl]
      go_enter Tryz.func57, Tryz.ntmps57
      go_upto_region 1 with fail
      generalize hw0 : (w.alloc _).alloc _ = w0 at *
      have HR := Lib.hid x1
      have HX := Lib.hid x2
      have HB := Lib.hid x3
      clear x1 x2 x3 hw0
      go_wp2_with (first
        | (refine wpList_load_mid rfl 40 _ rfl w.heap.size 0 rfl _ _ (heap_all HR.out) Tryz.underlying40 rfl (by kernel_rfl) ?_)
        | (go_at_call 104; refine (HC.out _ HB.out).mono ?_; rintro e w1 ⟨rfl, hb⟩; have HR := Lib.hid (heapB HR.out hb); have HX := Lib.hid (heapB HX.out hb); have r0 := rowCell HR.out 0 (.int .i64 e.1) rfl; have r1 := rowCell HR.out 1 (.slice BA e.2.length bc0) rfl; have HB := Lib.hid (bel2M HB.out hb); clear hb)
        | (go_at_call 105; go_loud (refine (HD.out _ HB.out).mono ?_; rintro e w2 ⟨P, rfl, hk, hb⟩; have HB1 := Lib.hid HB.out; have HK := Lib.hid hk; have HP := Lib.hid (keep_alloc (B := w1.heap.size) w2 (.cells (msC m P) 57)); have HZ1 := Lib.hid (Array.getElem?_eq_some_iff.1 HX.out).1; have HR := Lib.hid (heapB HR.out hb); have HX := Lib.hid (heapB HX.out hb); have HB2 := Lib.hid (bel2M HB.out hb); have HBX := Lib.hid (heap_alloc_new w2 (.cells (msC m P) 57)); have HR := Lib.hid (heapB HR.out (alloc1B w2 (.cells (msC m P) 57))); have HX := Lib.hid (heapB HX.out (alloc1B w2 (.cells (msC m P) 57))); have HB := Lib.hid (bel2M HB2.out (alloc1B w2 (.cells (msC m P) 57))); have r0 := rowCell HR.out 0 (.int .i64 e.1) rfl; have r1 := rowCell HR.out 1 (.slice BA e.2.length bc0) rfl; clear hb hk))
        | (refine wpList_load_mid rfl 57 _ rfl w2.heap.size 0 rfl _ _ (heap_all HBX.out) Tryz.underlying57 rfl (by kernel_rfl) ?_)
        | (refine wpList_storeAll rfl 57 _ _ rfl (w.heap.size + 1) _ _ rfl rfl HX.out rfl (by kernel_rfl) (by kernel_rfl) ?_; intro w9 hz hh ho; have HY := Lib.hid hh; have HB9 := Lib.hid (onlyBelow HB.out ho (by omega) (Nat.le_refl _)); have HO9 := Lib.hid ho; clear hz hh ho))
      refine bodyPost_ret (results_cell2 rfl _ _ (w.heap.size + 1) 57 _ (0, 0) _ rfl HY.out Tryz.underlying57 rfl (by kernel_rfl)) rfl ?_
      exact ⟨P, rfl, fun W hW => HK.out W (kpb_to (keep_only HP.out HO9.out HZ1.out) hW HB1.out.size), HB9.out⟩
    · rw [show openD 0 (m, y) = (msg0, 120) from by unfold openD; rw [if_pos rfl, if_neg h1]]
      have hq : (y != 0) = true := by simpa using h1
      clear h1
      go_enter Tryz.func57, Tryz.ntmps57
      go_upto_region 1 with fail
      generalize hw0 : (w.alloc _).alloc _ = w0 at *
      have HR := Lib.hid x1
      have HX := Lib.hid x2
      have HB := Lib.hid x3
      clear x1 x2 x3 hw0
      go_wp2_with (first
        | (refine wpList_load_mid rfl 40 _ rfl w.heap.size 0 rfl _ _ (heap_all HR.out) Tryz.underlying40 rfl (by kernel_rfl) ?_)
        | (go_at_call 104; refine (HC.out _ HB.out).mono ?_; rintro e w1 ⟨rfl, hb⟩; have HR := Lib.hid (heapB HR.out hb); have HX := Lib.hid (heapB HX.out hb); have r0 := rowCell HR.out 0 (.int .i64 e.1) rfl; have r1 := rowCell HR.out 1 (.slice BA e.2.length bc0) rfl; have HB := Lib.hid (bel2M HB.out hb); clear hb)
        | (go_at_call 105; go_loud (refine (HD.out _ HB.out).mono ?_; rintro e w2 ⟨P, rfl, hk, hb⟩; have HB1 := Lib.hid HB.out; have HK := Lib.hid hk; have HP := Lib.hid (keep_alloc (B := w1.heap.size) w2 (.cells (msC m P) 57)); have HZ1 := Lib.hid (Array.getElem?_eq_some_iff.1 HX.out).1; have HR := Lib.hid (heapB HR.out hb); have HX := Lib.hid (heapB HX.out hb); have HB2 := Lib.hid (bel2M HB.out hb); have HBX := Lib.hid (heap_alloc_new w2 (.cells (msC m P) 57)); have HR := Lib.hid (heapB HR.out (alloc1B w2 (.cells (msC m P) 57))); have HX := Lib.hid (heapB HX.out (alloc1B w2 (.cells (msC m P) 57))); have HB := Lib.hid (bel2M HB2.out (alloc1B w2 (.cells (msC m P) 57))); have r0 := rowCell HR.out 0 (.int .i64 e.1) rfl; have r1 := rowCell HR.out 1 (.slice BA e.2.length bc0) rfl; clear hb hk))
        | (refine wpList_storeAll rfl 57 _ _ rfl (w.heap.size + 1) _ _ rfl rfl HX.out rfl (by kernel_rfl) (by kernel_rfl) ?_; intro w9 hz hh ho; have HY := Lib.hid hh; have HB9 := Lib.hid (onlyBelow HB.out ho (by omega) (Nat.le_refl _)); have HO9 := Lib.hid ho; clear hz hh ho))
      refine bodyPost_ret (results_cell2 rfl _ _ (w.heap.size + 1) 57 _ (0, 0) _ rfl HY.out Tryz.underlying57 rfl (by kernel_rfl)) rfl ?_
      exact decN0 w _ 120 HB9.out
  · rw [show openD x d = (msg0, x) from if_neg h0]
    have hq : (x != 0) = true := by simpa using h0
    clear h0 hD
    go_enter Tryz.func57, Tryz.ntmps57
    go_upto_region 1 with fail
    generalize hw0 : (w.alloc _).alloc _ = w0 at *
    have HR := Lib.hid x1
    have HX := Lib.hid x2
    have HB := Lib.hid x3
    clear x1 x2 x3 hw0
    go_wp2_with (first
      | (refine wpList_load_mid rfl 40 _ rfl w.heap.size 0 rfl _ _ (heap_all HR.out) Tryz.underlying40 rfl (by kernel_rfl) ?_)
      | (go_at_call 104; refine (HC.out _ HB.out).mono ?_; rintro e w1 ⟨rfl, hb⟩; have HR := Lib.hid (heapB HR.out hb); have HX := Lib.hid (heapB HX.out hb); have r0 := rowCell HR.out 0 (.int .i64 e.1) rfl; have r1 := rowCell HR.out 1 (.slice BA e.2.length bc0) rfl; have HB := Lib.hid (bel2M HB.out hb); clear hb)
      | (refine wpList_storeAll rfl 57 _ _ rfl (w.heap.size + 1) _ _ rfl rfl HX.out rfl (by kernel_rfl) (by kernel_rfl) ?_; intro w9 hz hh ho; have HY := Lib.hid hh; have HB9 := Lib.hid (onlyBelow HB.out ho (by omega) (Nat.le_refl _)); have HO9 := Lib.hid ho; clear hz hh ho))
    refine bodyPost_ret (results_cell2 rfl _ _ (w.heap.size + 1) 57 _ (0, 0) _ rfl HY.out Tryz.underlying57 rfl (by kernel_rfl)) rfl ?_
    exact decN0 w _ x HB9.out
def reqD (o : Msg × Int) (s : Int) : Rqt := if o.2 = 0 then (if o.1.k = 1 then (if o.1.c = s then ((o.1.c, o.1.t, o.1.x), 0) else ((0, 0, []), 120)) else ((0, 0, []), 120)) else ((0, 0, []), o.2)
set_option maxHeartbeats 4000000 in
theorem rReq_of (pa : Value) (e : Int × List UInt8) (bv : Value) (o : Msg × Int) (w : World) (hv : Bs w bv e.2)
    (hO : ∀ W, Below w.heap.size w W → Calls Tryz.prog 57 #[pa, agE e.1 bv] W (DecN o W)) :
    Calls Tryz.prog 18 #[pa, agE e.1 bv] w (ReqN (reqD o e.1) w) := by
  obtain ⟨BA, bc0, rfl, -⟩ := hv.open
  have HO := Lib.hid hO
  clear hO hv
  obtain ⟨x1, x2, x3⟩ := box2B w #[.int .i64 e.1, .slice BA e.2.length bc0] #[.int .i64 0, .int .i64 0, .slice none 0 0] 40 35
  obtain ⟨m, y⟩ := o
  by_cases h0 : y = 0
  · subst h0
    by_cases h1 : m.k = 1
    · have hk1 : (m.k != 1) = false := by simpa using h1
      by_cases h2 : m.c = e.1
      · rw [show reqD (m, 0) e.1 = ((m.c, m.t, m.x), 0) from by unfold reqD; rw [if_pos rfl, if_pos h1, if_pos h2]]
        have hq : (m.c != e.1) = false := by simpa using h2
        clear h1 h2
        go_enter Tryz.func18, Tryz.ntmps18
        go_upto_region 1 with fail
        generalize hw0 : (w.alloc _).alloc _ = w0 at *
        have HR := Lib.hid x1
        have HX := Lib.hid x2
        have HB := Lib.hid x3
        clear x1 x2 x3 hw0
        go_wp2_with (first
          | (refine wpList_load_mid rfl 40 _ rfl w.heap.size 0 rfl _ _ (heap_all HR.out) Tryz.underlying40 rfl (by kernel_rfl) ?_)
          | (go_at_call 57; go_loud (refine (HO.out _ HB.out).mono ?_; rintro e w2 ⟨P, rfl, hk, hb⟩; have HB1 := Lib.hid HB.out; have HK := Lib.hid hk; have HP := Lib.hid (keep_alloc (B := w0.heap.size) w2 (.cells (msC m P) 57)); have HZ1 := Lib.hid (Array.getElem?_eq_some_iff.1 HX.out).1; have HR := Lib.hid (heapB HR.out hb); have HX := Lib.hid (heapB HX.out hb); have HB2 := Lib.hid (bel2M HB.out hb); have HBX := Lib.hid (heap_alloc_new w2 (.cells (msC m P) 57)); have HR := Lib.hid (heapB HR.out (alloc1B w2 (.cells (msC m P) 57))); have HX := Lib.hid (heapB HX.out (alloc1B w2 (.cells (msC m P) 57))); have HB := Lib.hid (bel2M HB2.out (alloc1B w2 (.cells (msC m P) 57))); have r0 := rowCell HR.out 0 (.int .i64 e.1) rfl; have r1 := rowCell HR.out 1 (.slice BA e.2.length bc0) rfl; have m0 := rowCell HBX.out 0 (.int .i64 m.k) rfl; have m3 := rowCell HBX.out 3 (.int .i64 m.c) rfl; have m4 := rowCell HBX.out 4 (.int .i64 m.t) rfl; have m6 := rowCell HBX.out 6 (.slice P.x.1 m.x.length P.x.2) rfl; clear hb hk))
          | (refine wpList_storeAll rfl 35 _ _ rfl (w.heap.size + 1) _ _ rfl rfl HX.out rfl (by kernel_rfl) (by kernel_rfl) ?_; intro w9 hz hh ho; have HY := Lib.hid hh; have HB9 := Lib.hid (onlyBelow HB.out ho (by omega) (Nat.le_refl _)); have HO9 := Lib.hid ho; clear hz hh ho))
        refine bodyPost_ret (results_cell2 rfl _ _ (w.heap.size + 1) 35 _ (0, 0) _ rfl HY.out Tryz.underlying35 rfl (by kernel_rfl)) rfl ?_
        exact ⟨P.x.1, P.x.2, rfl, fun W hW => (HK.out W (kpb_to (keep_only HP.out HO9.out HZ1.out) hW HB1.out.size)).x, HB9.out⟩
      · rw [show reqD (m, 0) e.1 = ((0, 0, []), 120) from by unfold reqD; rw [if_pos rfl, if_pos h1, if_neg h2]]
        have hq : (m.c != e.1) = true := by simpa using h2
        clear h1 h2
        go_enter Tryz.func18, Tryz.ntmps18
        go_upto_region 1 with fail
        generalize hw0 : (w.alloc _).alloc _ = w0 at *
        have HR := Lib.hid x1
        have HX := Lib.hid x2
        have HB := Lib.hid x3
        clear x1 x2 x3 hw0
        go_wp2_with (first
          | (refine wpList_load_mid rfl 40 _ rfl w.heap.size 0 rfl _ _ (heap_all HR.out) Tryz.underlying40 rfl (by kernel_rfl) ?_)
          | (go_at_call 57; go_loud (refine (HO.out _ HB.out).mono ?_; rintro e w2 ⟨P, rfl, hk, hb⟩; have HB1 := Lib.hid HB.out; have HK := Lib.hid hk; have HP := Lib.hid (keep_alloc (B := w0.heap.size) w2 (.cells (msC m P) 57)); have HZ1 := Lib.hid (Array.getElem?_eq_some_iff.1 HX.out).1; have HR := Lib.hid (heapB HR.out hb); have HX := Lib.hid (heapB HX.out hb); have HB2 := Lib.hid (bel2M HB.out hb); have HBX := Lib.hid (heap_alloc_new w2 (.cells (msC m P) 57)); have HR := Lib.hid (heapB HR.out (alloc1B w2 (.cells (msC m P) 57))); have HX := Lib.hid (heapB HX.out (alloc1B w2 (.cells (msC m P) 57))); have HB := Lib.hid (bel2M HB2.out (alloc1B w2 (.cells (msC m P) 57))); have r0 := rowCell HR.out 0 (.int .i64 e.1) rfl; have r1 := rowCell HR.out 1 (.slice BA e.2.length bc0) rfl; have m0 := rowCell HBX.out 0 (.int .i64 m.k) rfl; have m3 := rowCell HBX.out 3 (.int .i64 m.c) rfl; have m4 := rowCell HBX.out 4 (.int .i64 m.t) rfl; have m6 := rowCell HBX.out 6 (.slice P.x.1 m.x.length P.x.2) rfl; clear hb hk))
          | (refine wpList_storeAll rfl 35 _ _ rfl (w.heap.size + 1) _ _ rfl rfl HX.out rfl (by kernel_rfl) (by kernel_rfl) ?_; intro w9 hz hh ho; have HY := Lib.hid hh; have HB9 := Lib.hid (onlyBelow HB.out ho (by omega) (Nat.le_refl _)); have HO9 := Lib.hid ho; clear hz hh ho))
        refine bodyPost_ret (results_cell2 rfl _ _ (w.heap.size + 1) 35 _ (0, 0) _ rfl HY.out Tryz.underlying35 rfl (by kernel_rfl)) rfl ?_
        exact reqN0 w _ 120 HB9.out
    · rw [show reqD (m, 0) e.1 = ((0, 0, []), 120) from by unfold reqD; rw [if_pos rfl, if_neg h1]]
      have hk1 : (m.k != 1) = true := by simpa using h1
      clear h1
      go_enter Tryz.func18, Tryz.ntmps18
      go_upto_region 1 with fail
      generalize hw0 : (w.alloc _).alloc _ = w0 at *
      have HR := Lib.hid x1
      have HX := Lib.hid x2
      have HB := Lib.hid x3
      clear x1 x2 x3 hw0
      go_wp2_with (first
        | (refine wpList_load_mid rfl 40 _ rfl w.heap.size 0 rfl _ _ (heap_all HR.out) Tryz.underlying40 rfl (by kernel_rfl) ?_)
        | (go_at_call 57; go_loud (refine (HO.out _ HB.out).mono ?_; rintro e w2 ⟨P, rfl, hk, hb⟩; have HB1 := Lib.hid HB.out; have HK := Lib.hid hk; have HP := Lib.hid (keep_alloc (B := w0.heap.size) w2 (.cells (msC m P) 57)); have HZ1 := Lib.hid (Array.getElem?_eq_some_iff.1 HX.out).1; have HR := Lib.hid (heapB HR.out hb); have HX := Lib.hid (heapB HX.out hb); have HB2 := Lib.hid (bel2M HB.out hb); have HBX := Lib.hid (heap_alloc_new w2 (.cells (msC m P) 57)); have HR := Lib.hid (heapB HR.out (alloc1B w2 (.cells (msC m P) 57))); have HX := Lib.hid (heapB HX.out (alloc1B w2 (.cells (msC m P) 57))); have HB := Lib.hid (bel2M HB2.out (alloc1B w2 (.cells (msC m P) 57))); have r0 := rowCell HR.out 0 (.int .i64 e.1) rfl; have r1 := rowCell HR.out 1 (.slice BA e.2.length bc0) rfl; have m0 := rowCell HBX.out 0 (.int .i64 m.k) rfl; have m3 := rowCell HBX.out 3 (.int .i64 m.c) rfl; have m4 := rowCell HBX.out 4 (.int .i64 m.t) rfl; have m6 := rowCell HBX.out 6 (.slice P.x.1 m.x.length P.x.2) rfl; clear hb hk))
        | (refine wpList_storeAll rfl 35 _ _ rfl (w.heap.size + 1) _ _ rfl rfl HX.out rfl (by kernel_rfl) (by kernel_rfl) ?_; intro w9 hz hh ho; have HY := Lib.hid hh; have HB9 := Lib.hid (onlyBelow HB.out ho (by omega) (Nat.le_refl _)); have HO9 := Lib.hid ho; clear hz hh ho))
      refine bodyPost_ret (results_cell2 rfl _ _ (w.heap.size + 1) 35 _ (0, 0) _ rfl HY.out Tryz.underlying35 rfl (by kernel_rfl)) rfl ?_
      exact reqN0 w _ 120 HB9.out
  · rw [show reqD (m, y) e.1 = ((0, 0, []), y) from if_neg h0]
    have hq : (y != 0) = true := by simpa using h0
    clear h0
    go_enter Tryz.func18, Tryz.ntmps18
    go_upto_region 1 with fail
    generalize hw0 : (w.alloc _).alloc _ = w0 at *
    have HR := Lib.hid x1
    have HX := Lib.hid x2
    have HB := Lib.hid x3
    clear x1 x2 x3 hw0
    go_wp2_with (first
      | (refine wpList_load_mid rfl 40 _ rfl w.heap.size 0 rfl _ _ (heap_all HR.out) Tryz.underlying40 rfl (by kernel_rfl) ?_)
      | (go_at_call 57; go_loud (refine (HO.out _ HB.out).mono ?_; rintro e w2 ⟨P, rfl, hk, hb⟩; have HB1 := Lib.hid HB.out; have HK := Lib.hid hk; have HP := Lib.hid (keep_alloc (B := w0.heap.size) w2 (.cells (msC m P) 57)); have HZ1 := Lib.hid (Array.getElem?_eq_some_iff.1 HX.out).1; have HR := Lib.hid (heapB HR.out hb); have HX := Lib.hid (heapB HX.out hb); have HB2 := Lib.hid (bel2M HB.out hb); have HBX := Lib.hid (heap_alloc_new w2 (.cells (msC m P) 57)); have HR := Lib.hid (heapB HR.out (alloc1B w2 (.cells (msC m P) 57))); have HX := Lib.hid (heapB HX.out (alloc1B w2 (.cells (msC m P) 57))); have HB := Lib.hid (bel2M HB2.out (alloc1B w2 (.cells (msC m P) 57))); have r0 := rowCell HR.out 0 (.int .i64 e.1) rfl; have r1 := rowCell HR.out 1 (.slice BA e.2.length bc0) rfl; have m0 := rowCell HBX.out 0 (.int .i64 m.k) rfl; have m3 := rowCell HBX.out 3 (.int .i64 m.c) rfl; have m4 := rowCell HBX.out 4 (.int .i64 m.t) rfl; have m6 := rowCell HBX.out 6 (.slice P.x.1 m.x.length P.x.2) rfl; clear hb hk))
      | (refine wpList_storeAll rfl 35 _ _ rfl (w.heap.size + 1) _ _ rfl rfl HX.out rfl (by kernel_rfl) (by kernel_rfl) ?_; intro w9 hz hh ho; have HY := Lib.hid hh; have HB9 := Lib.hid (onlyBelow HB.out ho (by omega) (Nat.le_refl _)); have HO9 := Lib.hid ho; clear hz hh ho))
    refine bodyPost_ret (results_cell2 rfl _ _ (w.heap.size + 1) 35 _ (0, 0) _ rfl HY.out Tryz.underlying35 rfl (by kernel_rfl)) rfl ?_
    exact reqN0 w _ y HB9.out
def voteD (o : Msg × Int) (kind : Int) (rep : Bool) : Msg × Int := if o.2 = 0 then (if o.1.k = kind then (if rep = true then (o.1, 0) else (msg0, 30)) else (msg0, 120)) else (msg0, o.2)
set_option maxHeartbeats 4000000 in
theorem rVote3_of (pa : Value) (e : Int × List UInt8) (bv : Value) (o : Msg × Int) (rep : Bool) (w : World) (hv : Bs w bv e.2)
    (hO : ∀ W, Below w.heap.size w W → Calls Tryz.prog 57 #[pa, agE e.1 bv] W (DecN o W))
    (hR : ∀ W, Below w.heap.size w W → Calls Tryz.prog 109 #[pa, .int .i64 e.1] W (Says (.bool rep) W)) :
    Calls Tryz.prog 69 #[pa, agE e.1 bv, .int .i64 3] w (DecN (voteD o 3 rep) w) := by
  obtain ⟨BA, bc0, rfl, -⟩ := hv.open
  have HO := Lib.hid hO
  have HRP := Lib.hid hR
  clear hO hv hR
  obtain ⟨x1, x2, x3⟩ := box2B w #[.int .i64 e.1, .slice BA e.2.length bc0] msH 40 57
  obtain ⟨m, y⟩ := o
  by_cases h0 : y = 0
  · subst h0
    by_cases h1 : m.k = 3
    · have hk1 : (m.k != 3) = false := by simpa using h1
      cases rep
      · rw [show voteD (m, 0) 3 false = (msg0, 30) from by unfold voteD; rw [if_pos rfl, if_pos h1, if_neg (by decide)]]
        clear h1
        go_enter Tryz.func69, Tryz.ntmps69
        go_upto_region 1 with fail
        generalize hw0 : (w.alloc _).alloc _ = w0 at *
        have HR := Lib.hid x1
        have HX := Lib.hid x2
        have HB := Lib.hid x3
        clear x1 x2 x3 hw0
        go_wp2_with (first
          | (refine wpList_load_mid rfl 40 _ rfl w.heap.size 0 rfl _ _ (heap_all HR.out) Tryz.underlying40 rfl (by kernel_rfl) ?_)
          | (go_at_call 57; go_loud (refine (HO.out _ HB.out).mono ?_; rintro e w2 ⟨P, rfl, hk, hb⟩; have HB1 := Lib.hid HB.out; have HK := Lib.hid hk; have HP := Lib.hid (keep_alloc (B := w0.heap.size) w2 (.cells (msC m P) 57)); have HZ1 := Lib.hid (Array.getElem?_eq_some_iff.1 HX.out).1; have HR := Lib.hid (heapB HR.out hb); have HX := Lib.hid (heapB HX.out hb); have HB2 := Lib.hid (bel2M HB.out hb); have HBX := Lib.hid (heap_alloc_new w2 (.cells (msC m P) 57)); have HR := Lib.hid (heapB HR.out (alloc1B w2 (.cells (msC m P) 57))); have HX := Lib.hid (heapB HX.out (alloc1B w2 (.cells (msC m P) 57))); have HB := Lib.hid (bel2M HB2.out (alloc1B w2 (.cells (msC m P) 57))); have r0 := rowCell HR.out 0 (.int .i64 e.1) rfl; have r1 := rowCell HR.out 1 (.slice BA e.2.length bc0) rfl; have m0 := rowCell HBX.out 0 (.int .i64 m.k) rfl; clear hb hk))
          | (go_at_call 109; refine (HRP.out _ HB.out).mono ?_; rintro e w6 ⟨rfl, hww⟩; rw [hww]; clear hww w6)
          | (refine wpList_storeAll rfl 57 _ _ rfl (w.heap.size + 1) _ _ rfl rfl HX.out rfl (by kernel_rfl) (by kernel_rfl) ?_; intro w9 hz hh ho; have HY := Lib.hid hh; have HB9 := Lib.hid (onlyBelow HB.out ho (by omega) (Nat.le_refl _)); have HO9 := Lib.hid ho; clear hz hh ho))
        refine bodyPost_ret (results_cell2 rfl _ _ (w.heap.size + 1) 57 _ (0, 0) _ rfl HY.out Tryz.underlying57 rfl (by kernel_rfl)) rfl ?_
        exact decN0 w _ 30 HB9.out
      · rw [show voteD (m, 0) 3 true = (m, 0) from by unfold voteD; rw [if_pos rfl, if_pos h1, if_pos rfl]]
        clear h1
        go_enter Tryz.func69, Tryz.ntmps69
        go_upto_region 1 with fail
        generalize hw0 : (w.alloc _).alloc _ = w0 at *
        have HR := Lib.hid x1
        have HX := Lib.hid x2
        have HB := Lib.hid x3
        clear x1 x2 x3 hw0
        go_wp2_with (first
          | (refine wpList_load_mid rfl 40 _ rfl w.heap.size 0 rfl _ _ (heap_all HR.out) Tryz.underlying40 rfl (by kernel_rfl) ?_)
          | (go_at_call 57; go_loud (refine (HO.out _ HB.out).mono ?_; rintro e w2 ⟨P, rfl, hk, hb⟩; have HB1 := Lib.hid HB.out; have HK := Lib.hid hk; have HP := Lib.hid (keep_alloc (B := w0.heap.size) w2 (.cells (msC m P) 57)); have HZ1 := Lib.hid (Array.getElem?_eq_some_iff.1 HX.out).1; have HR := Lib.hid (heapB HR.out hb); have HX := Lib.hid (heapB HX.out hb); have HB2 := Lib.hid (bel2M HB.out hb); have HBX := Lib.hid (heap_alloc_new w2 (.cells (msC m P) 57)); have HR := Lib.hid (heapB HR.out (alloc1B w2 (.cells (msC m P) 57))); have HX := Lib.hid (heapB HX.out (alloc1B w2 (.cells (msC m P) 57))); have HB := Lib.hid (bel2M HB2.out (alloc1B w2 (.cells (msC m P) 57))); have r0 := rowCell HR.out 0 (.int .i64 e.1) rfl; have r1 := rowCell HR.out 1 (.slice BA e.2.length bc0) rfl; have m0 := rowCell HBX.out 0 (.int .i64 m.k) rfl; clear hb hk))
          | (go_at_call 109; refine (HRP.out _ HB.out).mono ?_; rintro e w6 ⟨rfl, hww⟩; rw [hww]; clear hww w6)
          | (refine wpList_load_mid rfl 57 _ rfl w2.heap.size 0 rfl _ _ (heap_all HBX.out) Tryz.underlying57 rfl (by kernel_rfl) ?_)
          | (refine wpList_storeAll rfl 57 _ _ rfl (w.heap.size + 1) _ _ rfl rfl HX.out rfl (by kernel_rfl) (by kernel_rfl) ?_; intro w9 hz hh ho; have HY := Lib.hid hh; have HB9 := Lib.hid (onlyBelow HB.out ho (by omega) (Nat.le_refl _)); have HO9 := Lib.hid ho; clear hz hh ho))
        refine bodyPost_ret (results_cell2 rfl _ _ (w.heap.size + 1) 57 _ (0, 0) _ rfl HY.out Tryz.underlying57 rfl (by kernel_rfl)) rfl ?_
        exact ⟨P, rfl, fun W hW => HK.out W (kpb_to (keep_only HP.out HO9.out HZ1.out) hW HB1.out.size), HB9.out⟩
    · rw [show voteD (m, 0) 3 rep = (msg0, 120) from by unfold voteD; rw [if_pos rfl, if_neg h1]]
      have hk1 : (m.k != 3) = true := by simpa using h1
      clear h1
      go_enter Tryz.func69, Tryz.ntmps69
      go_upto_region 1 with fail
      generalize hw0 : (w.alloc _).alloc _ = w0 at *
      have HR := Lib.hid x1
      have HX := Lib.hid x2
      have HB := Lib.hid x3
      clear x1 x2 x3 hw0
      go_wp2_with (first
        | (refine wpList_load_mid rfl 40 _ rfl w.heap.size 0 rfl _ _ (heap_all HR.out) Tryz.underlying40 rfl (by kernel_rfl) ?_)
        | (go_at_call 57; go_loud (refine (HO.out _ HB.out).mono ?_; rintro e w2 ⟨P, rfl, hk, hb⟩; have HB1 := Lib.hid HB.out; have HK := Lib.hid hk; have HP := Lib.hid (keep_alloc (B := w0.heap.size) w2 (.cells (msC m P) 57)); have HZ1 := Lib.hid (Array.getElem?_eq_some_iff.1 HX.out).1; have HR := Lib.hid (heapB HR.out hb); have HX := Lib.hid (heapB HX.out hb); have HB2 := Lib.hid (bel2M HB.out hb); have HBX := Lib.hid (heap_alloc_new w2 (.cells (msC m P) 57)); have HR := Lib.hid (heapB HR.out (alloc1B w2 (.cells (msC m P) 57))); have HX := Lib.hid (heapB HX.out (alloc1B w2 (.cells (msC m P) 57))); have HB := Lib.hid (bel2M HB2.out (alloc1B w2 (.cells (msC m P) 57))); have r0 := rowCell HR.out 0 (.int .i64 e.1) rfl; have r1 := rowCell HR.out 1 (.slice BA e.2.length bc0) rfl; have m0 := rowCell HBX.out 0 (.int .i64 m.k) rfl; clear hb hk))
        | (refine wpList_storeAll rfl 57 _ _ rfl (w.heap.size + 1) _ _ rfl rfl HX.out rfl (by kernel_rfl) (by kernel_rfl) ?_; intro w9 hz hh ho; have HY := Lib.hid hh; have HB9 := Lib.hid (onlyBelow HB.out ho (by omega) (Nat.le_refl _)); have HO9 := Lib.hid ho; clear hz hh ho))
      refine bodyPost_ret (results_cell2 rfl _ _ (w.heap.size + 1) 57 _ (0, 0) _ rfl HY.out Tryz.underlying57 rfl (by kernel_rfl)) rfl ?_
      exact decN0 w _ 120 HB9.out
  · rw [show voteD (m, y) 3 rep = (msg0, y) from if_neg h0]
    have hq : (y != 0) = true := by simpa using h0
    clear h0
    go_enter Tryz.func69, Tryz.ntmps69
    go_upto_region 1 with fail
    generalize hw0 : (w.alloc _).alloc _ = w0 at *
    have HR := Lib.hid x1
    have HX := Lib.hid x2
    have HB := Lib.hid x3
    clear x1 x2 x3 hw0
    go_wp2_with (first
      | (refine wpList_load_mid rfl 40 _ rfl w.heap.size 0 rfl _ _ (heap_all HR.out) Tryz.underlying40 rfl (by kernel_rfl) ?_)
      | (go_at_call 57; go_loud (refine (HO.out _ HB.out).mono ?_; rintro e w2 ⟨P, rfl, hk, hb⟩; have HB1 := Lib.hid HB.out; have HK := Lib.hid hk; have HP := Lib.hid (keep_alloc (B := w0.heap.size) w2 (.cells (msC m P) 57)); have HZ1 := Lib.hid (Array.getElem?_eq_some_iff.1 HX.out).1; have HR := Lib.hid (heapB HR.out hb); have HX := Lib.hid (heapB HX.out hb); have HB2 := Lib.hid (bel2M HB.out hb); have HBX := Lib.hid (heap_alloc_new w2 (.cells (msC m P) 57)); have HR := Lib.hid (heapB HR.out (alloc1B w2 (.cells (msC m P) 57))); have HX := Lib.hid (heapB HX.out (alloc1B w2 (.cells (msC m P) 57))); have HB := Lib.hid (bel2M HB2.out (alloc1B w2 (.cells (msC m P) 57))); have r0 := rowCell HR.out 0 (.int .i64 e.1) rfl; have r1 := rowCell HR.out 1 (.slice BA e.2.length bc0) rfl; have m0 := rowCell HBX.out 0 (.int .i64 m.k) rfl; clear hb hk))
      | (refine wpList_storeAll rfl 57 _ _ rfl (w.heap.size + 1) _ _ rfl rfl HX.out rfl (by kernel_rfl) (by kernel_rfl) ?_; intro w9 hz hh ho; have HY := Lib.hid hh; have HB9 := Lib.hid (onlyBelow HB.out ho (by omega) (Nat.le_refl _)); have HO9 := Lib.hid ho; clear hz hh ho))
    refine bodyPost_ret (results_cell2 rfl _ _ (w.heap.size + 1) 57 _ (0, 0) _ rfl HY.out Tryz.underlying57 rfl (by kernel_rfl)) rfl ?_
    exact decN0 w _ y HB9.out
set_option maxHeartbeats 4000000 in
theorem rVote4_of (pa : Value) (e : Int × List UInt8) (bv : Value) (o : Msg × Int) (rep : Bool) (w : World) (hv : Bs w bv e.2)
    (hO : ∀ W, Below w.heap.size w W → Calls Tryz.prog 57 #[pa, agE e.1 bv] W (DecN o W))
    (hR : ∀ W, Below w.heap.size w W → Calls Tryz.prog 109 #[pa, .int .i64 e.1] W (Says (.bool rep) W)) :
    Calls Tryz.prog 69 #[pa, agE e.1 bv, .int .i64 4] w (DecN (voteD o 4 rep) w) := by
  obtain ⟨BA, bc0, rfl, -⟩ := hv.open
  have HO := Lib.hid hO
  have HRP := Lib.hid hR
  clear hO hv hR
  obtain ⟨x1, x2, x3⟩ := box2B w #[.int .i64 e.1, .slice BA e.2.length bc0] msH 40 57
  obtain ⟨m, y⟩ := o
  by_cases h0 : y = 0
  · subst h0
    by_cases h1 : m.k = 4
    · have hk1 : (m.k != 4) = false := by simpa using h1
      cases rep
      · rw [show voteD (m, 0) 4 false = (msg0, 30) from by unfold voteD; rw [if_pos rfl, if_pos h1, if_neg (by decide)]]
        clear h1
        go_enter Tryz.func69, Tryz.ntmps69
        go_upto_region 1 with fail
        generalize hw0 : (w.alloc _).alloc _ = w0 at *
        have HR := Lib.hid x1
        have HX := Lib.hid x2
        have HB := Lib.hid x3
        clear x1 x2 x3 hw0
        go_wp2_with (first
          | (refine wpList_load_mid rfl 40 _ rfl w.heap.size 0 rfl _ _ (heap_all HR.out) Tryz.underlying40 rfl (by kernel_rfl) ?_)
          | (go_at_call 57; go_loud (refine (HO.out _ HB.out).mono ?_; rintro e w2 ⟨P, rfl, hk, hb⟩; have HB1 := Lib.hid HB.out; have HK := Lib.hid hk; have HP := Lib.hid (keep_alloc (B := w0.heap.size) w2 (.cells (msC m P) 57)); have HZ1 := Lib.hid (Array.getElem?_eq_some_iff.1 HX.out).1; have HR := Lib.hid (heapB HR.out hb); have HX := Lib.hid (heapB HX.out hb); have HB2 := Lib.hid (bel2M HB.out hb); have HBX := Lib.hid (heap_alloc_new w2 (.cells (msC m P) 57)); have HR := Lib.hid (heapB HR.out (alloc1B w2 (.cells (msC m P) 57))); have HX := Lib.hid (heapB HX.out (alloc1B w2 (.cells (msC m P) 57))); have HB := Lib.hid (bel2M HB2.out (alloc1B w2 (.cells (msC m P) 57))); have r0 := rowCell HR.out 0 (.int .i64 e.1) rfl; have r1 := rowCell HR.out 1 (.slice BA e.2.length bc0) rfl; have m0 := rowCell HBX.out 0 (.int .i64 m.k) rfl; clear hb hk))
          | (go_at_call 109; refine (HRP.out _ HB.out).mono ?_; rintro e w6 ⟨rfl, hww⟩; rw [hww]; clear hww w6)
          | (refine wpList_storeAll rfl 57 _ _ rfl (w.heap.size + 1) _ _ rfl rfl HX.out rfl (by kernel_rfl) (by kernel_rfl) ?_; intro w9 hz hh ho; have HY := Lib.hid hh; have HB9 := Lib.hid (onlyBelow HB.out ho (by omega) (Nat.le_refl _)); have HO9 := Lib.hid ho; clear hz hh ho))
        refine bodyPost_ret (results_cell2 rfl _ _ (w.heap.size + 1) 57 _ (0, 0) _ rfl HY.out Tryz.underlying57 rfl (by kernel_rfl)) rfl ?_
        exact decN0 w _ 30 HB9.out
      · rw [show voteD (m, 0) 4 true = (m, 0) from by unfold voteD; rw [if_pos rfl, if_pos h1, if_pos rfl]]
        clear h1
        go_enter Tryz.func69, Tryz.ntmps69
        go_upto_region 1 with fail
        generalize hw0 : (w.alloc _).alloc _ = w0 at *
        have HR := Lib.hid x1
        have HX := Lib.hid x2
        have HB := Lib.hid x3
        clear x1 x2 x3 hw0
        go_wp2_with (first
          | (refine wpList_load_mid rfl 40 _ rfl w.heap.size 0 rfl _ _ (heap_all HR.out) Tryz.underlying40 rfl (by kernel_rfl) ?_)
          | (go_at_call 57; go_loud (refine (HO.out _ HB.out).mono ?_; rintro e w2 ⟨P, rfl, hk, hb⟩; have HB1 := Lib.hid HB.out; have HK := Lib.hid hk; have HP := Lib.hid (keep_alloc (B := w0.heap.size) w2 (.cells (msC m P) 57)); have HZ1 := Lib.hid (Array.getElem?_eq_some_iff.1 HX.out).1; have HR := Lib.hid (heapB HR.out hb); have HX := Lib.hid (heapB HX.out hb); have HB2 := Lib.hid (bel2M HB.out hb); have HBX := Lib.hid (heap_alloc_new w2 (.cells (msC m P) 57)); have HR := Lib.hid (heapB HR.out (alloc1B w2 (.cells (msC m P) 57))); have HX := Lib.hid (heapB HX.out (alloc1B w2 (.cells (msC m P) 57))); have HB := Lib.hid (bel2M HB2.out (alloc1B w2 (.cells (msC m P) 57))); have r0 := rowCell HR.out 0 (.int .i64 e.1) rfl; have r1 := rowCell HR.out 1 (.slice BA e.2.length bc0) rfl; have m0 := rowCell HBX.out 0 (.int .i64 m.k) rfl; clear hb hk))
          | (go_at_call 109; refine (HRP.out _ HB.out).mono ?_; rintro e w6 ⟨rfl, hww⟩; rw [hww]; clear hww w6)
          | (refine wpList_load_mid rfl 57 _ rfl w2.heap.size 0 rfl _ _ (heap_all HBX.out) Tryz.underlying57 rfl (by kernel_rfl) ?_)
          | (refine wpList_storeAll rfl 57 _ _ rfl (w.heap.size + 1) _ _ rfl rfl HX.out rfl (by kernel_rfl) (by kernel_rfl) ?_; intro w9 hz hh ho; have HY := Lib.hid hh; have HB9 := Lib.hid (onlyBelow HB.out ho (by omega) (Nat.le_refl _)); have HO9 := Lib.hid ho; clear hz hh ho))
        refine bodyPost_ret (results_cell2 rfl _ _ (w.heap.size + 1) 57 _ (0, 0) _ rfl HY.out Tryz.underlying57 rfl (by kernel_rfl)) rfl ?_
        exact ⟨P, rfl, fun W hW => HK.out W (kpb_to (keep_only HP.out HO9.out HZ1.out) hW HB1.out.size), HB9.out⟩
    · rw [show voteD (m, 0) 4 rep = (msg0, 120) from by unfold voteD; rw [if_pos rfl, if_neg h1]]
      have hk1 : (m.k != 4) = true := by simpa using h1
      clear h1
      go_enter Tryz.func69, Tryz.ntmps69
      go_upto_region 1 with fail
      generalize hw0 : (w.alloc _).alloc _ = w0 at *
      have HR := Lib.hid x1
      have HX := Lib.hid x2
      have HB := Lib.hid x3
      clear x1 x2 x3 hw0
      go_wp2_with (first
        | (refine wpList_load_mid rfl 40 _ rfl w.heap.size 0 rfl _ _ (heap_all HR.out) Tryz.underlying40 rfl (by kernel_rfl) ?_)
        | (go_at_call 57; go_loud (refine (HO.out _ HB.out).mono ?_; rintro e w2 ⟨P, rfl, hk, hb⟩; have HB1 := Lib.hid HB.out; have HK := Lib.hid hk; have HP := Lib.hid (keep_alloc (B := w0.heap.size) w2 (.cells (msC m P) 57)); have HZ1 := Lib.hid (Array.getElem?_eq_some_iff.1 HX.out).1; have HR := Lib.hid (heapB HR.out hb); have HX := Lib.hid (heapB HX.out hb); have HB2 := Lib.hid (bel2M HB.out hb); have HBX := Lib.hid (heap_alloc_new w2 (.cells (msC m P) 57)); have HR := Lib.hid (heapB HR.out (alloc1B w2 (.cells (msC m P) 57))); have HX := Lib.hid (heapB HX.out (alloc1B w2 (.cells (msC m P) 57))); have HB := Lib.hid (bel2M HB2.out (alloc1B w2 (.cells (msC m P) 57))); have r0 := rowCell HR.out 0 (.int .i64 e.1) rfl; have r1 := rowCell HR.out 1 (.slice BA e.2.length bc0) rfl; have m0 := rowCell HBX.out 0 (.int .i64 m.k) rfl; clear hb hk))
        | (refine wpList_storeAll rfl 57 _ _ rfl (w.heap.size + 1) _ _ rfl rfl HX.out rfl (by kernel_rfl) (by kernel_rfl) ?_; intro w9 hz hh ho; have HY := Lib.hid hh; have HB9 := Lib.hid (onlyBelow HB.out ho (by omega) (Nat.le_refl _)); have HO9 := Lib.hid ho; clear hz hh ho))
      refine bodyPost_ret (results_cell2 rfl _ _ (w.heap.size + 1) 57 _ (0, 0) _ rfl HY.out Tryz.underlying57 rfl (by kernel_rfl)) rfl ?_
      exact decN0 w _ 120 HB9.out
  · rw [show voteD (m, y) 4 rep = (msg0, y) from if_neg h0]
    have hq : (y != 0) = true := by simpa using h0
    clear h0
    go_enter Tryz.func69, Tryz.ntmps69
    go_upto_region 1 with fail
    generalize hw0 : (w.alloc _).alloc _ = w0 at *
    have HR := Lib.hid x1
    have HX := Lib.hid x2
    have HB := Lib.hid x3
    clear x1 x2 x3 hw0
    go_wp2_with (first
      | (refine wpList_load_mid rfl 40 _ rfl w.heap.size 0 rfl _ _ (heap_all HR.out) Tryz.underlying40 rfl (by kernel_rfl) ?_)
      | (go_at_call 57; go_loud (refine (HO.out _ HB.out).mono ?_; rintro e w2 ⟨P, rfl, hk, hb⟩; have HB1 := Lib.hid HB.out; have HK := Lib.hid hk; have HP := Lib.hid (keep_alloc (B := w0.heap.size) w2 (.cells (msC m P) 57)); have HZ1 := Lib.hid (Array.getElem?_eq_some_iff.1 HX.out).1; have HR := Lib.hid (heapB HR.out hb); have HX := Lib.hid (heapB HX.out hb); have HB2 := Lib.hid (bel2M HB.out hb); have HBX := Lib.hid (heap_alloc_new w2 (.cells (msC m P) 57)); have HR := Lib.hid (heapB HR.out (alloc1B w2 (.cells (msC m P) 57))); have HX := Lib.hid (heapB HX.out (alloc1B w2 (.cells (msC m P) 57))); have HB := Lib.hid (bel2M HB2.out (alloc1B w2 (.cells (msC m P) 57))); have r0 := rowCell HR.out 0 (.int .i64 e.1) rfl; have r1 := rowCell HR.out 1 (.slice BA e.2.length bc0) rfl; have m0 := rowCell HBX.out 0 (.int .i64 m.k) rfl; clear hb hk))
      | (refine wpList_storeAll rfl 57 _ _ rfl (w.heap.size + 1) _ _ rfl rfl HX.out rfl (by kernel_rfl) (by kernel_rfl) ?_; intro w9 hz hh ho; have HY := Lib.hid hh; have HB9 := Lib.hid (onlyBelow HB.out ho (by omega) (Nat.le_refl _)); have HO9 := Lib.hid ho; clear hz hh ho))
    refine bodyPost_ret (results_cell2 rfl _ _ (w.heap.size + 1) 57 _ (0, 0) _ rfl HY.out Tryz.underlying57 rfl (by kernel_rfl)) rfl ?_
    exact decN0 w _ y HB9.out
set_option maxHeartbeats 4000000 in
theorem rVote5_of (pa : Value) (e : Int × List UInt8) (bv : Value) (o : Msg × Int) (rep : Bool) (w : World) (hv : Bs w bv e.2)
    (hO : ∀ W, Below w.heap.size w W → Calls Tryz.prog 57 #[pa, agE e.1 bv] W (DecN o W))
    (hR : ∀ W, Below w.heap.size w W → Calls Tryz.prog 109 #[pa, .int .i64 e.1] W (Says (.bool rep) W)) :
    Calls Tryz.prog 69 #[pa, agE e.1 bv, .int .i64 5] w (DecN (voteD o 5 rep) w) := by
  obtain ⟨BA, bc0, rfl, -⟩ := hv.open
  have HO := Lib.hid hO
  have HRP := Lib.hid hR
  clear hO hv hR
  obtain ⟨x1, x2, x3⟩ := box2B w #[.int .i64 e.1, .slice BA e.2.length bc0] msH 40 57
  obtain ⟨m, y⟩ := o
  by_cases h0 : y = 0
  · subst h0
    by_cases h1 : m.k = 5
    · have hk1 : (m.k != 5) = false := by simpa using h1
      cases rep
      · rw [show voteD (m, 0) 5 false = (msg0, 30) from by unfold voteD; rw [if_pos rfl, if_pos h1, if_neg (by decide)]]
        clear h1
        go_enter Tryz.func69, Tryz.ntmps69
        go_upto_region 1 with fail
        generalize hw0 : (w.alloc _).alloc _ = w0 at *
        have HR := Lib.hid x1
        have HX := Lib.hid x2
        have HB := Lib.hid x3
        clear x1 x2 x3 hw0
        go_wp2_with (first
          | (refine wpList_load_mid rfl 40 _ rfl w.heap.size 0 rfl _ _ (heap_all HR.out) Tryz.underlying40 rfl (by kernel_rfl) ?_)
          | (go_at_call 57; go_loud (refine (HO.out _ HB.out).mono ?_; rintro e w2 ⟨P, rfl, hk, hb⟩; have HB1 := Lib.hid HB.out; have HK := Lib.hid hk; have HP := Lib.hid (keep_alloc (B := w0.heap.size) w2 (.cells (msC m P) 57)); have HZ1 := Lib.hid (Array.getElem?_eq_some_iff.1 HX.out).1; have HR := Lib.hid (heapB HR.out hb); have HX := Lib.hid (heapB HX.out hb); have HB2 := Lib.hid (bel2M HB.out hb); have HBX := Lib.hid (heap_alloc_new w2 (.cells (msC m P) 57)); have HR := Lib.hid (heapB HR.out (alloc1B w2 (.cells (msC m P) 57))); have HX := Lib.hid (heapB HX.out (alloc1B w2 (.cells (msC m P) 57))); have HB := Lib.hid (bel2M HB2.out (alloc1B w2 (.cells (msC m P) 57))); have r0 := rowCell HR.out 0 (.int .i64 e.1) rfl; have r1 := rowCell HR.out 1 (.slice BA e.2.length bc0) rfl; have m0 := rowCell HBX.out 0 (.int .i64 m.k) rfl; clear hb hk))
          | (go_at_call 109; refine (HRP.out _ HB.out).mono ?_; rintro e w6 ⟨rfl, hww⟩; rw [hww]; clear hww w6)
          | (refine wpList_storeAll rfl 57 _ _ rfl (w.heap.size + 1) _ _ rfl rfl HX.out rfl (by kernel_rfl) (by kernel_rfl) ?_; intro w9 hz hh ho; have HY := Lib.hid hh; have HB9 := Lib.hid (onlyBelow HB.out ho (by omega) (Nat.le_refl _)); have HO9 := Lib.hid ho; clear hz hh ho))
        refine bodyPost_ret (results_cell2 rfl _ _ (w.heap.size + 1) 57 _ (0, 0) _ rfl HY.out Tryz.underlying57 rfl (by kernel_rfl)) rfl ?_
        exact decN0 w _ 30 HB9.out
      · rw [show voteD (m, 0) 5 true = (m, 0) from by unfold voteD; rw [if_pos rfl, if_pos h1, if_pos rfl]]
        clear h1
        go_enter Tryz.func69, Tryz.ntmps69
        go_upto_region 1 with fail
        generalize hw0 : (w.alloc _).alloc _ = w0 at *
        have HR := Lib.hid x1
        have HX := Lib.hid x2
        have HB := Lib.hid x3
        clear x1 x2 x3 hw0
        go_wp2_with (first
          | (refine wpList_load_mid rfl 40 _ rfl w.heap.size 0 rfl _ _ (heap_all HR.out) Tryz.underlying40 rfl (by kernel_rfl) ?_)
          | (go_at_call 57; go_loud (refine (HO.out _ HB.out).mono ?_; rintro e w2 ⟨P, rfl, hk, hb⟩; have HB1 := Lib.hid HB.out; have HK := Lib.hid hk; have HP := Lib.hid (keep_alloc (B := w0.heap.size) w2 (.cells (msC m P) 57)); have HZ1 := Lib.hid (Array.getElem?_eq_some_iff.1 HX.out).1; have HR := Lib.hid (heapB HR.out hb); have HX := Lib.hid (heapB HX.out hb); have HB2 := Lib.hid (bel2M HB.out hb); have HBX := Lib.hid (heap_alloc_new w2 (.cells (msC m P) 57)); have HR := Lib.hid (heapB HR.out (alloc1B w2 (.cells (msC m P) 57))); have HX := Lib.hid (heapB HX.out (alloc1B w2 (.cells (msC m P) 57))); have HB := Lib.hid (bel2M HB2.out (alloc1B w2 (.cells (msC m P) 57))); have r0 := rowCell HR.out 0 (.int .i64 e.1) rfl; have r1 := rowCell HR.out 1 (.slice BA e.2.length bc0) rfl; have m0 := rowCell HBX.out 0 (.int .i64 m.k) rfl; clear hb hk))
          | (go_at_call 109; refine (HRP.out _ HB.out).mono ?_; rintro e w6 ⟨rfl, hww⟩; rw [hww]; clear hww w6)
          | (refine wpList_load_mid rfl 57 _ rfl w2.heap.size 0 rfl _ _ (heap_all HBX.out) Tryz.underlying57 rfl (by kernel_rfl) ?_)
          | (refine wpList_storeAll rfl 57 _ _ rfl (w.heap.size + 1) _ _ rfl rfl HX.out rfl (by kernel_rfl) (by kernel_rfl) ?_; intro w9 hz hh ho; have HY := Lib.hid hh; have HB9 := Lib.hid (onlyBelow HB.out ho (by omega) (Nat.le_refl _)); have HO9 := Lib.hid ho; clear hz hh ho))
        refine bodyPost_ret (results_cell2 rfl _ _ (w.heap.size + 1) 57 _ (0, 0) _ rfl HY.out Tryz.underlying57 rfl (by kernel_rfl)) rfl ?_
        exact ⟨P, rfl, fun W hW => HK.out W (kpb_to (keep_only HP.out HO9.out HZ1.out) hW HB1.out.size), HB9.out⟩
    · rw [show voteD (m, 0) 5 rep = (msg0, 120) from by unfold voteD; rw [if_pos rfl, if_neg h1]]
      have hk1 : (m.k != 5) = true := by simpa using h1
      clear h1
      go_enter Tryz.func69, Tryz.ntmps69
      go_upto_region 1 with fail
      generalize hw0 : (w.alloc _).alloc _ = w0 at *
      have HR := Lib.hid x1
      have HX := Lib.hid x2
      have HB := Lib.hid x3
      clear x1 x2 x3 hw0
      go_wp2_with (first
        | (refine wpList_load_mid rfl 40 _ rfl w.heap.size 0 rfl _ _ (heap_all HR.out) Tryz.underlying40 rfl (by kernel_rfl) ?_)
        | (go_at_call 57; go_loud (refine (HO.out _ HB.out).mono ?_; rintro e w2 ⟨P, rfl, hk, hb⟩; have HB1 := Lib.hid HB.out; have HK := Lib.hid hk; have HP := Lib.hid (keep_alloc (B := w0.heap.size) w2 (.cells (msC m P) 57)); have HZ1 := Lib.hid (Array.getElem?_eq_some_iff.1 HX.out).1; have HR := Lib.hid (heapB HR.out hb); have HX := Lib.hid (heapB HX.out hb); have HB2 := Lib.hid (bel2M HB.out hb); have HBX := Lib.hid (heap_alloc_new w2 (.cells (msC m P) 57)); have HR := Lib.hid (heapB HR.out (alloc1B w2 (.cells (msC m P) 57))); have HX := Lib.hid (heapB HX.out (alloc1B w2 (.cells (msC m P) 57))); have HB := Lib.hid (bel2M HB2.out (alloc1B w2 (.cells (msC m P) 57))); have r0 := rowCell HR.out 0 (.int .i64 e.1) rfl; have r1 := rowCell HR.out 1 (.slice BA e.2.length bc0) rfl; have m0 := rowCell HBX.out 0 (.int .i64 m.k) rfl; clear hb hk))
        | (refine wpList_storeAll rfl 57 _ _ rfl (w.heap.size + 1) _ _ rfl rfl HX.out rfl (by kernel_rfl) (by kernel_rfl) ?_; intro w9 hz hh ho; have HY := Lib.hid hh; have HB9 := Lib.hid (onlyBelow HB.out ho (by omega) (Nat.le_refl _)); have HO9 := Lib.hid ho; clear hz hh ho))
      refine bodyPost_ret (results_cell2 rfl _ _ (w.heap.size + 1) 57 _ (0, 0) _ rfl HY.out Tryz.underlying57 rfl (by kernel_rfl)) rfl ?_
      exact decN0 w _ 120 HB9.out
  · rw [show voteD (m, y) 5 rep = (msg0, y) from if_neg h0]
    have hq : (y != 0) = true := by simpa using h0
    clear h0
    go_enter Tryz.func69, Tryz.ntmps69
    go_upto_region 1 with fail
    generalize hw0 : (w.alloc _).alloc _ = w0 at *
    have HR := Lib.hid x1
    have HX := Lib.hid x2
    have HB := Lib.hid x3
    clear x1 x2 x3 hw0
    go_wp2_with (first
      | (refine wpList_load_mid rfl 40 _ rfl w.heap.size 0 rfl _ _ (heap_all HR.out) Tryz.underlying40 rfl (by kernel_rfl) ?_)
      | (go_at_call 57; go_loud (refine (HO.out _ HB.out).mono ?_; rintro e w2 ⟨P, rfl, hk, hb⟩; have HB1 := Lib.hid HB.out; have HK := Lib.hid hk; have HP := Lib.hid (keep_alloc (B := w0.heap.size) w2 (.cells (msC m P) 57)); have HZ1 := Lib.hid (Array.getElem?_eq_some_iff.1 HX.out).1; have HR := Lib.hid (heapB HR.out hb); have HX := Lib.hid (heapB HX.out hb); have HB2 := Lib.hid (bel2M HB.out hb); have HBX := Lib.hid (heap_alloc_new w2 (.cells (msC m P) 57)); have HR := Lib.hid (heapB HR.out (alloc1B w2 (.cells (msC m P) 57))); have HX := Lib.hid (heapB HX.out (alloc1B w2 (.cells (msC m P) 57))); have HB := Lib.hid (bel2M HB2.out (alloc1B w2 (.cells (msC m P) 57))); have r0 := rowCell HR.out 0 (.int .i64 e.1) rfl; have r1 := rowCell HR.out 1 (.slice BA e.2.length bc0) rfl; have m0 := rowCell HBX.out 0 (.int .i64 m.k) rfl; clear hb hk))
      | (refine wpList_storeAll rfl 57 _ _ rfl (w.heap.size + 1) _ _ rfl rfl HX.out rfl (by kernel_rfl) (by kernel_rfl) ?_; intro w9 hz hh ho; have HY := Lib.hid hh; have HB9 := Lib.hid (onlyBelow HB.out ho (by omega) (Nat.le_refl _)); have HO9 := Lib.hid ho; clear hz hh ho))
    refine bodyPost_ret (results_cell2 rfl _ _ (w.heap.size + 1) 57 _ (0, 0) _ rfl HY.out Tryz.underlying57 rfl (by kernel_rfl)) rfl ?_
    exact decN0 w _ y HB9.out

set_option maxHeartbeats 2000000 in
theorem rBatch_of (pa : Value) (A : Option Addr) (c : Nat) (l : List (Int × List UInt8)) (w : World) (rq : Nat → Rqt) (hl : EnvK w A c l)
    (hQ : ∀ (k : Nat) (hk : k < l.length) W bv, Below w.heap.size w W → Bs W bv l[k].2 → Calls Tryz.prog 18 #[pa, agE l[k].1 bv] W (ReqN (rq k) W)) :
    Calls Tryz.prog 20 #[pa, .slice A l.length c] w (Ans (.int .i64 (batX l.length rq)) w) := by
  have hn63 : l.length ≤ 9223372036854775807 := by have h3 := hl.1; have h4 := hl.2.1; unfold maxLen at h4; omega
  have HQ := Lib.hid hQ
  have HX := Lib.hid (fun k hk => env_open hl k hk)
  have HB0 := Lib.hid (Below.refl w.heap.size w)
  clear hQ hl
  by_cases h4 : 4 < l.length
  · rw [show batX l.length rq = 11 from if_pos h4]
    have hI : (4 : Int) < (l.length : Int) := by omega
    go_enter Tryz.func20, Tryz.ntmps20
    go_wp2
    go_ret
    exact ⟨rfl, HB0.out⟩
  · rw [show batX l.length rq = findX l.length (fun k => (rq k).2) 0 from if_neg h4]
    have hI : ¬ (4 : Int) < (l.length : Int) := by omega
    clear h4
    go_enter Tryz.func20, Tryz.ntmps20
    go_wp2
    go_loopw [5] (fun i wr => ∃ (k : Nat), k ≤ l.length ∧ i = .int .i64 k ∧ (∀ j, j < k → (rq j).2 = 0) ∧ Below w.heap.size w wr) (fun i _ => l.length - (intOf i).toNat)
    case atStart => exact ⟨0, Nat.zero_le _, rfl, fun j hj => absurd hj (Nat.not_lt_zero _), Below.refl _ _⟩
    case round =>
      obtain ⟨k, hk, rfl, hall, hbel⟩ := hrel
      have HALL := Lib.hid hall
      have HBEL := Lib.hid hbel
      clear hall hbel
      by_cases hlt : k < l.length
      · have hltI : (k : Int) < (l.length : Int) := by omega
        have HQK := Lib.hid (HQ.out k hlt)
        obtain ⟨ad, bv, rfl, hbl, h1, h2, h3⟩ := HX.out k hlt
        obtain ⟨BA, bc1, rfl, -⟩ := h3.open
        have c1 := cellM HBEL.out (p := ad.add (k * 2)) (by rw [block_add]; exact hbl) h1
        have c2 := cellM HBEL.out (p := ⟨(ad.add (k * 2)).block, (ad.add (k * 2)).off + 1, none⟩) (by rw [block_add]; exact hbl) h2
        have HV := Lib.hid h3
        have HLT := Lib.hid hlt
        generalize l[k] = x at *
        clear h1 h2 h3 hlt
        have HQL := Lib.hid (fun W (hb : Below w.heap.size w W) => HQK.out W _ hb (HV.out.below hb (Nat.le_refl _)))
        by_cases h0 : (rq k).2 = 0
        · have HA2 := Lib.hid (show ∀ j, j < k + 1 → (rq j).2 = 0 from fun j hj => by
            by_cases hjk : j < k
            · exact HALL.out j hjk
            · obtain rfl : j = k := by omega
              exact h0)
          clear HALL
          rcases hrq : rq k with ⟨⟨rc, rt, rx⟩, re⟩
          rw [hrq] at HQL h0
          simp only at h0
          subst h0
          clear hrq
          go_wp2_with (first
            | (go_at_call 18; refine (HQL.out _ HBEL.out).mono ?_; rintro e w2 ⟨A2, c2', rfl, hk2, hb⟩; have HB2 := Lib.hid (bel2M HBEL.out hb); clear hb hk2))
          go_roundw
          case rel => exact ⟨k + 1, by have := HLT.out; omega, by go_num, HA2.out, bel2M HB2.out (alloc1B _ _)⟩
          case measure => simp [intOf]; have := HLT.out; omega
        · have hf := findX_at (n := l.length) (d := 0) (r := fun k => (rq k).2) HLT.out HALL.out h0
          (try simp only at hf)
          have HF := Lib.hid hf
          clear hf HALL
          rcases hrq : rq k with ⟨⟨rc, rt, rx⟩, re⟩
          rw [hrq] at HQL h0 HF
          simp only at h0 HF
          have hq : (re != 0) = true := by simpa using h0
          clear hrq h0
          go_wp2_with (first
            | (go_at_call 18; refine (HQL.out _ HBEL.out).mono ?_; rintro e w2 ⟨A2, c2', rfl, hk2, hb⟩; have HB2 := Lib.hid (bel2M HBEL.out hb); clear hb hk2))
          go_ret
          exact ⟨by rw [HF.out]; rfl, bel2M HB2.out (alloc1B _ _)⟩
      · obtain rfl : k = l.length := by omega
        have hltI : ¬ (l.length : Int) < (l.length : Int) := by omega
        have HF := Lib.hid (findX_ok (d := 0) (r := fun k => (rq k).2) HALL.out)
        go_wp2
        go_ret
        exact ⟨by rw [HF.out]; rfl, HBEL.out⟩
set_option maxHeartbeats 4000000 in
theorem rPre_two (pa : Value) (e : Int × List UInt8) (bv : Value) (o : Msg × Int) (pr bt : Int) (w : World) (hv : Bs w bv e.2) (hkk : o.2 = 0 → o.1.k = 2)
    (hO : ∀ W, Below w.heap.size w W → Calls Tryz.prog 57 #[pa, agE e.1 bv] W (DecN o W))
    (hP : o.2 = 0 → ∀ W, Below w.heap.size w W → Calls Tryz.prog 39 #[pa, .int .i64 o.1.v] W (Says (.int .i64 pr) W))
    (hG : o.2 = 0 → ∀ W P, MsgK W o.1 P → Calls Tryz.prog 37 #[.slice P.b.1 o.1.b.length P.b.2] W (Tells (batB o.1.b) W))
    (hT : o.2 = 0 → ∀ W P, Below w.heap.size w W → MsgK W o.1 P → Calls Tryz.prog 20 #[pa, .slice P.b.1 o.1.b.length P.b.2] W (Ans (.int .i64 bt) W)) :
    Calls Tryz.prog 108 #[pa, agE e.1 bv] w (DecN (preX o e.1 pr bt) w) := by
  obtain ⟨BA, bc0, rfl, -⟩ := hv.open
  have HO := Lib.hid hO
  clear hO hv
  obtain ⟨x1, x2, x3⟩ := box2B w #[.int .i64 e.1, .slice BA e.2.length bc0] msH 40 57
  obtain ⟨m, y⟩ := o
  simp only at *
  by_cases h0 : y = 0
  · subst h0
    have hk1 : (m.k != 2) = false := by simpa using hkk rfl
    clear hkk
    have HPR := Lib.hid (hP rfl)
    have HG := Lib.hid (hG rfl)
    have HT := Lib.hid (hT rfl)
    clear hP hG hT
    by_cases h1 : e.1 = pr
    · by_cases h2 : m.d = batB m.b
      · have q1 : (e.1 != pr) = false := by simpa using h1
        have q2 : ((strB m.d).toList == (strB (batB m.b)).toList) = true := by rw [h2]; simp
        by_cases h3 : bt = 0
        · subst h3
          rw [preX_4 m _ _ h1 h2]
          clear h1 h2
          generalize batB m.b = dg at *
          go_enter Tryz.func108, Tryz.ntmps108
          go_upto_region 1 with fail
          generalize hw0 : (w.alloc _).alloc _ = w0 at *
          have HR := Lib.hid x1
          have HX := Lib.hid x2
          have HB := Lib.hid x3
          clear x1 x2 x3 hw0
          go_upto_region 6 with (first
            | (go_at_call 57; go_loud (refine (HO.out _ HB.out).mono ?_; rintro e w2 ⟨P, rfl, hk, hb⟩; have HB1 := Lib.hid HB.out; have HK := Lib.hid hk; have HP := Lib.hid (keep_alloc (B := w0.heap.size) w2 (.cells (msC m P) 57)); have HZ1 := Lib.hid (Array.getElem?_eq_some_iff.1 HX.out).1; have HR := Lib.hid (heapB HR.out hb); have HX := Lib.hid (heapB HX.out hb); have HB := Lib.hid (bel2M HB.out hb); have HBX := Lib.hid (heap_alloc_new w2 (.cells (msC m P) 57)); have HR := Lib.hid (heapB HR.out (alloc1B w2 (.cells (msC m P) 57))); have HX := Lib.hid (heapB HX.out (alloc1B w2 (.cells (msC m P) 57))); have HB := Lib.hid (bel2M HB.out (alloc1B w2 (.cells (msC m P) 57))); have m0 := rowCell HBX.out 0 (.int .i64 m.k) rfl; clear hb hk))
            | (refine wpList_load_mid rfl 40 _ rfl w.heap.size 0 rfl _ _ (heap_all HR.out) Tryz.underlying40 rfl (by kernel_rfl) ?_)
            | (refine wpList_storeAll rfl 57 _ _ rfl (w.heap.size + 1) _ _ rfl rfl HX.out rfl (by kernel_rfl) (by kernel_rfl) ?_; intro w9 hz hh ho; have HY := Lib.hid hh; have HB9 := Lib.hid (onlyBelow HB.out ho (by omega) (Nat.le_refl _)); have HO9 := Lib.hid ho; clear hz hh ho))
          generalize hw3 : w2.alloc _ = w3 at *
          have HK1 := Lib.hid (show ∀ W, Below w3.heap.size w3 W → SPa w3 ⟨w.heap.size, 0, none⟩ ⟨w2.heap.size, 1, none⟩ (.int .i64 e.1) (.int .i64 m.v) W from fun W h => ⟨h, cellB (rowCell HR.out 0 _ rfl) h, cellB (rowCell HBX.out 1 _ rfl) h⟩)
          have HD := Lib.hid (HK1.out w3.drew (Below.refl _ _).drew)
          clear hw3
          go_region_held3 (SPa w3 ⟨w.heap.size, 0, none⟩ ⟨w2.heap.size, 1, none⟩ (.int .i64 e.1) (.int .i64 m.v)) (exact HD.out) (first | (go_at_call 39; refine (HPR.out _ (bel2M HB.out HD.out.1)).mono ?_; rintro e w5 ⟨rfl, rfl⟩))
          go_upto_region 8 with fail
          have HK2 := Lib.hid (show ∀ W, Below w3.heap.size w3 W → SPa w3 ⟨w2.heap.size, 5, none⟩ ⟨w2.heap.size, 9, none⟩ (.string (strB m.d)) (.slice P.b.1 m.b.length P.b.2) W from fun W h => ⟨h, cellB (rowCell HBX.out 5 _ rfl) h, cellB (rowCell HBX.out 9 _ rfl) h⟩)
          have HE := Lib.hid (HK2.out w3.drew.drew HD.out.1.drew)
          have HMK := Lib.hid (show MsgK w3.drew.drew m P from HK.out _ (keep_below HP.out HE.out.1))
          go_region_held3 (SPa w3 ⟨w2.heap.size, 5, none⟩ ⟨w2.heap.size, 9, none⟩ (.string (strB m.d)) (.slice P.b.1 m.b.length P.b.2)) (first | exact HE.out | exact HE6.out) (first | (go_at_call 37; refine (HG.out _ P HMK.out).mono ?_; rintro e w6 ⟨rfl, hb6⟩; have HE6 := Lib.hid (HK2.out w6 (bel2M HE.out.1 hb6)); have HB6 := Lib.hid hb6; clear hb6))
          have HR := Lib.hid (heapB HR.out HE6.out.1)
          have HX := Lib.hid (heapB HX.out HE6.out.1)
          have HBX := Lib.hid (heapB HBX.out HE6.out.1)
          have m9 := rowCell HBX.out 9 (.slice P.b.1 m.b.length P.b.2) rfl
          have HB := Lib.hid (bel2M HB.out HE6.out.1)
          have HP := Lib.hid (keep_below HP.out HE6.out.1)
          go_wp2_with (first
            | (go_at_call 20; go_loud (refine (HT.out _ P HB.out (HK.out _ HP.out)).mono ?_; rintro e w7 ⟨rfl, hb⟩; have HR := Lib.hid (heapB HR.out hb); have HX := Lib.hid (heapB HX.out hb); have HBX := Lib.hid (heapB HBX.out hb); have HP := Lib.hid (keep_below HP.out hb); have HB := Lib.hid (bel2M HB.out hb); clear hb))
            | (refine wpList_load_mid rfl 57 _ rfl w2.heap.size 0 rfl _ _ (heap_all HBX.out) Tryz.underlying57 rfl (by kernel_rfl) ?_)
            | (refine wpList_storeAll rfl 57 _ _ rfl (w.heap.size + 1) _ _ rfl rfl HX.out rfl (by kernel_rfl) (by kernel_rfl) ?_; intro w9 hz hh ho; have HY := Lib.hid hh; have HB9 := Lib.hid (onlyBelow HB.out ho (by omega) (Nat.le_refl _)); have HO9 := Lib.hid ho; clear hz hh ho))
          refine bodyPost_ret (results_cell2 rfl _ _ (w.heap.size + 1) 57 _ (0, 0) _ rfl HY.out Tryz.underlying57 rfl (by kernel_rfl)) rfl ?_
          exact ⟨P, rfl, fun W hW => HK.out W (kpb_to (keep_only HP.out HO9.out HZ1.out) hW HB1.out.size), HB9.out⟩
        · rw [preX_3 m _ _ _ h1 h2 h3]
          have q3 : (bt != 0) = true := by simpa using h3
          clear h1 h2 h3
          generalize batB m.b = dg at *
          go_enter Tryz.func108, Tryz.ntmps108
          go_upto_region 1 with fail
          generalize hw0 : (w.alloc _).alloc _ = w0 at *
          have HR := Lib.hid x1
          have HX := Lib.hid x2
          have HB := Lib.hid x3
          clear x1 x2 x3 hw0
          go_upto_region 6 with (first
            | (go_at_call 57; go_loud (refine (HO.out _ HB.out).mono ?_; rintro e w2 ⟨P, rfl, hk, hb⟩; have HB1 := Lib.hid HB.out; have HK := Lib.hid hk; have HP := Lib.hid (keep_alloc (B := w0.heap.size) w2 (.cells (msC m P) 57)); have HZ1 := Lib.hid (Array.getElem?_eq_some_iff.1 HX.out).1; have HR := Lib.hid (heapB HR.out hb); have HX := Lib.hid (heapB HX.out hb); have HB := Lib.hid (bel2M HB.out hb); have HBX := Lib.hid (heap_alloc_new w2 (.cells (msC m P) 57)); have HR := Lib.hid (heapB HR.out (alloc1B w2 (.cells (msC m P) 57))); have HX := Lib.hid (heapB HX.out (alloc1B w2 (.cells (msC m P) 57))); have HB := Lib.hid (bel2M HB.out (alloc1B w2 (.cells (msC m P) 57))); have m0 := rowCell HBX.out 0 (.int .i64 m.k) rfl; clear hb hk))
            | (refine wpList_load_mid rfl 40 _ rfl w.heap.size 0 rfl _ _ (heap_all HR.out) Tryz.underlying40 rfl (by kernel_rfl) ?_)
            | (refine wpList_storeAll rfl 57 _ _ rfl (w.heap.size + 1) _ _ rfl rfl HX.out rfl (by kernel_rfl) (by kernel_rfl) ?_; intro w9 hz hh ho; have HY := Lib.hid hh; have HB9 := Lib.hid (onlyBelow HB.out ho (by omega) (Nat.le_refl _)); have HO9 := Lib.hid ho; clear hz hh ho))
          generalize hw3 : w2.alloc _ = w3 at *
          have HK1 := Lib.hid (show ∀ W, Below w3.heap.size w3 W → SPa w3 ⟨w.heap.size, 0, none⟩ ⟨w2.heap.size, 1, none⟩ (.int .i64 e.1) (.int .i64 m.v) W from fun W h => ⟨h, cellB (rowCell HR.out 0 _ rfl) h, cellB (rowCell HBX.out 1 _ rfl) h⟩)
          have HD := Lib.hid (HK1.out w3.drew (Below.refl _ _).drew)
          clear hw3
          go_region_held3 (SPa w3 ⟨w.heap.size, 0, none⟩ ⟨w2.heap.size, 1, none⟩ (.int .i64 e.1) (.int .i64 m.v)) (exact HD.out) (first | (go_at_call 39; refine (HPR.out _ (bel2M HB.out HD.out.1)).mono ?_; rintro e w5 ⟨rfl, rfl⟩))
          go_upto_region 8 with fail
          have HK2 := Lib.hid (show ∀ W, Below w3.heap.size w3 W → SPa w3 ⟨w2.heap.size, 5, none⟩ ⟨w2.heap.size, 9, none⟩ (.string (strB m.d)) (.slice P.b.1 m.b.length P.b.2) W from fun W h => ⟨h, cellB (rowCell HBX.out 5 _ rfl) h, cellB (rowCell HBX.out 9 _ rfl) h⟩)
          have HE := Lib.hid (HK2.out w3.drew.drew HD.out.1.drew)
          have HMK := Lib.hid (show MsgK w3.drew.drew m P from HK.out _ (keep_below HP.out HE.out.1))
          go_region_held3 (SPa w3 ⟨w2.heap.size, 5, none⟩ ⟨w2.heap.size, 9, none⟩ (.string (strB m.d)) (.slice P.b.1 m.b.length P.b.2)) (first | exact HE.out | exact HE6.out) (first | (go_at_call 37; refine (HG.out _ P HMK.out).mono ?_; rintro e w6 ⟨rfl, hb6⟩; have HE6 := Lib.hid (HK2.out w6 (bel2M HE.out.1 hb6)); have HB6 := Lib.hid hb6; clear hb6))
          have HR := Lib.hid (heapB HR.out HE6.out.1)
          have HX := Lib.hid (heapB HX.out HE6.out.1)
          have HBX := Lib.hid (heapB HBX.out HE6.out.1)
          have m9 := rowCell HBX.out 9 (.slice P.b.1 m.b.length P.b.2) rfl
          have HB := Lib.hid (bel2M HB.out HE6.out.1)
          have HP := Lib.hid (keep_below HP.out HE6.out.1)
          go_wp2_with (first
            | (go_at_call 20; go_loud (refine (HT.out _ P HB.out (HK.out _ HP.out)).mono ?_; rintro e w7 ⟨rfl, hb⟩; have HR := Lib.hid (heapB HR.out hb); have HX := Lib.hid (heapB HX.out hb); have HBX := Lib.hid (heapB HBX.out hb); have HP := Lib.hid (keep_below HP.out hb); have HB := Lib.hid (bel2M HB.out hb); clear hb))
            | (refine wpList_load_mid rfl 57 _ rfl w2.heap.size 0 rfl _ _ (heap_all HBX.out) Tryz.underlying57 rfl (by kernel_rfl) ?_)
            | (refine wpList_storeAll rfl 57 _ _ rfl (w.heap.size + 1) _ _ rfl rfl HX.out rfl (by kernel_rfl) (by kernel_rfl) ?_; intro w9 hz hh ho; have HY := Lib.hid hh; have HB9 := Lib.hid (onlyBelow HB.out ho (by omega) (Nat.le_refl _)); have HO9 := Lib.hid ho; clear hz hh ho))
          refine bodyPost_ret (results_cell2 rfl _ _ (w.heap.size + 1) 57 _ (0, 0) _ rfl HY.out Tryz.underlying57 rfl (by kernel_rfl)) rfl ?_
          exact decN0 w _ bt HB9.out
      · rw [preX_2 m _ _ _ h1 h2]
        have q1 : (e.1 != pr) = false := by simpa using h1
        have q2 := digH_ne h2
        clear h1 h2
        generalize batB m.b = dg at *
        go_enter Tryz.func108, Tryz.ntmps108
        go_upto_region 1 with fail
        generalize hw0 : (w.alloc _).alloc _ = w0 at *
        have HR := Lib.hid x1
        have HX := Lib.hid x2
        have HB := Lib.hid x3
        clear x1 x2 x3 hw0
        go_upto_region 6 with (first
          | (go_at_call 57; go_loud (refine (HO.out _ HB.out).mono ?_; rintro e w2 ⟨P, rfl, hk, hb⟩; have HB1 := Lib.hid HB.out; have HK := Lib.hid hk; have HP := Lib.hid (keep_alloc (B := w0.heap.size) w2 (.cells (msC m P) 57)); have HZ1 := Lib.hid (Array.getElem?_eq_some_iff.1 HX.out).1; have HR := Lib.hid (heapB HR.out hb); have HX := Lib.hid (heapB HX.out hb); have HB := Lib.hid (bel2M HB.out hb); have HBX := Lib.hid (heap_alloc_new w2 (.cells (msC m P) 57)); have HR := Lib.hid (heapB HR.out (alloc1B w2 (.cells (msC m P) 57))); have HX := Lib.hid (heapB HX.out (alloc1B w2 (.cells (msC m P) 57))); have HB := Lib.hid (bel2M HB.out (alloc1B w2 (.cells (msC m P) 57))); have m0 := rowCell HBX.out 0 (.int .i64 m.k) rfl; clear hb hk))
          | (refine wpList_load_mid rfl 40 _ rfl w.heap.size 0 rfl _ _ (heap_all HR.out) Tryz.underlying40 rfl (by kernel_rfl) ?_)
          | (refine wpList_storeAll rfl 57 _ _ rfl (w.heap.size + 1) _ _ rfl rfl HX.out rfl (by kernel_rfl) (by kernel_rfl) ?_; intro w9 hz hh ho; have HY := Lib.hid hh; have HB9 := Lib.hid (onlyBelow HB.out ho (by omega) (Nat.le_refl _)); have HO9 := Lib.hid ho; clear hz hh ho))
        generalize hw3 : w2.alloc _ = w3 at *
        have HK1 := Lib.hid (show ∀ W, Below w3.heap.size w3 W → SPa w3 ⟨w.heap.size, 0, none⟩ ⟨w2.heap.size, 1, none⟩ (.int .i64 e.1) (.int .i64 m.v) W from fun W h => ⟨h, cellB (rowCell HR.out 0 _ rfl) h, cellB (rowCell HBX.out 1 _ rfl) h⟩)
        have HD := Lib.hid (HK1.out w3.drew (Below.refl _ _).drew)
        clear hw3
        go_region_held3 (SPa w3 ⟨w.heap.size, 0, none⟩ ⟨w2.heap.size, 1, none⟩ (.int .i64 e.1) (.int .i64 m.v)) (exact HD.out) (first | (go_at_call 39; refine (HPR.out _ (bel2M HB.out HD.out.1)).mono ?_; rintro e w5 ⟨rfl, rfl⟩))
        go_upto_region 8 with fail
        have HK2 := Lib.hid (show ∀ W, Below w3.heap.size w3 W → SPa w3 ⟨w2.heap.size, 5, none⟩ ⟨w2.heap.size, 9, none⟩ (.string (strB m.d)) (.slice P.b.1 m.b.length P.b.2) W from fun W h => ⟨h, cellB (rowCell HBX.out 5 _ rfl) h, cellB (rowCell HBX.out 9 _ rfl) h⟩)
        have HE := Lib.hid (HK2.out w3.drew.drew HD.out.1.drew)
        have HMK := Lib.hid (show MsgK w3.drew.drew m P from HK.out _ (keep_below HP.out HE.out.1))
        go_region_held3 (SPa w3 ⟨w2.heap.size, 5, none⟩ ⟨w2.heap.size, 9, none⟩ (.string (strB m.d)) (.slice P.b.1 m.b.length P.b.2)) (first | exact HE.out | exact HE6.out) (first | (go_at_call 37; refine (HG.out _ P HMK.out).mono ?_; rintro e w6 ⟨rfl, hb6⟩; have HE6 := Lib.hid (HK2.out w6 (bel2M HE.out.1 hb6)); have HB6 := Lib.hid hb6; clear hb6))
        have HR := Lib.hid (heapB HR.out HE6.out.1)
        have HX := Lib.hid (heapB HX.out HE6.out.1)
        have HBX := Lib.hid (heapB HBX.out HE6.out.1)
        have m9 := rowCell HBX.out 9 (.slice P.b.1 m.b.length P.b.2) rfl
        have HB := Lib.hid (bel2M HB.out HE6.out.1)
        have HP := Lib.hid (keep_below HP.out HE6.out.1)
        go_wp2_with (first
          | (go_at_call 20; go_loud (refine (HT.out _ P HB.out (HK.out _ HP.out)).mono ?_; rintro e w7 ⟨rfl, hb⟩; have HR := Lib.hid (heapB HR.out hb); have HX := Lib.hid (heapB HX.out hb); have HBX := Lib.hid (heapB HBX.out hb); have HP := Lib.hid (keep_below HP.out hb); have HB := Lib.hid (bel2M HB.out hb); clear hb))
          | (refine wpList_load_mid rfl 57 _ rfl w2.heap.size 0 rfl _ _ (heap_all HBX.out) Tryz.underlying57 rfl (by kernel_rfl) ?_)
          | (refine wpList_storeAll rfl 57 _ _ rfl (w.heap.size + 1) _ _ rfl rfl HX.out rfl (by kernel_rfl) (by kernel_rfl) ?_; intro w9 hz hh ho; have HY := Lib.hid hh; have HB9 := Lib.hid (onlyBelow HB.out ho (by omega) (Nat.le_refl _)); have HO9 := Lib.hid ho; clear hz hh ho))
        refine bodyPost_ret (results_cell2 rfl _ _ (w.heap.size + 1) 57 _ (0, 0) _ rfl HY.out Tryz.underlying57 rfl (by kernel_rfl)) rfl ?_
        exact decN0 w _ 132 HB9.out
    · rw [preX_1 m _ _ _ h1]
      have q1 : (e.1 != pr) = true := by simpa using h1
      clear h1
      generalize batB m.b = dg at *
      go_enter Tryz.func108, Tryz.ntmps108
      go_upto_region 1 with fail
      generalize hw0 : (w.alloc _).alloc _ = w0 at *
      have HR := Lib.hid x1
      have HX := Lib.hid x2
      have HB := Lib.hid x3
      clear x1 x2 x3 hw0
      go_upto_region 6 with (first
        | (go_at_call 57; go_loud (refine (HO.out _ HB.out).mono ?_; rintro e w2 ⟨P, rfl, hk, hb⟩; have HB1 := Lib.hid HB.out; have HK := Lib.hid hk; have HP := Lib.hid (keep_alloc (B := w0.heap.size) w2 (.cells (msC m P) 57)); have HZ1 := Lib.hid (Array.getElem?_eq_some_iff.1 HX.out).1; have HR := Lib.hid (heapB HR.out hb); have HX := Lib.hid (heapB HX.out hb); have HB := Lib.hid (bel2M HB.out hb); have HBX := Lib.hid (heap_alloc_new w2 (.cells (msC m P) 57)); have HR := Lib.hid (heapB HR.out (alloc1B w2 (.cells (msC m P) 57))); have HX := Lib.hid (heapB HX.out (alloc1B w2 (.cells (msC m P) 57))); have HB := Lib.hid (bel2M HB.out (alloc1B w2 (.cells (msC m P) 57))); have m0 := rowCell HBX.out 0 (.int .i64 m.k) rfl; clear hb hk))
        | (refine wpList_load_mid rfl 40 _ rfl w.heap.size 0 rfl _ _ (heap_all HR.out) Tryz.underlying40 rfl (by kernel_rfl) ?_)
        | (refine wpList_storeAll rfl 57 _ _ rfl (w.heap.size + 1) _ _ rfl rfl HX.out rfl (by kernel_rfl) (by kernel_rfl) ?_; intro w9 hz hh ho; have HY := Lib.hid hh; have HB9 := Lib.hid (onlyBelow HB.out ho (by omega) (Nat.le_refl _)); have HO9 := Lib.hid ho; clear hz hh ho))
      generalize hw3 : w2.alloc _ = w3 at *
      have HK1 := Lib.hid (show ∀ W, Below w3.heap.size w3 W → SPa w3 ⟨w.heap.size, 0, none⟩ ⟨w2.heap.size, 1, none⟩ (.int .i64 e.1) (.int .i64 m.v) W from fun W h => ⟨h, cellB (rowCell HR.out 0 _ rfl) h, cellB (rowCell HBX.out 1 _ rfl) h⟩)
      have HD := Lib.hid (HK1.out w3.drew (Below.refl _ _).drew)
      clear hw3
      go_region_held3 (SPa w3 ⟨w.heap.size, 0, none⟩ ⟨w2.heap.size, 1, none⟩ (.int .i64 e.1) (.int .i64 m.v)) (exact HD.out) (first | (go_at_call 39; refine (HPR.out _ (bel2M HB.out HD.out.1)).mono ?_; rintro e w5 ⟨rfl, rfl⟩))
      have HX := Lib.hid (heapB HX.out HD.out.1)
      have HB := Lib.hid (bel2M HB.out HD.out.1)
      go_wp2_with (first
        | (refine wpList_storeAll rfl 57 _ _ rfl (w.heap.size + 1) _ _ rfl rfl HX.out rfl (by kernel_rfl) (by kernel_rfl) ?_; intro w9 hz hh ho; have HY := Lib.hid hh; have HB9 := Lib.hid (onlyBelow HB.out ho (by omega) (Nat.le_refl _)); have HO9 := Lib.hid ho; clear hz hh ho))
      refine bodyPost_ret (results_cell2 rfl _ _ (w.heap.size + 1) 57 _ (0, 0) _ rfl HY.out Tryz.underlying57 rfl (by kernel_rfl)) rfl ?_
      exact decN0 w _ 133 HB9.out
  · rw [show preX (m, y) e.1 pr bt = (msg0, y) from if_neg h0]
    have hq : (y != 0) = true := by simpa using h0
    clear h0 hP hG hT
    go_enter Tryz.func108, Tryz.ntmps108
    go_upto_region 1 with fail
    generalize hw0 : (w.alloc _).alloc _ = w0 at *
    have HR := Lib.hid x1
    have HX := Lib.hid x2
    have HB := Lib.hid x3
    clear x1 x2 x3 hw0
    go_wp2_with (first
      | (go_at_call 57; go_loud (refine (HO.out _ HB.out).mono ?_; rintro e w2 ⟨P, rfl, hk, hb⟩; have HB1 := Lib.hid HB.out; have HK := Lib.hid hk; have HP := Lib.hid (keep_alloc (B := w0.heap.size) w2 (.cells (msC m P) 57)); have HZ1 := Lib.hid (Array.getElem?_eq_some_iff.1 HX.out).1; have HR := Lib.hid (heapB HR.out hb); have HX := Lib.hid (heapB HX.out hb); have HB := Lib.hid (bel2M HB.out hb); have HBX := Lib.hid (heap_alloc_new w2 (.cells (msC m P) 57)); have HR := Lib.hid (heapB HR.out (alloc1B w2 (.cells (msC m P) 57))); have HX := Lib.hid (heapB HX.out (alloc1B w2 (.cells (msC m P) 57))); have HB := Lib.hid (bel2M HB.out (alloc1B w2 (.cells (msC m P) 57))); have r0 := rowCell HR.out 0 (.int .i64 e.1) rfl; have m0 := rowCell HBX.out 0 (.int .i64 m.k) rfl; clear hb hk))
      | (refine wpList_load_mid rfl 40 _ rfl w.heap.size 0 rfl _ _ (heap_all HR.out) Tryz.underlying40 rfl (by kernel_rfl) ?_)
      | (refine wpList_storeAll rfl 57 _ _ rfl (w.heap.size + 1) _ _ rfl rfl HX.out rfl (by kernel_rfl) (by kernel_rfl) ?_; intro w9 hz hh ho; have HY := Lib.hid hh; have HB9 := Lib.hid (onlyBelow HB.out ho (by omega) (Nat.le_refl _)); have HO9 := Lib.hid ho; clear hz hh ho))
    refine bodyPost_ret (results_cell2 rfl _ _ (w.heap.size + 1) 57 _ (0, 0) _ rfl HY.out Tryz.underlying57 rfl (by kernel_rfl)) rfl ?_
    exact decN0 w _ y HB9.out
set_option maxHeartbeats 4000000 in
theorem rPre_other (pa : Value) (e : Int × List UInt8) (bv : Value) (m : Msg) (w : World) (hv : Bs w bv e.2) (h1 : ¬ m.k = 2)
    (hO : ∀ W, Below w.heap.size w W → Calls Tryz.prog 57 #[pa, agE e.1 bv] W (DecN (m, 0) W)) :
    Calls Tryz.prog 108 #[pa, agE e.1 bv] w (DecN (msg0, 120) w) := by
  obtain ⟨BA, bc0, rfl, -⟩ := hv.open
  have HO := Lib.hid hO
  have hk1 : (m.k != 2) = true := by simpa using h1
  clear hO hv h1
  obtain ⟨x1, x2, x3⟩ := box2B w #[.int .i64 e.1, .slice BA e.2.length bc0] msH 40 57
  go_enter Tryz.func108, Tryz.ntmps108
  go_upto_region 1 with fail
  generalize hw0 : (w.alloc _).alloc _ = w0 at *
  have HR := Lib.hid x1
  have HX := Lib.hid x2
  have HB := Lib.hid x3
  clear x1 x2 x3 hw0
  go_wp2_with (first
    | (refine wpList_load_mid rfl 40 _ rfl w.heap.size 0 rfl _ _ (heap_all HR.out) Tryz.underlying40 rfl (by kernel_rfl) ?_)
    | (go_at_call 57; go_loud (refine (HO.out _ HB.out).mono ?_; rintro e w2 ⟨P, rfl, hk, hb⟩; have HB1 := Lib.hid HB.out; have HK := Lib.hid hk; have HP := Lib.hid (keep_alloc (B := w0.heap.size) w2 (.cells (msC m P) 57)); have HZ1 := Lib.hid (Array.getElem?_eq_some_iff.1 HX.out).1; have HR := Lib.hid (heapB HR.out hb); have HX := Lib.hid (heapB HX.out hb); have HB2 := Lib.hid (bel2M HB.out hb); have HBX := Lib.hid (heap_alloc_new w2 (.cells (msC m P) 57)); have HR := Lib.hid (heapB HR.out (alloc1B w2 (.cells (msC m P) 57))); have HX := Lib.hid (heapB HX.out (alloc1B w2 (.cells (msC m P) 57))); have HB := Lib.hid (bel2M HB2.out (alloc1B w2 (.cells (msC m P) 57))); have r0 := rowCell HR.out 0 (.int .i64 e.1) rfl; have r1 := rowCell HR.out 1 (.slice BA e.2.length bc0) rfl; have m0 := rowCell HBX.out 0 (.int .i64 m.k) rfl; clear hb hk))
    | (refine wpList_storeAll rfl 57 _ _ rfl (w.heap.size + 1) _ _ rfl rfl HX.out rfl (by kernel_rfl) (by kernel_rfl) ?_; intro w9 hz hh ho; have HY := Lib.hid hh; have HB9 := Lib.hid (onlyBelow HB.out ho (by omega) (Nat.le_refl _)); have HO9 := Lib.hid ho; clear hz hh ho))
  refine bodyPost_ret (results_cell2 rfl _ _ (w.heap.size + 1) 57 _ (0, 0) _ rfl HY.out Tryz.underlying57 rfl (by kernel_rfl)) rfl ?_
  exact decN0 w _ 120 HB9.out
def preD (o : Msg × Int) (s pr bt : Int) : Msg × Int := if o.2 = 0 ∧ ¬ o.1.k = 2 then (msg0, 120) else preX o s pr bt
theorem rPre_of (pa : Value) (e : Int × List UInt8) (bv : Value) (o : Msg × Int) (pr bt : Int) (w : World) (hv : Bs w bv e.2)
    (hO : ∀ W, Below w.heap.size w W → Calls Tryz.prog 57 #[pa, agE e.1 bv] W (DecN o W))
    (hP : o.2 = 0 → ∀ W, Below w.heap.size w W → Calls Tryz.prog 39 #[pa, .int .i64 o.1.v] W (Says (.int .i64 pr) W))
    (hG : o.2 = 0 → o.1.k = 2 → ∀ W P, MsgK W o.1 P → Calls Tryz.prog 37 #[.slice P.b.1 o.1.b.length P.b.2] W (Tells (batB o.1.b) W))
    (hT : o.2 = 0 → o.1.k = 2 → ∀ W P, Below w.heap.size w W → MsgK W o.1 P → Calls Tryz.prog 20 #[pa, .slice P.b.1 o.1.b.length P.b.2] W (Ans (.int .i64 bt) W)) :
    Calls Tryz.prog 108 #[pa, agE e.1 bv] w (DecN (preD o e.1 pr bt) w) := by
  by_cases h : o.2 = 0 ∧ ¬ o.1.k = 2
  · rw [show preD o e.1 pr bt = (msg0, 120) from if_pos h]
    obtain ⟨m, y⟩ := o
    obtain ⟨h1, h2⟩ := h
    simp only at h1
    subst h1
    exact rPre_other pa e bv m w hv h2 hO
  · rw [show preD o e.1 pr bt = preX o e.1 pr bt from if_neg h]
    have hk : o.2 = 0 → o.1.k = 2 := fun h0 => Decidable.byContradiction fun h1 => h ⟨h0, h1⟩
    exact rPre_two pa e bv o pr bt w hv hk hO hP (fun h0 => hG h0 (hk h0)) (fun h0 => hT h0 (hk h0))

def envAt0 (l : List (Int × List UInt8)) (k : Nat) : Int := (l.getD k (0, [])).1
theorem envAt0_eq {l : List (Int × List UInt8)} {k : Nat} (h : k < l.length) : envAt0 l k = l[k].1 := by unfold envAt0; rw [List.getD_eq_getElem?_getD, List.getElem?_eq_getElem h]; rfl
def twB (l : List (Int × List UInt8)) (i : Nat) : Bool := decide ((envAt0 l i) ∈ (l.take i).map (·.1))
theorem tw_no {l : List (Int × List UInt8)} {i : Nat} (hi : i < l.length) (h : ∀ j (hj : j < i), ¬ l[j].1 = l[i].1) : twB l i = false := by
  unfold twB
  rw [decide_eq_false_iff_not, envAt0_eq hi]
  intro hm
  obtain ⟨e, he, h2⟩ := List.mem_map.1 hm
  obtain ⟨j, hj, rfl⟩ := List.getElem_of_mem he
  have hj2 : j < i := by rw [List.length_take] at hj; omega
  rw [List.getElem_take] at h2
  exact h j hj2 h2
theorem tw_yes {l : List (Int × List UInt8)} {i j : Nat} (hi : i < l.length) (hj : j < i) (h : l[j].1 = l[i].1) : twB l i = true := by
  unfold twB
  rw [decide_eq_true_eq, envAt0_eq hi, ← h]
  exact List.mem_map.2 ⟨l[j], List.mem_take_iff_getElem.2 ⟨j, by omega, rfl⟩, rfl⟩
set_option maxHeartbeats 2000000 in
theorem rTwice_any (A : Option Addr) (c : Nat) (l : List (Int × List UInt8)) (i : Nat) (hi : i < l.length) (w : World) (hl : EnvK w A c l) : Calls Tryz.prog 70 #[.slice A l.length c, .int .i64 i] w (Ans (.bool (twB l i)) w) := by
  have hn63 : l.length ≤ 9223372036854775807 := by have h3 := hl.1; have h4 := hl.2.1; unfold maxLen at h4; omega
  have HX := Lib.hid (fun k hk => env_open hl k hk)
  obtain ⟨ad, bvi, rfl, hbl, hi1, -, -⟩ := HX.out i hi
  have hii : (i : Int) < (l.length : Int) := by omega
  clear hl hbl
  go_enter Tryz.func70, Tryz.ntmps70
  go_wp2
  go_loopw [5] (fun z wr => ∃ (k : Nat), k ≤ i ∧ z = .int .i64 k ∧ (∀ j (hj : j < k) (hj2 : j < l.length), ¬ l[j].1 = l[i].1) ∧ ∃ n, wr = w.drewN n) (fun z _ => i - (intOf z).toNat)
  case atStart => exact ⟨0, Nat.zero_le _, rfl, fun j hj => absurd hj (Nat.not_lt_zero _), 0, rfl⟩
  case round =>
    obtain ⟨k, hk, rfl, hall, nd, rfl⟩ := hrel
    have HALL := Lib.hid hall
    clear hall
    by_cases hlt : k < i
    · have hltI : (k : Int) < (i : Int) := by omega
      have hkl : (k : Int) < (l.length : Int) := by omega
      obtain ⟨ad2, bvk, he, -, hk1, -, -⟩ := HX.out k (by omega)
      injection he with he
      subst he
      have HLT := Lib.hid hlt
      by_cases hs : l[k].1 = l[i].1
      · have HT := Lib.hid (tw_yes hi hlt hs)
        have hq : (l[k].1 == l[i].1) = true := by simpa using hs
        clear hs
        generalize l[k].1 = a at *
        generalize l[i].1 = b at *
        go_wp2
        go_quiet (fail)
        go_wp2
        go_ret
        exact ⟨ret_bool HT.out.symm, below_drewN (below_drewN (Below.refl _ _) _) _⟩
      · have HN := Lib.hid (show ∀ j (hj : j < k + 1) (hj2 : j < l.length), ¬ l[j].1 = l[i].1 from fun j hj hj2 => by
          by_cases hjk : j < k
          · exact HALL.out j hjk hj2
          · obtain rfl : j = k := by omega
            exact hs)
        have hq : (l[k].1 == l[i].1) = false := by simpa using hs
        clear hs HALL
        generalize l[k].1 = a at *
        go_wp2
        go_quiet (fail)
        go_wp2
        go_roundw
        case rel => exact ⟨k + 1, HLT.out, by go_num, HN.out, _, rfl⟩
        case measure => simp [intOf]; have := HLT.out; omega
    · obtain rfl : k = i := by omega
      have hltI : ¬ (k : Int) < (k : Int) := by omega
      have HT := Lib.hid (tw_no hi fun j hj => HALL.out j hj (by omega))
      go_wp2
      go_ret
      exact ⟨ret_bool HT.out.symm, below_drewN (Below.refl _ _) _⟩
def rndD (vo : Nat → Msg × Int) (mu : Nat → Int) (tw : Nat → Bool) (k : Nat) : Int := if (vo k).2 = 0 then (if mu k = 0 then (if tw k = true then 33 else 0) else mu k) else (vo k).2
theorem rndD_1 {vo : Nat → Msg × Int} {mu : Nat → Int} {tw : Nat → Bool} {k : Nat} (h : ¬ (vo k).2 = 0) : rndD vo mu tw k = (vo k).2 := if_neg h
theorem rndD_2 {vo : Nat → Msg × Int} {mu : Nat → Int} {tw : Nat → Bool} {k : Nat} (h : (vo k).2 = 0) (h2 : ¬ mu k = 0) : rndD vo mu tw k = mu k := by unfold rndD; rw [if_pos h, if_neg h2]
theorem rndD_3 {vo : Nat → Msg × Int} {mu : Nat → Int} {tw : Nat → Bool} {k : Nat} (h : (vo k).2 = 0) (h2 : mu k = 0) (h3 : tw k = true) : rndD vo mu tw k = 33 := by unfold rndD; rw [if_pos h, if_pos h2, if_pos h3]
theorem rndD_4 {vo : Nat → Msg × Int} {mu : Nat → Int} {tw : Nat → Bool} {k : Nat} (h : (vo k).2 = 0) (h2 : mu k = 0) (h3 : tw k = false) : rndD vo mu tw k = 0 := by unfold rndD; rw [if_pos h, if_pos h2, if_neg (by rw [h3]; decide)]
def talD (n : Nat) (enough : Int) (vo : Nat → Msg × Int) (mu : Nat → Int) (tw : Nat → Bool) : Int := findX n (rndD vo mu tw) (if (n : Int) < enough then 32 else 0)
theorem talD_at {n : Nat} {enough : Int} {vo : Nat → Msg × Int} {mu : Nat → Int} {tw : Nat → Bool} {k : Nat} {x : Int} (hk : k < n) (h : ∀ j, j < k → rndD vo mu tw j = 0) (h1 : rndD vo mu tw k = x) (h0 : x ≠ 0) (m : Msg) : prepX (m, 0) (talD n enough vo mu tw) = (msg0, x) := by
  unfold talD
  rw [findX_at hk h (by rw [h1]; exact h0), h1]
  exact prepX_no h0
theorem talD_few {n : Nat} {enough : Int} {vo : Nat → Msg × Int} {mu : Nat → Int} {tw : Nat → Bool} (h : ∀ j, j < n → rndD vo mu tw j = 0) (he : (n : Int) < enough) (m : Msg) : prepX (m, 0) (talD n enough vo mu tw) = (msg0, 32) := by
  unfold talD
  rw [findX_ok h, if_pos he]
  exact prepX_no (by decide)
theorem talD_ok {n : Nat} {enough : Int} {vo : Nat → Msg × Int} {mu : Nat → Int} {tw : Nat → Bool} (h : ∀ j, j < n → rndD vo mu tw j = 0) (he : ¬ (n : Int) < enough) (m : Msg) : prepX (m, 0) (talD n enough vo mu tw) = (m, 0) := by
  unfold talD
  rw [findX_ok h, if_neg he]
  exact prepX_ok rfl
theorem votesC_1 {p m : Msg} (h : ¬ m.v = p.v) : votesC p m = 130 := if_neg h
theorem votesC_2 {p m : Msg} (h : m.v = p.v) (h2 : ¬ m.s = p.s) : votesC p m = 131 := by unfold votesC; rw [if_pos h, if_neg h2]
theorem votesC_3 {p m : Msg} (h : m.v = p.v) (h2 : m.s = p.s) (h3 : ¬ m.d = p.d) : votesC p m = 132 := by unfold votesC; rw [if_pos h, if_pos h2, if_neg h3]
theorem votesC_4 {p m : Msg} (h : m.v = p.v) (h2 : m.s = p.s) (h3 : m.d = p.d) : votesC p m = 0 := by unfold votesC; rw [if_pos h, if_pos h2, if_pos h3]
theorem primC_1 {p m : Msg} {t s0 : Int} (h : ¬ votesC p m = 0) : primC p m t s0 = votesC p m := if_neg h
theorem primC_2 {p m : Msg} {t s0 : Int} (h : votesC p m = 0) (h2 : t = s0) : primC p m t s0 = 133 := by unfold primC; rw [if_pos h, if_pos h2]
theorem primC_3 {p m : Msg} {t s0 : Int} (h : votesC p m = 0) (h2 : ¬ t = s0) : primC p m t s0 = 0 := by unfold primC; rw [if_pos h, if_neg h2]

set_option maxHeartbeats 8000000 in
theorem rCert3_of (pa : Value) (c : Crt) (bv : Value) (A : Option Addr) (cc : Nat) (need : Int) (w : World) (p : Msg × Int) (vo : Nat → Msg × Int) (pr : Int) (hv : Bs w bv c.1.2) (hl : EnvK w A cc c.2)
    (hP : ∀ W, Below w.heap.size w W → Calls Tryz.prog 108 #[pa, agE c.1.1 bv] W (DecN p W))
    (hV : p.2 = 0 → ∀ (k : Nat) (hk : k < c.2.length) W bv, Below w.heap.size w W → Bs W bv c.2[k].2 → Calls Tryz.prog 69 #[pa, agE c.2[k].1 bv, .int .i64 3] W (DecN (vo k) W))
    (hR : p.2 = 0 → ∀ W, Below w.heap.size w W → Calls Tryz.prog 39 #[pa, .int .i64 p.1.v] W (Says (.int .i64 pr) W)) :
    Calls Tryz.prog 62 #[pa, agC c bv A cc, .int .i64 3, .int .i64 need] w (DecN (prepX p (talD c.2.length need vo (fun k => primC p.1 (vo k).1 (envAt0 c.2 k) pr) (twB c.2))) w) := by
  obtain ⟨BA, bc0, rfl, -⟩ := hv.open
  have HPP := Lib.hid hP
  have HL := Lib.hid hl
  have hn63 : c.2.length ≤ 9223372036854775807 := by have h3 := hl.1; have h4 := hl.2.1; unfold maxLen at h4; omega
  have HTW := Lib.hid (fun i hi W (hb : Below w.heap.size w W) => rTwice_any A cc c.2 i hi W (hl.below hb))
  have HEX := Lib.hid (fun k hk => env_open hl k hk)
  clear hP hv hl
  obtain ⟨⟨s0, b0⟩, l⟩ := c
  obtain ⟨m, y⟩ := p
  simp only at *
  obtain ⟨x1, x2, x3⟩ := box2B w #[.int .i64 s0, .slice BA b0.length bc0, .slice A l.length cc] msH 50 57
  generalize b0.length = bn at *
  go_enter Tryz.func62, Tryz.ntmps62
  go_upto_region 1 with fail
  generalize hw0 : (w.alloc _).alloc _ = w0 at *
  have HR := Lib.hid x1
  have HX := Lib.hid x2
  have HB := Lib.hid x3
  have r0 := rowCell HR.out 0 (.int .i64 s0) rfl
  have r1 := rowCell HR.out 1 (.slice BA bn bc0) rfl
  clear x1 x2 x3 hw0
  go_upto_region 2 with (go_at_call 108; go_loud (refine (HPP.out _ HB.out).mono ?_; rintro e w2 ⟨P, rfl, hk, hb⟩; have HB1 := Lib.hid HB.out; have HK := Lib.hid hk; have HP := Lib.hid (keep_alloc (B := w0.heap.size) w2 (.cells (msC m P) 57)); have HZ1 := Lib.hid (Array.getElem?_eq_some_iff.1 HX.out).1; have HR := Lib.hid (heapB HR.out hb); have HX := Lib.hid (heapB HX.out hb); have HB := Lib.hid (bel2M HB.out hb); clear hb hk))
  have HBX := Lib.hid (heap_alloc_new w2 (.cells (msC m P) 57))
  have HR := Lib.hid (heapB HR.out (alloc1B w2 (.cells (msC m P) 57)))
  have HX := Lib.hid (heapB HX.out (alloc1B w2 (.cells (msC m P) 57)))
  have HB := Lib.hid (bel2M HB.out (alloc1B w2 (.cells (msC m P) 57)))
  generalize hw3 : w2.alloc _ = w3 at *
  clear hw3 r0 r1
  by_cases h0 : y = 0
  case neg =>
    have HZ := Lib.hid (show ∀ t, prepX (m, y) t = (msg0, y) from fun t => if_neg h0)
    have hq : (y != 0) = true := by simpa using h0
    clear h0
    go_wp2_with (refine wpList_storeAll rfl 57 _ _ rfl (w.heap.size + 1) _ _ rfl rfl HX.out rfl (by kernel_rfl) (by kernel_rfl) ?_; intro w9 hz hh ho; have HY := Lib.hid hh; have HB9 := Lib.hid (onlyBelow HB.out ho (by omega) (Nat.le_refl _)); have HO9 := Lib.hid ho; clear hz hh ho)
    refine bodyPost_ret (results_cell2 rfl _ _ (w.heap.size + 1) 57 _ (0, 0) _ rfl HY.out Tryz.underlying57 rfl (by kernel_rfl)) rfl ?_
    rw [HZ.out]
    exact decN0 w _ y HB9.out
  subst h0
  have HV := Lib.hid (hV rfl)
  have HPR := Lib.hid (hR rfl)
  have HN63 := Lib.hid hn63
  clear hV hR
  go_wp2
  go_loopw [12] (fun i wr => ∃ (k : Nat), k ≤ l.length ∧ i = .int .i64 k ∧ (∀ j, j < k → rndD vo (fun k => primC m (vo k).1 (envAt0 l k) pr) (twB l) j = 0) ∧ Below w3.heap.size w3 wr) (fun i _ => l.length - (intOf i).toNat)
  case atStart => exact ⟨0, Nat.zero_le _, rfl, fun j hj => absurd hj (Nat.not_lt_zero _), Below.refl _ _⟩
  case round =>
    obtain ⟨k, hk, rfl, hall, hbel⟩ := hrel
    have HALL := Lib.hid hall
    have HBEL := Lib.hid hbel
    clear hall hbel
    have r2 := rowCell (heapB HR.out HBEL.out) 2 (.slice A l.length cc) rfl
    by_cases hlt : k < l.length
    · have hltI : (k : Int) < (l.length : Int) := by omega
      have HVK := Lib.hid (HV.out k hlt)
      have HTK := Lib.hid (HTW.out k hlt)
      obtain ⟨ad, bvk, rfl, hbl, h1, h2, h3⟩ := HEX.out k hlt
      obtain ⟨BA1, bc1, rfl, -⟩ := h3.open
      have HWR := Lib.hid (bel2M HB.out HBEL.out)
      have c1 := cellM HWR.out (p := ad.add (k * 2)) (by rw [block_add]; exact hbl) h1
      have c2 := cellM HWR.out (p := ⟨(ad.add (k * 2)).block, (ad.add (k * 2)).off + 1, none⟩) (by rw [block_add]; exact hbl) h2
      have HC1 := Lib.hid c1
      have HVB := Lib.hid h3
      have HLT := Lib.hid hlt
      have HAT := Lib.hid (fun x (hx1 : rndD vo (fun k => primC m (vo k).1 (envAt0 l k) pr) (twB l) k = x) (hx : x ≠ 0) => talD_at (enough := need) hlt HALL.out hx1 hx m)
      have hsk : envAt0 l k = l[k].1 := envAt0_eq hlt
      generalize hxk : l[k] = xk at *
      clear hxk h1 h2 h3 hlt
      obtain ⟨sk, bk⟩ := xk
      simp only at HVK c1 c2 HC1 HVB hsk
      have HSK := Lib.hid hsk
      clear hsk
      rcases hvk : vo k with ⟨mv, yv⟩
      have HVO := Lib.hid hvk
      rw [hvk] at HVK
      clear hvk
      go_upto_region 8 with (go_at_call 69; go_loud (refine (HVK.out _ _ HWR.out (HVB.out.below HWR.out (Nat.le_refl _))).mono ?_; rintro e w5 ⟨P5, rfl, -, hb⟩; have HB5 := Lib.hid (bel2M HBEL.out hb); have HBV := Lib.hid (alloc1B w5 (.cells (msC mv P5) 57)); have HV5 := Lib.hid (heap_alloc_new w5 (.cells (msC mv P5) 57)); have HWB := Lib.hid (bel2M hb (alloc1B w5 (.cells (msC mv P5) 57))); clear hb))
      have HB6 := Lib.hid (bel2M HB5.out HBV.out)
      generalize hw6 : w5.alloc _ = w6 at *
      clear hw6 c1 c2 r2
      have HX6 := Lib.hid (heapB HX.out HB6.out)
      have HBB := Lib.hid (bel2M HB.out HB6.out)
      by_cases hy : yv = 0
      case neg =>
        have hz := HAT.out yv (by rw [rndD_1 (by rw [HVO.out]; exact hy), HVO.out]) hy
        have HZ := Lib.hid hz
        have hq : (yv != 0) = true := by simpa using hy
        clear hz hy
        go_wp2_with (refine wpList_storeAll rfl 57 _ _ rfl (w.heap.size + 1) _ _ rfl rfl HX6.out rfl (by kernel_rfl) (by kernel_rfl) ?_; intro w9 hz hh ho; have HY := Lib.hid hh; have HB9 := Lib.hid (onlyBelow HBB.out ho (by omega) (Nat.le_refl _)); have HO9 := Lib.hid ho; clear hz hh ho)
        refine bodyPost_ret (results_cell2 rfl _ _ (w.heap.size + 1) 57 _ (0, 0) _ rfl HY.out Tryz.underlying57 rfl (by kernel_rfl)) rfl ?_
        rw [HZ.out]
        exact decN0 w _ yv HB9.out
      subst hy
      have HV0 := Lib.hid (show (vo k).2 = 0 by rw [HVO.out])
      have HVM := Lib.hid (show (vo k).1 = mv by rw [HVO.out])
      have v1 := rowCell HV5.out 1 (.int .i64 mv.v) rfl
      have v2 := rowCell HV5.out 2 (.int .i64 mv.s) rfl
      have v5 := rowCell HV5.out 5 (.string (strB mv.d)) rfl
      have p1 := rowCell (heapB HBX.out HB6.out) 1 (.int .i64 m.v) rfl
      have p2 := rowCell (heapB HBX.out HB6.out) 2 (.int .i64 m.s) rfl
      have p5 := rowCell (heapB HBX.out HB6.out) 5 (.string (strB m.d)) rfl
      by_cases ea : mv.v = m.v
      case neg =>
        have hz := HAT.out 130 (by rw [rndD_2 HV0.out (by (try dsimp only); rw [HVM.out, HSK.out, primC_1 (by rw [votesC_1 ea]; decide), votesC_1 ea]; decide)]; (try dsimp only); rw [HVM.out, HSK.out, primC_1 (by rw [votesC_1 ea]; decide), votesC_1 ea]) (by decide)
        have HZ := Lib.hid hz
        have hq : (mv.v != m.v) = true := by simpa using ea
        clear hz ea
        go_wp2_with (refine wpList_storeAll rfl 57 _ _ rfl (w.heap.size + 1) _ _ rfl rfl HX6.out rfl (by kernel_rfl) (by kernel_rfl) ?_; intro w9 hz hh ho; have HY := Lib.hid hh; have HB9 := Lib.hid (onlyBelow HBB.out ho (by omega) (Nat.le_refl _)); have HO9 := Lib.hid ho; clear hz hh ho)
        refine bodyPost_ret (results_cell2 rfl _ _ (w.heap.size + 1) 57 _ (0, 0) _ rfl HY.out Tryz.underlying57 rfl (by kernel_rfl)) rfl ?_
        rw [HZ.out]
        exact decN0 w _ 130 HB9.out
      have qea : (mv.v != m.v) = false := by simpa using ea
      have Hea := Lib.hid ea
      clear ea
      by_cases eb : mv.s = m.s
      case neg =>
        have hz := HAT.out 131 (by rw [rndD_2 HV0.out (by (try dsimp only); rw [HVM.out, HSK.out, primC_1 (by rw [votesC_2 Hea.out eb]; decide), votesC_2 Hea.out eb]; decide)]; (try dsimp only); rw [HVM.out, HSK.out, primC_1 (by rw [votesC_2 Hea.out eb]; decide), votesC_2 Hea.out eb]) (by decide)
        have HZ := Lib.hid hz
        have hq : (mv.s != m.s) = true := by simpa using eb
        clear hz eb
        go_wp2_with (refine wpList_storeAll rfl 57 _ _ rfl (w.heap.size + 1) _ _ rfl rfl HX6.out rfl (by kernel_rfl) (by kernel_rfl) ?_; intro w9 hz hh ho; have HY := Lib.hid hh; have HB9 := Lib.hid (onlyBelow HBB.out ho (by omega) (Nat.le_refl _)); have HO9 := Lib.hid ho; clear hz hh ho)
        refine bodyPost_ret (results_cell2 rfl _ _ (w.heap.size + 1) 57 _ (0, 0) _ rfl HY.out Tryz.underlying57 rfl (by kernel_rfl)) rfl ?_
        rw [HZ.out]
        exact decN0 w _ 131 HB9.out
      have qeb : (mv.s != m.s) = false := by simpa using eb
      have Heb := Lib.hid eb
      clear eb
      by_cases ec : mv.d = m.d
      case neg =>
        have hz := HAT.out 132 (by rw [rndD_2 HV0.out (by (try dsimp only); rw [HVM.out, HSK.out, primC_1 (by rw [votesC_3 Hea.out Heb.out ec]; decide), votesC_3 Hea.out Heb.out ec]; decide)]; (try dsimp only); rw [HVM.out, HSK.out, primC_1 (by rw [votesC_3 Hea.out Heb.out ec]; decide), votesC_3 Hea.out Heb.out ec]) (by decide)
        have HZ := Lib.hid hz
        have hq : ((strB mv.d).toList == (strB m.d).toList) = false := digH_ne ec
        clear hz ec
        go_wp2_with (refine wpList_storeAll rfl 57 _ _ rfl (w.heap.size + 1) _ _ rfl rfl HX6.out rfl (by kernel_rfl) (by kernel_rfl) ?_; intro w9 hz hh ho; have HY := Lib.hid hh; have HB9 := Lib.hid (onlyBelow HBB.out ho (by omega) (Nat.le_refl _)); have HO9 := Lib.hid ho; clear hz hh ho)
        refine bodyPost_ret (results_cell2 rfl _ _ (w.heap.size + 1) 57 _ (0, 0) _ rfl HY.out Tryz.underlying57 rfl (by kernel_rfl)) rfl ?_
        rw [HZ.out]
        exact decN0 w _ 132 HB9.out
      have qec : ((strB mv.d).toList == (strB m.d).toList) = true := by rw [ec]; exact digH_eq _
      have Hec := Lib.hid ec
      clear ec
      have HVC := Lib.hid (votesC_4 Hea.out Heb.out Hec.out)
      have HSS := Lib.hid (show ∀ W, Below w6.heap.size w6 W → (fun W => Below w6.heap.size w6 W ∧ W.cell? ⟨w.heap.size, 2, none⟩ = some (.slice (some ad) l.length cc) ∧ W.cell? (ad.add (k * 2)) = some (.int .i64 sk) ∧ W.cell? ⟨w2.heap.size, 1, none⟩ = some (.int .i64 m.v)) W from fun W h => ⟨h, rowCell (heapB HR.out (bel2M HB6.out h)) 2 _ rfl, cellB HC1.out (bel2M HWB.out h), rowCell (heapB HBX.out (bel2M HB6.out h)) 1 _ rfl⟩)
      go_upto_region 16 with fail
      have HD := Lib.hid (HSS.out w6.drew (Below.refl _ _).drew)
      by_cases hpr : sk = pr
      case pos =>
        have hz := HAT.out 133 (by rw [rndD_2 HV0.out (by (try dsimp only); rw [HVM.out, HSK.out, primC_2 HVC.out hpr]; decide)]; (try dsimp only); rw [HVM.out, HSK.out, primC_2 HVC.out hpr]) (by decide)
        have HZ := Lib.hid hz
        have hq : (sk == pr) = true := by simpa using hpr
        clear hz hpr v1 v2 v5 p1 p2 p5
        go_region_held3 (fun W => Below w6.heap.size w6 W ∧ W.cell? ⟨w.heap.size, 2, none⟩ = some (.slice (some ad) l.length cc) ∧ W.cell? (ad.add (k * 2)) = some (.int .i64 sk) ∧ W.cell? ⟨w2.heap.size, 1, none⟩ = some (.int .i64 m.v)) (exact HD.out) (first | (go_at_call 39; refine (HPR.out _ (bel2M HBB.out HD.out.1)).mono ?_; rintro e w7 ⟨rfl, rfl⟩))
        have HX7 := Lib.hid (heapB HX6.out HD.out.1)
        have HB7 := Lib.hid (bel2M HBB.out HD.out.1)
        go_wp2_with (refine wpList_storeAll rfl 57 _ _ rfl (w.heap.size + 1) _ _ rfl rfl HX7.out rfl (by kernel_rfl) (by kernel_rfl) ?_; intro w9 hz hh ho; have HY := Lib.hid hh; have HB9 := Lib.hid (onlyBelow HB7.out ho (by omega) (Nat.le_refl _)); have HO9 := Lib.hid ho; clear hz hh ho)
        refine bodyPost_ret (results_cell2 rfl _ _ (w.heap.size + 1) 57 _ (0, 0) _ rfl HY.out Tryz.underlying57 rfl (by kernel_rfl)) rfl ?_
        rw [HZ.out]
        exact decN0 w _ 133 HB9.out
      have HMU := Lib.hid (show (fun k => primC m (vo k).1 (envAt0 l k) pr) k = 0 from by (try dsimp only); rw [HVM.out, HSK.out]; exact primC_3 HVC.out hpr)
      have hq : (sk == pr) = false := by simpa using hpr
      clear hpr v1 v2 v5 p1 p2 p5
      go_region_held3 (fun W => Below w6.heap.size w6 W ∧ W.cell? ⟨w.heap.size, 2, none⟩ = some (.slice (some ad) l.length cc) ∧ W.cell? (ad.add (k * 2)) = some (.int .i64 sk) ∧ W.cell? ⟨w2.heap.size, 1, none⟩ = some (.int .i64 m.v)) (exact HD.out) (first | (go_at_call 39; refine (HPR.out _ (bel2M HBB.out HD.out.1)).mono ?_; rintro e w7 ⟨rfl, rfl⟩))
      have HW6 := Lib.hid HD.out.1
      have HB7 := Lib.hid (bel2M HBB.out HW6.out)
      have HR7 := Lib.hid (heapB HR.out (bel2M HB6.out HW6.out))
      have HX7 := Lib.hid (heapB HX6.out HW6.out)
      have HE7 := Lib.hid (bel2M HB6.out HW6.out)
      have r2 := rowCell HR7.out 2 (.slice (some ad) l.length cc) rfl
      rcases htw : twB l k with _ | _
      · have HA2 := Lib.hid (show ∀ j, j < k + 1 → rndD vo (fun k => primC m (vo k).1 (envAt0 l k) pr) (twB l) j = 0 from fun j hj => by
          by_cases hjk : j < k
          · exact HALL.out j hjk
          · obtain rfl : j = k := by omega
            exact rndD_4 HV0.out HMU.out htw)
        rw [htw] at HTK
        clear htw HALL
        go_wp2_with (go_at_call 70; refine (HTK.out _ HB7.out).mono ?_; rintro e w8 ⟨rfl, hb⟩; have HE8 := Lib.hid (bel2M HE7.out hb); clear hb)
        go_roundw
        case rel => exact ⟨k + 1, by have := HLT.out; omega, by have := HN63.out; go_num, HA2.out, HE8.out⟩
        case measure => simp [intOf]; have := HLT.out; omega
      · have hz := HAT.out 33 (rndD_3 HV0.out HMU.out htw) (by decide)
        have HZ := Lib.hid hz
        rw [htw] at HTK
        clear htw hz
        go_wp2_with (first
          | (go_at_call 70; refine (HTK.out _ HB7.out).mono ?_; rintro e w8 ⟨rfl, hb⟩; have HX8 := Lib.hid (heapB HX7.out hb); have HB8 := Lib.hid (bel2M HB7.out hb); clear hb)
          | (refine wpList_storeAll rfl 57 _ _ rfl (w.heap.size + 1) _ _ rfl rfl HX8.out rfl (by kernel_rfl) (by kernel_rfl) ?_; intro w9 hz hh ho; have HY := Lib.hid hh; have HB9 := Lib.hid (onlyBelow HB8.out ho (by omega) (Nat.le_refl _)); have HO9 := Lib.hid ho; clear hz hh ho))
        refine bodyPost_ret (results_cell2 rfl _ _ (w.heap.size + 1) 57 _ (0, 0) _ rfl HY.out Tryz.underlying57 rfl (by kernel_rfl)) rfl ?_
        rw [HZ.out]
        exact decN0 w _ 33 HB9.out
    · obtain rfl : k = l.length := by omega
      have hltI : ¬ (l.length : Int) < (l.length : Int) := by omega
      have HX6 := Lib.hid (heapB HX.out HBEL.out)
      have HBX6 := Lib.hid (heapB HBX.out HBEL.out)
      have HBB := Lib.hid (bel2M HB.out HBEL.out)
      have HP6 := Lib.hid (keep_below HP.out HBEL.out)
      by_cases hn : (l.length : Int) < need
      · have HZ := Lib.hid (talD_few HALL.out hn m)
        go_wp2_with (refine wpList_storeAll rfl 57 _ _ rfl (w.heap.size + 1) _ _ rfl rfl HX6.out rfl (by kernel_rfl) (by kernel_rfl) ?_; intro w9 hz hh ho; have HY := Lib.hid hh; have HB9 := Lib.hid (onlyBelow HBB.out ho (by omega) (Nat.le_refl _)); have HO9 := Lib.hid ho; clear hz hh ho)
        refine bodyPost_ret (results_cell2 rfl _ _ (w.heap.size + 1) 57 _ (0, 0) _ rfl HY.out Tryz.underlying57 rfl (by kernel_rfl)) rfl ?_
        rw [HZ.out]
        exact decN0 w _ 32 HB9.out
      · have HZ := Lib.hid (talD_ok HALL.out hn m)
        go_wp2_with (first
          | (refine wpList_load_mid rfl 57 _ rfl w2.heap.size 0 rfl _ _ (heap_all HBX6.out) Tryz.underlying57 rfl (by kernel_rfl) ?_)
          | (refine wpList_storeAll rfl 57 _ _ rfl (w.heap.size + 1) _ _ rfl rfl HX6.out rfl (by kernel_rfl) (by kernel_rfl) ?_; intro w9 hz hh ho; have HY := Lib.hid hh; have HB9 := Lib.hid (onlyBelow HBB.out ho (by omega) (Nat.le_refl _)); have HO9 := Lib.hid ho; clear hz hh ho))
        refine bodyPost_ret (results_cell2 rfl _ _ (w.heap.size + 1) 57 _ (0, 0) _ rfl HY.out Tryz.underlying57 rfl (by kernel_rfl)) rfl ?_
        rw [HZ.out]
        exact ⟨P, rfl, fun W hW => HK.out W (kpb_to (keep_only HP6.out HO9.out HZ1.out) hW HB1.out.size), HB9.out⟩

set_option maxHeartbeats 8000000 in
theorem rCert4_of (pa : Value) (c : Crt) (bv : Value) (A : Option Addr) (cc : Nat) (need : Int) (w : World) (p : Msg × Int) (vo : Nat → Msg × Int) (pr : Int) (hv : Bs w bv c.1.2) (hl : EnvK w A cc c.2)
    (hP : ∀ W, Below w.heap.size w W → Calls Tryz.prog 108 #[pa, agE c.1.1 bv] W (DecN p W))
    (hV : p.2 = 0 → ∀ (k : Nat) (hk : k < c.2.length) W bv, Below w.heap.size w W → Bs W bv c.2[k].2 → Calls Tryz.prog 69 #[pa, agE c.2[k].1 bv, .int .i64 4] W (DecN (vo k) W))
    (hR : p.2 = 0 → ∀ W, Below w.heap.size w W → Calls Tryz.prog 39 #[pa, .int .i64 p.1.v] W (Says (.int .i64 pr) W)) :
    Calls Tryz.prog 62 #[pa, agC c bv A cc, .int .i64 4, .int .i64 need] w (DecN (prepX p (talD c.2.length need vo (fun k => votesC p.1 (vo k).1) (twB c.2))) w) := by
  obtain ⟨BA, bc0, rfl, -⟩ := hv.open
  have HPP := Lib.hid hP
  have HL := Lib.hid hl
  have hn63 : c.2.length ≤ 9223372036854775807 := by have h3 := hl.1; have h4 := hl.2.1; unfold maxLen at h4; omega
  have HTW := Lib.hid (fun i hi W (hb : Below w.heap.size w W) => rTwice_any A cc c.2 i hi W (hl.below hb))
  have HEX := Lib.hid (fun k hk => env_open hl k hk)
  clear hP hv hl
  obtain ⟨⟨s0, b0⟩, l⟩ := c
  obtain ⟨m, y⟩ := p
  simp only at *
  obtain ⟨x1, x2, x3⟩ := box2B w #[.int .i64 s0, .slice BA b0.length bc0, .slice A l.length cc] msH 50 57
  generalize b0.length = bn at *
  go_enter Tryz.func62, Tryz.ntmps62
  go_upto_region 1 with fail
  generalize hw0 : (w.alloc _).alloc _ = w0 at *
  have HR := Lib.hid x1
  have HX := Lib.hid x2
  have HB := Lib.hid x3
  have r0 := rowCell HR.out 0 (.int .i64 s0) rfl
  have r1 := rowCell HR.out 1 (.slice BA bn bc0) rfl
  clear x1 x2 x3 hw0
  go_upto_region 2 with (go_at_call 108; go_loud (refine (HPP.out _ HB.out).mono ?_; rintro e w2 ⟨P, rfl, hk, hb⟩; have HB1 := Lib.hid HB.out; have HK := Lib.hid hk; have HP := Lib.hid (keep_alloc (B := w0.heap.size) w2 (.cells (msC m P) 57)); have HZ1 := Lib.hid (Array.getElem?_eq_some_iff.1 HX.out).1; have HR := Lib.hid (heapB HR.out hb); have HX := Lib.hid (heapB HX.out hb); have HB := Lib.hid (bel2M HB.out hb); clear hb hk))
  have HBX := Lib.hid (heap_alloc_new w2 (.cells (msC m P) 57))
  have HR := Lib.hid (heapB HR.out (alloc1B w2 (.cells (msC m P) 57)))
  have HX := Lib.hid (heapB HX.out (alloc1B w2 (.cells (msC m P) 57)))
  have HB := Lib.hid (bel2M HB.out (alloc1B w2 (.cells (msC m P) 57)))
  generalize hw3 : w2.alloc _ = w3 at *
  clear hw3 r0 r1
  by_cases h0 : y = 0
  case neg =>
    have HZ := Lib.hid (show ∀ t, prepX (m, y) t = (msg0, y) from fun t => if_neg h0)
    have hq : (y != 0) = true := by simpa using h0
    clear h0
    go_wp2_with (refine wpList_storeAll rfl 57 _ _ rfl (w.heap.size + 1) _ _ rfl rfl HX.out rfl (by kernel_rfl) (by kernel_rfl) ?_; intro w9 hz hh ho; have HY := Lib.hid hh; have HB9 := Lib.hid (onlyBelow HB.out ho (by omega) (Nat.le_refl _)); have HO9 := Lib.hid ho; clear hz hh ho)
    refine bodyPost_ret (results_cell2 rfl _ _ (w.heap.size + 1) 57 _ (0, 0) _ rfl HY.out Tryz.underlying57 rfl (by kernel_rfl)) rfl ?_
    rw [HZ.out]
    exact decN0 w _ y HB9.out
  subst h0
  have HV := Lib.hid (hV rfl)
  have HPR := Lib.hid (hR rfl)
  have HN63 := Lib.hid hn63
  clear hV hR
  go_wp2
  go_loopw [12] (fun i wr => ∃ (k : Nat), k ≤ l.length ∧ i = .int .i64 k ∧ (∀ j, j < k → rndD vo (fun k => votesC m (vo k).1) (twB l) j = 0) ∧ Below w3.heap.size w3 wr) (fun i _ => l.length - (intOf i).toNat)
  case atStart => exact ⟨0, Nat.zero_le _, rfl, fun j hj => absurd hj (Nat.not_lt_zero _), Below.refl _ _⟩
  case round =>
    obtain ⟨k, hk, rfl, hall, hbel⟩ := hrel
    have HALL := Lib.hid hall
    have HBEL := Lib.hid hbel
    clear hall hbel
    have r2 := rowCell (heapB HR.out HBEL.out) 2 (.slice A l.length cc) rfl
    by_cases hlt : k < l.length
    · have hltI : (k : Int) < (l.length : Int) := by omega
      have HVK := Lib.hid (HV.out k hlt)
      have HTK := Lib.hid (HTW.out k hlt)
      obtain ⟨ad, bvk, rfl, hbl, h1, h2, h3⟩ := HEX.out k hlt
      obtain ⟨BA1, bc1, rfl, -⟩ := h3.open
      have HWR := Lib.hid (bel2M HB.out HBEL.out)
      have c1 := cellM HWR.out (p := ad.add (k * 2)) (by rw [block_add]; exact hbl) h1
      have c2 := cellM HWR.out (p := ⟨(ad.add (k * 2)).block, (ad.add (k * 2)).off + 1, none⟩) (by rw [block_add]; exact hbl) h2
      have HC1 := Lib.hid c1
      have HVB := Lib.hid h3
      have HLT := Lib.hid hlt
      have HAT := Lib.hid (fun x (hx1 : rndD vo (fun k => votesC m (vo k).1) (twB l) k = x) (hx : x ≠ 0) => talD_at (enough := need) hlt HALL.out hx1 hx m)
      have hsk : envAt0 l k = l[k].1 := envAt0_eq hlt
      generalize hxk : l[k] = xk at *
      clear hxk h1 h2 h3 hlt
      obtain ⟨sk, bk⟩ := xk
      simp only at HVK c1 c2 HC1 HVB hsk
      have HSK := Lib.hid hsk
      clear hsk
      rcases hvk : vo k with ⟨mv, yv⟩
      have HVO := Lib.hid hvk
      rw [hvk] at HVK
      clear hvk
      go_upto_region 8 with (go_at_call 69; go_loud (refine (HVK.out _ _ HWR.out (HVB.out.below HWR.out (Nat.le_refl _))).mono ?_; rintro e w5 ⟨P5, rfl, -, hb⟩; have HB5 := Lib.hid (bel2M HBEL.out hb); have HBV := Lib.hid (alloc1B w5 (.cells (msC mv P5) 57)); have HV5 := Lib.hid (heap_alloc_new w5 (.cells (msC mv P5) 57)); have HWB := Lib.hid (bel2M hb (alloc1B w5 (.cells (msC mv P5) 57))); clear hb))
      have HB6 := Lib.hid (bel2M HB5.out HBV.out)
      generalize hw6 : w5.alloc _ = w6 at *
      clear hw6 c1 c2 r2
      have HX6 := Lib.hid (heapB HX.out HB6.out)
      have HBB := Lib.hid (bel2M HB.out HB6.out)
      by_cases hy : yv = 0
      case neg =>
        have hz := HAT.out yv (by rw [rndD_1 (by rw [HVO.out]; exact hy), HVO.out]) hy
        have HZ := Lib.hid hz
        have hq : (yv != 0) = true := by simpa using hy
        clear hz hy
        go_wp2_with (refine wpList_storeAll rfl 57 _ _ rfl (w.heap.size + 1) _ _ rfl rfl HX6.out rfl (by kernel_rfl) (by kernel_rfl) ?_; intro w9 hz hh ho; have HY := Lib.hid hh; have HB9 := Lib.hid (onlyBelow HBB.out ho (by omega) (Nat.le_refl _)); have HO9 := Lib.hid ho; clear hz hh ho)
        refine bodyPost_ret (results_cell2 rfl _ _ (w.heap.size + 1) 57 _ (0, 0) _ rfl HY.out Tryz.underlying57 rfl (by kernel_rfl)) rfl ?_
        rw [HZ.out]
        exact decN0 w _ yv HB9.out
      subst hy
      have HV0 := Lib.hid (show (vo k).2 = 0 by rw [HVO.out])
      have HVM := Lib.hid (show (vo k).1 = mv by rw [HVO.out])
      have v1 := rowCell HV5.out 1 (.int .i64 mv.v) rfl
      have v2 := rowCell HV5.out 2 (.int .i64 mv.s) rfl
      have v5 := rowCell HV5.out 5 (.string (strB mv.d)) rfl
      have p1 := rowCell (heapB HBX.out HB6.out) 1 (.int .i64 m.v) rfl
      have p2 := rowCell (heapB HBX.out HB6.out) 2 (.int .i64 m.s) rfl
      have p5 := rowCell (heapB HBX.out HB6.out) 5 (.string (strB m.d)) rfl
      by_cases ea : mv.v = m.v
      case neg =>
        have hz := HAT.out 130 (by rw [rndD_2 HV0.out (by (try dsimp only); rw [HVM.out, votesC_1 ea]; decide)]; (try dsimp only); rw [HVM.out, votesC_1 ea]) (by decide)
        have HZ := Lib.hid hz
        have hq : (mv.v != m.v) = true := by simpa using ea
        clear hz ea
        go_wp2_with (refine wpList_storeAll rfl 57 _ _ rfl (w.heap.size + 1) _ _ rfl rfl HX6.out rfl (by kernel_rfl) (by kernel_rfl) ?_; intro w9 hz hh ho; have HY := Lib.hid hh; have HB9 := Lib.hid (onlyBelow HBB.out ho (by omega) (Nat.le_refl _)); have HO9 := Lib.hid ho; clear hz hh ho)
        refine bodyPost_ret (results_cell2 rfl _ _ (w.heap.size + 1) 57 _ (0, 0) _ rfl HY.out Tryz.underlying57 rfl (by kernel_rfl)) rfl ?_
        rw [HZ.out]
        exact decN0 w _ 130 HB9.out
      have qea : (mv.v != m.v) = false := by simpa using ea
      have Hea := Lib.hid ea
      clear ea
      by_cases eb : mv.s = m.s
      case neg =>
        have hz := HAT.out 131 (by rw [rndD_2 HV0.out (by (try dsimp only); rw [HVM.out, votesC_2 Hea.out eb]; decide)]; (try dsimp only); rw [HVM.out, votesC_2 Hea.out eb]) (by decide)
        have HZ := Lib.hid hz
        have hq : (mv.s != m.s) = true := by simpa using eb
        clear hz eb
        go_wp2_with (refine wpList_storeAll rfl 57 _ _ rfl (w.heap.size + 1) _ _ rfl rfl HX6.out rfl (by kernel_rfl) (by kernel_rfl) ?_; intro w9 hz hh ho; have HY := Lib.hid hh; have HB9 := Lib.hid (onlyBelow HBB.out ho (by omega) (Nat.le_refl _)); have HO9 := Lib.hid ho; clear hz hh ho)
        refine bodyPost_ret (results_cell2 rfl _ _ (w.heap.size + 1) 57 _ (0, 0) _ rfl HY.out Tryz.underlying57 rfl (by kernel_rfl)) rfl ?_
        rw [HZ.out]
        exact decN0 w _ 131 HB9.out
      have qeb : (mv.s != m.s) = false := by simpa using eb
      have Heb := Lib.hid eb
      clear eb
      by_cases ec : mv.d = m.d
      case neg =>
        have hz := HAT.out 132 (by rw [rndD_2 HV0.out (by (try dsimp only); rw [HVM.out, votesC_3 Hea.out Heb.out ec]; decide)]; (try dsimp only); rw [HVM.out, votesC_3 Hea.out Heb.out ec]) (by decide)
        have HZ := Lib.hid hz
        have hq : ((strB mv.d).toList == (strB m.d).toList) = false := digH_ne ec
        clear hz ec
        go_wp2_with (refine wpList_storeAll rfl 57 _ _ rfl (w.heap.size + 1) _ _ rfl rfl HX6.out rfl (by kernel_rfl) (by kernel_rfl) ?_; intro w9 hz hh ho; have HY := Lib.hid hh; have HB9 := Lib.hid (onlyBelow HBB.out ho (by omega) (Nat.le_refl _)); have HO9 := Lib.hid ho; clear hz hh ho)
        refine bodyPost_ret (results_cell2 rfl _ _ (w.heap.size + 1) 57 _ (0, 0) _ rfl HY.out Tryz.underlying57 rfl (by kernel_rfl)) rfl ?_
        rw [HZ.out]
        exact decN0 w _ 132 HB9.out
      have qec : ((strB mv.d).toList == (strB m.d).toList) = true := by rw [ec]; exact digH_eq _
      have Hec := Lib.hid ec
      clear ec
      have HVC := Lib.hid (votesC_4 Hea.out Heb.out Hec.out)
      have HMU := Lib.hid (show (fun k => votesC m (vo k).1) k = 0 from by (try dsimp only); rw [HVM.out]; exact HVC.out)
      have r2 := rowCell (heapB HR.out HB6.out) 2 (.slice (some ad) l.length cc) rfl
      go_upto_region 16 with fail
      go_quiet (fail)
      generalize hdn : World.drewN w6 _ = wq
      have HW6 := Lib.hid (show Below w6.heap.size w6 wq from hdn ▸ below_drewN (Below.refl _ _) _)
      clear hdn v1 v2 v5 p1 p2 p5 r2
      have HB7 := Lib.hid (bel2M HBB.out HW6.out)
      have HR7 := Lib.hid (heapB HR.out (bel2M HB6.out HW6.out))
      have HX7 := Lib.hid (heapB HX6.out HW6.out)
      have HE7 := Lib.hid (bel2M HB6.out HW6.out)
      have r2 := rowCell HR7.out 2 (.slice (some ad) l.length cc) rfl
      rcases htw : twB l k with _ | _
      · have HA2 := Lib.hid (show ∀ j, j < k + 1 → rndD vo (fun k => votesC m (vo k).1) (twB l) j = 0 from fun j hj => by
          by_cases hjk : j < k
          · exact HALL.out j hjk
          · obtain rfl : j = k := by omega
            exact rndD_4 HV0.out HMU.out htw)
        rw [htw] at HTK
        clear htw HALL
        go_wp2_with (go_at_call 70; refine (HTK.out _ HB7.out).mono ?_; rintro e w8 ⟨rfl, hb⟩; have HE8 := Lib.hid (bel2M HE7.out hb); clear hb)
        go_roundw
        case rel => exact ⟨k + 1, by have := HLT.out; omega, by have := HN63.out; go_num, HA2.out, HE8.out⟩
        case measure => simp [intOf]; have := HLT.out; omega
      · have hz := HAT.out 33 (rndD_3 HV0.out HMU.out htw) (by decide)
        have HZ := Lib.hid hz
        rw [htw] at HTK
        clear htw hz
        go_wp2_with (first
          | (go_at_call 70; refine (HTK.out _ HB7.out).mono ?_; rintro e w8 ⟨rfl, hb⟩; have HX8 := Lib.hid (heapB HX7.out hb); have HB8 := Lib.hid (bel2M HB7.out hb); clear hb)
          | (refine wpList_storeAll rfl 57 _ _ rfl (w.heap.size + 1) _ _ rfl rfl HX8.out rfl (by kernel_rfl) (by kernel_rfl) ?_; intro w9 hz hh ho; have HY := Lib.hid hh; have HB9 := Lib.hid (onlyBelow HB8.out ho (by omega) (Nat.le_refl _)); have HO9 := Lib.hid ho; clear hz hh ho))
        refine bodyPost_ret (results_cell2 rfl _ _ (w.heap.size + 1) 57 _ (0, 0) _ rfl HY.out Tryz.underlying57 rfl (by kernel_rfl)) rfl ?_
        rw [HZ.out]
        exact decN0 w _ 33 HB9.out
    · obtain rfl : k = l.length := by omega
      have hltI : ¬ (l.length : Int) < (l.length : Int) := by omega
      have HX6 := Lib.hid (heapB HX.out HBEL.out)
      have HBX6 := Lib.hid (heapB HBX.out HBEL.out)
      have HBB := Lib.hid (bel2M HB.out HBEL.out)
      have HP6 := Lib.hid (keep_below HP.out HBEL.out)
      by_cases hn : (l.length : Int) < need
      · have HZ := Lib.hid (talD_few HALL.out hn m)
        go_wp2_with (refine wpList_storeAll rfl 57 _ _ rfl (w.heap.size + 1) _ _ rfl rfl HX6.out rfl (by kernel_rfl) (by kernel_rfl) ?_; intro w9 hz hh ho; have HY := Lib.hid hh; have HB9 := Lib.hid (onlyBelow HBB.out ho (by omega) (Nat.le_refl _)); have HO9 := Lib.hid ho; clear hz hh ho)
        refine bodyPost_ret (results_cell2 rfl _ _ (w.heap.size + 1) 57 _ (0, 0) _ rfl HY.out Tryz.underlying57 rfl (by kernel_rfl)) rfl ?_
        rw [HZ.out]
        exact decN0 w _ 32 HB9.out
      · have HZ := Lib.hid (talD_ok HALL.out hn m)
        go_wp2_with (first
          | (refine wpList_load_mid rfl 57 _ rfl w2.heap.size 0 rfl _ _ (heap_all HBX6.out) Tryz.underlying57 rfl (by kernel_rfl) ?_)
          | (refine wpList_storeAll rfl 57 _ _ rfl (w.heap.size + 1) _ _ rfl rfl HX6.out rfl (by kernel_rfl) (by kernel_rfl) ?_; intro w9 hz hh ho; have HY := Lib.hid hh; have HB9 := Lib.hid (onlyBelow HBB.out ho (by omega) (Nat.le_refl _)); have HO9 := Lib.hid ho; clear hz hh ho))
        refine bodyPost_ret (results_cell2 rfl _ _ (w.heap.size + 1) 57 _ (0, 0) _ rfl HY.out Tryz.underlying57 rfl (by kernel_rfl)) rfl ?_
        rw [HZ.out]
        exact ⟨P, rfl, fun W hW => HK.out W (kpb_to (keep_only HP6.out HO9.out HZ1.out) hW HB1.out.size), HB9.out⟩

set_option maxHeartbeats 8000000 in
theorem rPrepared_of (g2 : Nat) (f : Int) (c : Crt) (bv : Value) (A : Option Addr) (cc : Nat) (w : World) (X : Msg × Int) (hv : Bs w bv c.1.2) (hf : 0 ≤ f ∧ f ≤ 100)
    (hQ : ∀ W, Below w.heap.size w W → W.cell? ⟨g2, 1, none⟩ = some (.int .i64 f))
    (hC : ∀ W, Below w.heap.size w W → Calls Tryz.prog 62 #[.pointer (some ⟨g2, 0, none⟩), agC c bv A cc, .int .i64 3, .int .i64 (2 * f)] W (DecN X W)) :
    Calls Tryz.prog 25 #[.pointer (some ⟨g2, 0, none⟩), agC c bv A cc] w (DecN X w) := by
  obtain ⟨BA, bc0, rfl, -⟩ := hv.open
  obtain ⟨⟨s0, b0⟩, l⟩ := c
  obtain ⟨x, y⟩ := X
  simp only at *
  clear hv
  have hw2 : IntKind.i64.wrap (2 * f) = 2 * f := by rw [IntKind.wrap_i64]; omega
  have HC := Lib.hid hC
  have HQ := Lib.hid hQ
  obtain ⟨x1, x2, x3⟩ := box2B w #[.int .i64 s0, .slice BA b0.length bc0, .slice A l.length cc] msH 50 57
  clear hC hQ
  unfold agC at HC ⊢
  dsimp only at HC ⊢
  generalize b0.length = bn at *
  generalize l.length = ln at *
  go_enter Tryz.func25, Tryz.ntmps25
  go_upto_region 1 with fail
  generalize hw0 : (w.alloc _).alloc _ = w0 at *
  have HR := Lib.hid x1
  have HX := Lib.hid x2
  have HB := Lib.hid x3
  have HLT := Lib.hid (show w.heap.size + 1 < w0.heap.size from (Array.getElem?_eq_some_iff.1 x2).1)
  have HS := Lib.hid (show ∀ W, Below w0.heap.size w0 W → (fun W => Below w0.heap.size w0 W ∧ W.cell? ⟨w.heap.size, 0, none⟩ = some (.int .i64 s0) ∧ W.cell? ⟨w.heap.size, 1, none⟩ = some (.slice BA bn bc0) ∧ W.cell? ⟨w.heap.size, 2, none⟩ = some (.slice A ln cc) ∧ W.cell? ⟨g2, 1, none⟩ = some (.int .i64 f)) W from fun W h => ⟨h, rowCell (heapB HR.out h) 0 _ rfl, rowCell (heapB HR.out h) 1 _ rfl, rowCell (heapB HR.out h) 2 _ rfl, HQ.out W (bel2M HB.out h)⟩)
  have HG2 := Lib.hid (show g2 < w.heap.size from by have := World.block_lt_of_cell? _ _ (HQ.out w (Below.refl _ _)); exact this)
  have HS9 := Lib.hid (show ∀ (W W' : World), Below w0.heap.size w0 W → Only (w.heap.size + 1) W W' → True from fun _ _ _ _ => trivial)
  have HBn := Lib.hid (show Below w0.heap.size w0 w0.drew from (Below.refl _ _).drew)
  clear x1 x2 x3 hw0
  refine wp_region_held_drew (S := (fun W => W.cell? ⟨w.heap.size, 0, none⟩ = some (.int .i64 s0) ∧ W.cell? ⟨w.heap.size, 1, none⟩ = some (.slice BA bn bc0) ∧ W.cell? ⟨w.heap.size, 2, none⟩ = some (.slice A ln cc) ∧ W.cell? ⟨g2, 1, none⟩ = some (.int .i64 f))) (by kernel_rfl) ((HS.out _ HBn.out).2) (fun hHeld => ?_)
  refine tk 0 ?_
  (try simp only [Act.put, sA, sB, sC])
  refine tk 1 ?_
  (try simp only [Act.put, sA, sB, sC])
  refine tk 2 ?_
  (try simp only [Act.put, sA, sB, sC])
  refine tk 3 ?_
  (try simp only [Act.put, sA, sB, sC])
  refine tk 4 ?_
  (try simp only [Act.put, sA, sB, sC])
  refine tk 5 ?_
  (try simp only [Act.put, sA, sB, sC])
  refine tk 6 ?_
  (try simp only [Act.put, sA, sB, sC])
  refine wpAnyH_ready (rs := [7]) (by kernel_rfl) (by simp) ?_
  refine AllReadyH.cons (o := ?o8) ?g8 (fun K hK => ?j8) AllReadyH.nil
  case g8 => (simp only [gA, gB, gC]; rfl)
  go_simp
  (go_at_call 62; go_loud (refine (HC.out _ (bel2M HB.out HBn.out)).mono ?_))
  rintro e w2 ⟨P, rfl, hk, hb⟩
  have HK := Lib.hid hk
  have HBM := Lib.hid HBn.out.size
  have HZ := Lib.hid (heapB HX.out (bel2M HBn.out hb))
  have HBn := Lib.hid (bel2M HBn.out hb)
  have HKP := Lib.hid (kpb_refl w0.heap.size w2)
  clear hk hb
  refine hK.out _ _ ?_ (fun hHeld => ?_)
  · (try dsimp only); exact (HS.out _ HBn.out).2
  clear hK K
  (try simp only [Act.put, sA, sB, sC])
  refine tk 8 ?_
  (try simp only [Act.put, sA, sB, sC])
  refine tk 9 ?_
  (try simp only [Act.put, sA, sB, sC])
  refine wpAnyH_ready (rs := [10]) (by kernel_rfl) (by simp) ?_
  refine AllReadyH.cons (o := ?o11) ?g11 (fun K hK => ?j11) AllReadyH.nil
  case g11 => (simp only [gA, gB, gC]; rfl)
  refine step_store rfl 57 (.tmp 4) (.tmp 14) rfl (w.heap.size + 1) #[.int .i64 x.k, .int .i64 x.v, .int .i64 x.s, .int .i64 x.c, .int .i64 x.t, .string (strB x.d), .slice P.x.1 x.x.length P.x.2, .int .i64 x.r.1, .int .i64 x.r.2, .slice P.b.1 x.b.length P.b.2, .slice P.p.1 x.p.length P.p.2, .slice P.q.1 x.q.length P.q.2] msH rfl rfl HZ.out rfl (by kernel_rfl) (by intro u hu; simp only [List.mem_cons, List.not_mem_nil, or_false] at hu; rcases hu with rfl | rfl | rfl | rfl | rfl | rfl | rfl | rfl | rfl | rfl | rfl | rfl <;> rfl) ?_
  intro w9 hz9 ho9
  have HY := Lib.hid hz9
  have HO9 := Lib.hid ho9
  have HB9 := Lib.hid (onlyBelow (bel2M HB.out HBn.out) ho9 (by omega) (Nat.le_refl _))
  refine hK.out _ _ ?_ (fun hHeld => ?_)
  · (try dsimp only); (have hS := (HS.out _ HBn.out).2; exact ⟨onlyCell HO9.out hS.1 (by simp), onlyCell HO9.out hS.2.1 (by simp), onlyCell HO9.out hS.2.2.1 (by simp), onlyCell HO9.out hS.2.2.2 (by have := HG2.out; simp; omega)⟩)
  clear hK K
  (try simp only [Act.put, sA, sB, sC])
  refine wpAnyH_ready (rs := [11]) (by kernel_rfl) (by simp) ?_
  refine AllReadyH.cons (o := ?o12) ?g12 (fun K hK => ?j12) AllReadyH.nil
  case g12 => (simp only [gA, gB, gC]; rfl)
  go_simp
  refine hK.out _ _ ?_ (fun hHeld => ?_)
  · (try dsimp only); (have hS := (HS.out _ HBn.out).2; exact ⟨onlyCell HO9.out hS.1 (by simp), onlyCell HO9.out hS.2.1 (by simp), onlyCell HO9.out hS.2.2.1 (by simp), onlyCell HO9.out hS.2.2.2 (by have := HG2.out; simp; omega)⟩)
  clear hK K
  (try simp only [Act.put, sA, sB, sC])
  refine wpAnyH_done (by kernel_rfl) ?_ _
  go_wp2
  refine bodyPost_ret (results_cell2 rfl _ _ (w.heap.size + 1) 57 _ (0, 0) _ rfl HY.out Tryz.underlying57 rfl (by kernel_rfl)) rfl ?_
  exact ⟨P, rfl, fun W hW => HK.out W (kpb_to (keep_only HKP.out HO9.out (by have := HLT.out; have hz : w0.drew.heap.size = w0.heap.size := rfl; omega)) hW (by have := HLT.out; have hz : w0.drew.heap.size = w0.heap.size := rfl; omega)), HB9.out⟩
set_option maxHeartbeats 8000000 in
theorem rCommitted_of (g2 : Nat) (f : Int) (c : Crt) (bv : Value) (A : Option Addr) (cc : Nat) (w : World) (X : Msg × Int) (hv : Bs w bv c.1.2) (hf : 0 ≤ f ∧ f ≤ 100)
    (hQ : ∀ W, Below w.heap.size w W → Calls Tryz.prog 64 #[.pointer (some ⟨g2, 0, none⟩)] W (Says (.int .i64 (2 * f + 1)) W))
    (hC : ∀ W, Below w.heap.size w W → Calls Tryz.prog 62 #[.pointer (some ⟨g2, 0, none⟩), agC c bv A cc, .int .i64 4, .int .i64 (2 * f + 1)] W (DecN X W)) :
    Calls Tryz.prog 27 #[.pointer (some ⟨g2, 0, none⟩), agC c bv A cc] w (DecN X w) := by
  obtain ⟨BA, bc0, rfl, -⟩ := hv.open
  obtain ⟨⟨s0, b0⟩, l⟩ := c
  obtain ⟨x, y⟩ := X
  simp only at *
  clear hv
  have hw2 : IntKind.i64.wrap (2 * f) = 2 * f := by rw [IntKind.wrap_i64]; omega
  have HC := Lib.hid hC
  have HQ := Lib.hid hQ
  obtain ⟨x1, x2, x3⟩ := box2B w #[.int .i64 s0, .slice BA b0.length bc0, .slice A l.length cc] msH 50 57
  clear hC hQ
  unfold agC at HC ⊢
  dsimp only at HC ⊢
  generalize b0.length = bn at *
  generalize l.length = ln at *
  go_enter Tryz.func27, Tryz.ntmps27
  go_upto_region 1 with fail
  generalize hw0 : (w.alloc _).alloc _ = w0 at *
  have HR := Lib.hid x1
  have HX := Lib.hid x2
  have HB := Lib.hid x3
  have HLT := Lib.hid (show w.heap.size + 1 < w0.heap.size from (Array.getElem?_eq_some_iff.1 x2).1)
  have HS := Lib.hid (show ∀ W, Below w0.heap.size w0 W → (fun W => Below w0.heap.size w0 W ∧ W.cell? ⟨w.heap.size, 0, none⟩ = some (.int .i64 s0) ∧ W.cell? ⟨w.heap.size, 1, none⟩ = some (.slice BA bn bc0) ∧ W.cell? ⟨w.heap.size, 2, none⟩ = some (.slice A ln cc)) W from fun W h => ⟨h, rowCell (heapB HR.out h) 0 _ rfl, rowCell (heapB HR.out h) 1 _ rfl, rowCell (heapB HR.out h) 2 _ rfl⟩)
  have HS9 := Lib.hid (show ∀ (W W' : World), Below w0.heap.size w0 W → Only (w.heap.size + 1) W W' → True from fun _ _ _ _ => trivial)
  have HBn := Lib.hid (show Below w0.heap.size w0 w0.drew from (Below.refl _ _).drew)
  clear x1 x2 x3 hw0
  refine wp_region_held_drew (S := (fun W => W.cell? ⟨w.heap.size, 0, none⟩ = some (.int .i64 s0) ∧ W.cell? ⟨w.heap.size, 1, none⟩ = some (.slice BA bn bc0) ∧ W.cell? ⟨w.heap.size, 2, none⟩ = some (.slice A ln cc))) (by kernel_rfl) ((HS.out _ HBn.out).2) (fun hHeld => ?_)
  refine tk 0 ?_
  (try simp only [Act.put, sA, sB, sC])
  refine tk 1 ?_
  (try simp only [Act.put, sA, sB, sC])
  refine tk 2 ?_
  (try simp only [Act.put, sA, sB, sC])
  refine wpAnyH_ready (rs := [3]) (by kernel_rfl) (by simp) ?_
  refine AllReadyH.cons (o := ?o4) ?g4 (fun K hK => ?j4) AllReadyH.nil
  case g4 => (simp only [gA, gB, gC]; rfl)
  go_simp
  (go_at_call 64; refine (HQ.out _ (bel2M HB.out HBn.out)).mono ?_)
  rintro e w1 ⟨rfl, rfl⟩
  refine hK.out _ _ ?_ (fun hHeld => ?_)
  · (try dsimp only); exact (HS.out _ HBn.out).2
  clear hK K
  (try simp only [Act.put, sA, sB, sC])
  refine wpAnyH_ready (rs := [4]) (by kernel_rfl) (by simp) ?_
  refine AllReadyH.cons (o := ?o5) ?g5 (fun K hK => ?j5) AllReadyH.nil
  case g5 => (simp only [gA, gB, gC]; rfl)
  go_simp
  (go_at_call 62; go_loud (refine (HC.out _ (bel2M HB.out HBn.out)).mono ?_))
  rintro e w2 ⟨P, rfl, hk, hb⟩
  have HK := Lib.hid hk
  have HBM := Lib.hid HBn.out.size
  have HZ := Lib.hid (heapB HX.out (bel2M HBn.out hb))
  have HBn := Lib.hid (bel2M HBn.out hb)
  have HKP := Lib.hid (kpb_refl w0.heap.size w2)
  clear hk hb
  refine hK.out _ _ ?_ (fun hHeld => ?_)
  · (try dsimp only); exact (HS.out _ HBn.out).2
  clear hK K
  (try simp only [Act.put, sA, sB, sC])
  refine tk 5 ?_
  (try simp only [Act.put, sA, sB, sC])
  refine tk 6 ?_
  (try simp only [Act.put, sA, sB, sC])
  refine wpAnyH_ready (rs := [7]) (by kernel_rfl) (by simp) ?_
  refine AllReadyH.cons (o := ?o8) ?g8 (fun K hK => ?j8) AllReadyH.nil
  case g8 => (simp only [gA, gB, gC]; rfl)
  refine step_store rfl 57 (.tmp 4) (.tmp 11) rfl (w.heap.size + 1) #[.int .i64 x.k, .int .i64 x.v, .int .i64 x.s, .int .i64 x.c, .int .i64 x.t, .string (strB x.d), .slice P.x.1 x.x.length P.x.2, .int .i64 x.r.1, .int .i64 x.r.2, .slice P.b.1 x.b.length P.b.2, .slice P.p.1 x.p.length P.p.2, .slice P.q.1 x.q.length P.q.2] msH rfl rfl HZ.out rfl (by kernel_rfl) (by intro u hu; simp only [List.mem_cons, List.not_mem_nil, or_false] at hu; rcases hu with rfl | rfl | rfl | rfl | rfl | rfl | rfl | rfl | rfl | rfl | rfl | rfl <;> rfl) ?_
  intro w9 hz9 ho9
  have HY := Lib.hid hz9
  have HO9 := Lib.hid ho9
  have HB9 := Lib.hid (onlyBelow (bel2M HB.out HBn.out) ho9 (by omega) (Nat.le_refl _))
  refine hK.out _ _ ?_ (fun hHeld => ?_)
  · (try dsimp only); (have hS := (HS.out _ HBn.out).2; exact ⟨onlyCell HO9.out hS.1 (by simp), onlyCell HO9.out hS.2.1 (by simp), onlyCell HO9.out hS.2.2 (by simp)⟩)
  clear hK K
  (try simp only [Act.put, sA, sB, sC])
  refine wpAnyH_ready (rs := [8]) (by kernel_rfl) (by simp) ?_
  refine AllReadyH.cons (o := ?o9) ?g9 (fun K hK => ?j9) AllReadyH.nil
  case g9 => (simp only [gA, gB, gC]; rfl)
  go_simp
  refine hK.out _ _ ?_ (fun hHeld => ?_)
  · (try dsimp only); (have hS := (HS.out _ HBn.out).2; exact ⟨onlyCell HO9.out hS.1 (by simp), onlyCell HO9.out hS.2.1 (by simp), onlyCell HO9.out hS.2.2 (by simp)⟩)
  clear hK K
  (try simp only [Act.put, sA, sB, sC])
  refine wpAnyH_done (by kernel_rfl) ?_ _
  go_wp2
  refine bodyPost_ret (results_cell2 rfl _ _ (w.heap.size + 1) 57 _ (0, 0) _ rfl HY.out Tryz.underlying57 rfl (by kernel_rfl)) rfl ?_
  exact ⟨P, rfl, fun W hW => HK.out W (kpb_to (keep_only HKP.out HO9.out (by have := HLT.out; have hz : w0.drew.heap.size = w0.heap.size := rfl; omega)) hW (by have := HLT.out; have hz : w0.drew.heap.size = w0.heap.size := rfl; omega)), HB9.out⟩

section
variable {K : Kn}
def openR (K : Kn) (e : Int × List UInt8) : Msg × Int := openD (chkA K e) (decD e.2)
def reqR (K : Kn) (e : Int × List UInt8) : Rqt := reqD (openR K e) e.1
def batR (K : Kn) (l : List (Int × List UInt8)) : Int := batX l.length fun k => reqR K (envAt l k)
def preR (K : Kn) (e : Int × List UInt8) : Msg × Int := preD (openR K e) e.1 (primE K.f (openR K e).1.v) (batR K (openR K e).1.b)
def voteR (K : Kn) (kind : Int) (e : Int × List UInt8) : Msg × Int := voteD (openR K e) kind (repB K.f e.1)
def votR (K : Kn) (kind : Int) (l : List (Int × List UInt8)) (k : Nat) : Msg × Int := voteR K kind (envAt l k)
def prepR (K : Kn) (c : Crt) : Msg × Int := prepX (preR K c.1) (talD c.2.length (2 * K.f) (votR K 3 c.2) (fun k => primC (preR K c.1).1 (votR K 3 c.2 k).1 (envAt0 c.2 k) (primE K.f (preR K c.1).1.v)) (twB c.2))
def commR (K : Kn) (c : Crt) : Msg × Int := prepX (preR K c.1) (talD c.2.length (2 * K.f + 1) (votR K 4 c.2) (fun k => votesC (preR K c.1).1 (votR K 4 c.2 k).1) (twB c.2))
theorem chk_nil {m : Msg} (hb : m.b = []) (hp : m.p = []) (hq : m.q = []) : checkM m = checkD m := by
  unfold checkM checkD fitsM docFits eachE eachC
  rw [hb, hp, hq]
  simp only [List.all_nil, Bool.and_true, List.length_nil]
theorem chk_kind {m : Msg} (h : checkD m = true) (hk : m.k = 1 ∨ m.k = 3 ∨ m.k = 4 ∨ m.k = 5) : checkM m = true := by
  have hf := checkD_fit h
  have nil : ∀ {α : Type} {l : List α}, allowB (0, 0) ((l.length : Nat) : Int) = true → l = [] := fun {α l} h => by
    unfold allowB at h
    simp only [Bool.and_eq_true, decide_eq_true_eq] at h
    exact List.eq_nil_of_length_eq_zero (by omega)
  have key : m.b = [] ∧ m.p = [] ∧ m.q = [] := by
    obtain ⟨k, v, s, c, t, d, x, r, b, p, q⟩ := m
    rcases hk with hk | hk | hk | hk <;> (simp only at hk; subst hk; exact ⟨nil hf.b, nil hf.p, nil hf.q.1⟩)
  rw [chk_nil key.1 key.2.1 key.2.2]
  exact h
theorem decM_D {y : List UInt8} (h : (decM y).2 = 0) : decD y = decM y := by
  unfold decM at h ⊢
  unfold decD
  by_cases h1 : 16777216 < y.length
  · rw [if_pos h1, if_pos h1]
  rw [if_neg h1] at h
  rw [if_neg h1, if_neg h1]
  by_cases h2 : gotM y = true
  · have h3 : gotD y = true := by
      unfold gotM at h2
      unfold gotD
      rw [Bool.and_eq_true] at h2 ⊢
      exact ⟨h2.1, checkD_of h2.2⟩
    rw [if_pos h2, if_pos h3]
  · rw [if_neg h2] at h
    exact absurd h (by decide)
theorem decD_M {y : List UInt8} (h : (decD y).2 = 0) (hk : (decD y).1.k = 1 ∨ (decD y).1.k = 3 ∨ (decD y).1.k = 4 ∨ (decD y).1.k = 5) : decM y = decD y := by
  unfold decD at h hk ⊢
  unfold decM
  by_cases h1 : 16777216 < y.length
  · rw [if_pos h1, if_pos h1]
  rw [if_neg h1] at h hk
  rw [if_neg h1, if_neg h1]
  by_cases h2 : gotD y = true
  · rw [if_pos h2] at hk
    have h3 : gotM y = true := by
      unfold gotD at h2
      unfold gotM
      rw [Bool.and_eq_true] at h2 ⊢
      exact ⟨h2.1, chk_kind h2.2 hk⟩
    rw [if_pos h2, if_pos h3]
  · rw [if_neg h2] at h
    exact absurd h (by decide)
theorem open_R (e : Int × List UInt8) (kind : Int) (hk : kind = 1 ∨ kind = 3 ∨ kind = 4 ∨ kind = 5) : openA K e kind = if (openR K e).2 = 0 then (if (openR K e).1.k = kind then ((openR K e).1, 0) else (msg0, 120)) else (msg0, (openR K e).2) := by
  unfold openA openX openR openD
  by_cases h1 : chkA K e = 0
  · rw [if_pos h1, if_pos h1]
    by_cases h2 : (decM e.2).2 = 0
    · rw [if_pos h2, decM_D h2, if_pos h2, if_pos rfl]
    · rw [if_neg h2]
      by_cases h3 : (decD e.2).2 = 0
      · rw [if_pos h3, if_pos rfl]
        by_cases h4 : (decD e.2).1.k = kind
        · have := decD_M h3 (by rw [h4]; exact hk)
          rw [this] at h2
          exact absurd h3 h2
        · rw [if_neg h4]
      · rw [if_neg h3, if_neg (by decide)]
  · rw [if_neg h1, if_neg h1]
    rw [if_neg h1]
theorem req_R (e : Int × List UInt8) : reqA K e = reqR K e := by
  unfold reqA reqR
  rw [open_R e 1 (.inl rfl)]
  unfold reqX reqD
  by_cases h1 : (openR K e).2 = 0
  · rw [if_pos h1, if_pos h1]
    by_cases h2 : (openR K e).1.k = 1
    · rw [if_pos h2, if_pos h2, if_pos rfl]
    · rw [if_neg h2, if_neg h2, if_neg (by decide)]
  · rw [if_neg h1, if_neg h1]
    simp only
    rw [if_neg h1]
theorem bat_R (l : List (Int × List UInt8)) : batA K l = batR K l := by
  unfold batA batR
  congr 1
  funext k
  exact req_R _
theorem vote_R (kind : Int) (hk : kind = 3 ∨ kind = 4 ∨ kind = 5) (e : Int × List UInt8) : voteA K kind e = voteR K kind e := by
  unfold voteA voteR
  rw [open_R e kind (.inr hk)]
  have hi : isvB kind = true := by rcases hk with rfl | rfl | rfl <;> rfl
  unfold voteX voteD
  by_cases h1 : (openR K e).2 = 0
  · rw [if_pos h1, if_pos h1]
    by_cases h2 : (openR K e).1.k = kind
    · rw [if_pos h2, if_pos h2, if_pos rfl, if_pos hi]
    · rw [if_neg h2, if_neg h2, if_neg (by decide)]
  · rw [if_neg h1, if_neg h1]
    simp only
    rw [if_neg h1]
theorem pre_R (e : Int × List UInt8) (he : decM e.2 = decD e.2 ∨ ¬ (decD e.2).2 = 0) (hy : ¬ 16777216 < e.2.length) : preA K e = preR K e := by
  unfold preA preR preD
  by_cases h1 : chkA K e = 0
  · by_cases h3 : (decD e.2).2 = 0
    · have he2 : decM e.2 = decD e.2 := he.elim id fun h => absurd h3 h
      have ho : openR K e = ((decD e.2).1, 0) := by unfold openR openD; rw [if_pos h1, if_pos h3]
      by_cases h4 : (decD e.2).1.k = 2
      · have ha : openA K e 2 = ((decD e.2).1, 0) := by unfold openA openX; rw [if_pos h1, he2, if_pos h3, if_pos h4]
        rw [ha, ho, if_neg (fun h => h.2 h4), bat_R]
      · have ha : openA K e 2 = (msg0, 120) := by unfold openA openX; rw [if_pos h1, he2, if_pos h3, if_neg h4]
        rw [ha, ho, if_pos ⟨rfl, h4⟩]
        unfold preX
        rw [if_neg (by decide)]
    · have h2 : ¬ (decM e.2).2 = 0 := fun h => h3 (by rw [decM_D h]; exact h)
      have ho : openR K e = (msg0, 120) := by unfold openR openD; rw [if_pos h1, if_neg h3]
      have ha : openA K e 2 = (msg0, 120) := by unfold openA openX; rw [if_pos h1, if_neg h2]
      rw [ha, ho, if_neg (fun h => absurd h.1 (by decide))]
      unfold preX
      rw [if_neg (by decide), if_neg (by decide)]
  · have ho : openR K e = (msg0, chkA K e) := by unfold openR openD; rw [if_neg h1]
    have ha : openA K e 2 = (msg0, chkA K e) := by unfold openA openX; rw [if_neg h1]
    rw [ha, ho, if_neg (fun h => absurd h.1 h1)]
    unfold preX
    rw [if_neg h1, if_neg h1]
theorem find_congr {n : Nat} {r r' : Nat → Int} {d : Int} (h : ∀ k, k < n → (∀ j, j < k → r j = 0) → r k = r' k) : findX n r d = findX n r' d := by
  by_cases hall : ∀ j, j < n → r j = 0
  · rw [findX_ok hall, findX_ok fun j hj => by rw [← h j hj fun i hi => hall i (by omega)]; exact hall j hj]
  · have hex : ∃ k, k < n ∧ (∀ j, j < k → r j = 0) ∧ r k ≠ 0 := by
      refine Decidable.byContradiction fun hno => hall ?_
      intro j
      induction j using Nat.strongRecOn with
      | _ j ih =>
        intro hj
        exact Decidable.byContradiction fun h0 => hno ⟨j, hj, fun i hi => ih i hi (by omega), h0⟩
    obtain ⟨k, hk, hmin, h0⟩ := hex
    have hk' := h k hk hmin
    rw [findX_at hk hmin h0, findX_at hk (fun j hj => by rw [← h j (by omega) fun i hi => hmin i (by omega)]; exact hmin j hj) (by rw [← hk']; exact h0), hk']
theorem bad_take {f : Int} {l : List Int} {j n : Nat} (hj : j < n) (hn : n ≤ l.length) : badAt f (l.take n) j = badAt f l j := by
  unfold badAt
  have h1 : (l.take n).getD j 0 = l.getD j 0 := by
    rw [List.getD_eq_getElem?_getD, List.getD_eq_getElem?_getD, List.getElem?_take_of_lt hj]
  rw [h1, List.take_take, Nat.min_eq_left (Nat.le_of_lt hj)]
theorem dis_tw {l : List (Int × List UInt8)} {k : Nat} (hk : k < l.length) (hr : repB K.f l[k].1 = true) (h : ∀ j, j < k → repB K.f (envAt0 l j) = true ∧ disA K l (j + 1) = 0) : disA K l (k + 1) = if twB l k = true then 33 else 0 := by
  unfold disA
  have hml : ((l.take (k + 1)).map (·.1)).length = k + 1 := by rw [List.length_map, List.length_take]; omega
  have hmt : (l.take (k + 1)).map (·.1) = (l.map (·.1)).take (k + 1) := by rw [List.map_take]
  have hlm : (l.map (·.1)).length = l.length := List.length_map _
  have hg : ∀ j, j < k → badAt K.f ((l.take (k + 1)).map (·.1)) j = false := fun j hj => by
    have h1 := (h j hj).2
    unfold disA at h1
    have h2 := disE_zero h1 j (by rw [List.length_map, List.length_take]; omega)
    rw [List.map_take, bad_take (by omega) (by omega)] at h2
    rw [hmt, bad_take (by omega) (by omega)]
    exact h2
  have hb : badAt K.f ((l.take (k + 1)).map (·.1)) k = twB l k := by
    rw [hmt, bad_take (by omega) (by omega)]
    unfold badAt twB
    have h1 : (l.map (·.1)).getD k 0 = l[k].1 := by
      rw [List.getD_eq_getElem?_getD, List.getElem?_eq_getElem (by omega), Option.getD_some, List.getElem_map]
    rw [h1, hr, envAt0_eq hk, List.map_take]
    rfl
  rcases htw : twB l k with _ | _
  · rw [if_neg (by decide)]
    refine disE_ok fun j hj => ?_
    rw [hml] at hj
    by_cases hjk : j < k
    · exact hg j hjk
    · obtain rfl : j = k := by omega
      rw [hb, htw]
  · rw [if_pos rfl, disE_at (k := k) (by rw [hml]; omega) hg (by rw [hb, htw])]
    have h1 : ((l.take (k + 1)).map (·.1))[k]'(by rw [hml]; omega) = l[k].1 := by
      rw [List.getElem_map, List.getElem_take]
    rw [h1, if_pos hr]
theorem rnd_D {vo : Nat → Msg × Int} {mu ds : Nat → Int} {tw : Nat → Bool} {k : Nat} (h : (vo k).2 = 0 → mu k = 0 → ds (k + 1) = if tw k = true then 33 else 0) : rndX vo mu ds k = rndD vo mu tw k := by
  by_cases h1 : (vo k).2 = 0
  · by_cases h2 : mu k = 0
    · rw [rnd_3 h1 h2, h h1 h2]
      unfold rndD
      rw [if_pos h1, if_pos h2]
    · rw [rnd_2 h1 h2, rndD_2 h1 h2]
  · rw [rnd_1 h1, rndD_1 h1]
theorem tal_R {l : List (Int × List UInt8)} {kind enough : Int} {mu : Nat → Int} (hk : kind = 3 ∨ kind = 4 ∨ kind = 5) : talX l.length enough (votA K kind l) mu (disA K l) = talD l.length enough (votR K kind l) mu (twB l) := by
  have hv : votA K kind l = votR K kind l := by funext k; exact vote_R kind hk _
  unfold talX talD
  refine find_congr fun k hkl h0 => ?_
  rw [← hv]
  refine rnd_D fun h1 h2 => ?_
  have hrep : ∀ j, j < l.length → (votA K kind l j).2 = 0 → repB K.f (envAt0 l j) = true := fun j hj h => by
    have := (vote_yes (K := K) (e := envAt l j) (kind := kind) h).2.2.2.2.1
    rw [envAt_eq hj] at this
    rw [envAt0_eq hj]
    exact this
  have hr := hrep k hkl h1
  rw [envAt0_eq hkl] at hr
  exact dis_tw hkl hr fun j hj => by
    obtain ⟨a1, -, a3⟩ := rnd_yes (h0 j hj)
    exact ⟨hrep j (by omega) a1, a3⟩
theorem prepX_err {p : Msg × Int} {t : Int} (h : ¬ p.2 = 0) : prepX p t = (msg0, p.2) := if_neg h
theorem comm_R {c : Crt} (h : preA K c.1 = preR K c.1) : commA K c = commR K c := by
  unfold commA commR
  rw [← h, tal_R (.inr (.inl rfl))]
  have hv : votA K 4 c.2 = votR K 4 c.2 := by funext k; exact vote_R 4 (.inr (.inl rfl)) _
  rw [← hv]
  rfl
theorem prep_R {c : Crt} (h : preA K c.1 = preR K c.1) : prepA K c = prepR K c := by
  unfold prepA prepR
  rw [← h, tal_R (.inl rfl)]
  have hv : votA K 3 c.2 = votR K 3 c.2 := by funext k; exact vote_R 3 (.inl rfl) _
  rw [← hv]
  by_cases h0 : (preA K c.1).2 = 0
  · have hp := pre_yes h0
    have he : c.1.1 = primE K.f (preA K c.1).1.v := by rw [hp.2.2.2.1]; exact hp.2.2.2.2.1
    have hm : muP (preA K c.1).1 (votA K 3 c.2) c = fun k => primC (preA K c.1).1 (votA K 3 c.2 k).1 (envAt0 c.2 k) (primE K.f (preA K c.1).1.v) := by
      funext k
      unfold muP envAt0
      rw [he]
    rw [hm]
  · rw [prepX_err h0, prepX_err h0]
end

def NoC (y : List UInt8) : Prop := (readR y 0).1.q = []
def KN (K : Kn) : Prop := ∀ e ∈ K.L, NoC e.2
def RaK (w : World) (g : Nat) (K : Kn) (S : Nat → Prop) : Prop := ∃ v E, DT w g K.f K.c v E S ∧ pairsT E = K.L
section
variable {w : World} {g : Nat} {K : Kn} {S : Nat → Prop}
theorem RaK.below {w' : World} (h : RaK w g K S) (hb : Below w.heap.size w w') : RaK w' g K S := by
  obtain ⟨v, E, h1, h2⟩ := h
  exact ⟨v, E, h1.below hb, h2⟩
theorem RaK.f (h : RaK w g K S) : 0 ≤ K.f ∧ K.f ≤ 2 := by
  obtain ⟨v, E, h1, h2⟩ := h
  exact ⟨h1.head.2.1, h1.head.2.2.1⟩
theorem chk_mem {e : Int × List UInt8} (h : chkA K e = 0) : e ∈ K.L := by
  unfold chkA checkE at h
  split at h
  · split at h
    · assumption
    · exact absurd h (by decide)
  · exact absurd h (by decide)
theorem openR_yes {e : Int × List UInt8} (h : (openR K e).2 = 0) : (decD e.2).2 = 0 ∧ (openR K e).1 = (decD e.2).1 := by
  unfold openR openD at h ⊢
  by_cases h1 : chkA K e = 0
  · rw [if_pos h1] at h ⊢
    by_cases h2 : (decD e.2).2 = 0
    · rw [if_pos h2]
      exact ⟨h2, rfl⟩
    · rw [if_neg h2] at h
      exact absurd h (by decide)
  · rw [if_neg h1] at h
    exact absurd h h1
theorem decD_few {y : List UInt8} (h : (decD y).2 = 0) (hl : y.length ≤ 100000) : (∀ e ∈ (decD y).1.b, ok64 e.1 ∧ e.2.length ≤ 100000) ∧ (decD y).1.b.length ≤ 15 ∧ ok64 (decD y).1.v := by
  have hy : ¬ 16777216 < y.length := by omega
  have he : (decD y).1 = (readR y 0).1 := by
    rw [← decR_eq hl] at h ⊢
    by_cases h1 : gotR y = true
    · rw [decR_1 hy h1]
    · rw [decR_2 hy h1] at h
      exact absurd h (by decide)
  rw [he]
  have ho := readR_ok y 0
  rcases hi : int8F y 0 with ⟨k, r1, e1⟩
  rcases hb : bodyR k (shapeM k).1 r1 e1 with ⟨m, r2, e2⟩
  have hlen := int8F_lenG y 0
  rw [hi] at hlen
  have hsm := body_sm 100000 k (shapeM k).1 r1 e1 (Nat.le_trans hlen hl)
  rw [hb] at hsm
  rw [dec_s1 hi hb] at ho ⊢
  exact ⟨fun e he => ⟨ho.b e he, hsm.2.2.1.2 e he⟩, hsm.2.2.1.1, ho.v⟩
theorem rA_open (h : RaK w g K S) (hn : KN K) (e : Int × List UInt8) (bv : Value) (hv : Bs w bv e.2) (hs : ok64 e.1) (hl : e.2.length ≤ 100000) : Calls Tryz.prog 57 #[.pointer (some ⟨g, 0, none⟩), agE e.1 bv] w (DecN (openR K e) w) :=
  rOpen_of _ e bv (chkA K e) (decD e.2) w hv (fun W hb => by
    obtain ⟨v, E, h1, h2⟩ := h.below hb
    have := rCheck_any g K.f K.c e.1 v bv e.2 E S W h1 hs (hv.below hb (Nat.le_refl _))
    rw [h2] at this
    exact this) fun h0 W hb => rDecode_any bv e.2 W (hv.below hb (Nat.le_refl _)) hl (hn e (chk_mem h0))
theorem rA_req (h : RaK w g K S) (hn : KN K) (e : Int × List UInt8) (bv : Value) (hv : Bs w bv e.2) (hs : ok64 e.1) (hl : e.2.length ≤ 100000) : Calls Tryz.prog 18 #[.pointer (some ⟨g, 0, none⟩), agE e.1 bv] w (ReqN (reqR K e) w) :=
  rReq_of _ e bv _ w hv fun W hb => rA_open (h.below hb) hn e bv (hv.below hb (Nat.le_refl _)) hs hl
theorem rA_batch (h : RaK w g K S) (hn : KN K) (A : Option Addr) (c : Nat) (l : List (Int × List UInt8)) (hl : EnvK w A c l) (ho : ∀ e ∈ l, ok64 e.1 ∧ e.2.length ≤ 100000) : Calls Tryz.prog 20 #[.pointer (some ⟨g, 0, none⟩), .slice A l.length c] w (Ans (.int .i64 (batR K l)) w) :=
  rBatch_of _ A c l w _ hl fun k hk W bv hb hv => by
    rw [envAt_eq hk]
    exact rA_req (h.below hb) hn l[k] bv hv (ho _ (List.getElem_mem hk)).1 (ho _ (List.getElem_mem hk)).2
theorem rA_primary (h : RaK w g K S) (v : Int) (hv : ok64 v) : Calls Tryz.prog 39 #[.pointer (some ⟨g, 0, none⟩), .int .i64 v] w (Says (.int .i64 (primE K.f v)) w) := by
  obtain ⟨v0, E, h1, -⟩ := h
  exact rPrimary_any h1.head v hv
theorem rA_replica (h : RaK w g K S) (v : Int) : Calls Tryz.prog 109 #[.pointer (some ⟨g, 0, none⟩), .int .i64 v] w (Says (.bool (repB K.f v)) w) := by
  obtain ⟨v0, E, h1, -⟩ := h
  exact rReplica_any h1.head v
theorem rA_quorum (h : RaK w g K S) : Calls Tryz.prog 64 #[.pointer (some ⟨g, 0, none⟩)] w (Says (.int .i64 (2 * K.f + 1)) w) := by
  obtain ⟨v0, E, h1, -⟩ := h
  exact rQuorum_any h1.head
theorem openR_v {e : Int × List UInt8} (hl : e.2.length ≤ 100000) (h : (openR K e).2 = 0) : ok64 (openR K e).1.v := by
  obtain ⟨h1, h2⟩ := openR_yes h
  rw [h2]
  exact (decD_few h1 hl).2.2
theorem rA_pre (h : RaK w g K S) (hn : KN K) (e : Int × List UInt8) (bv : Value) (hv : Bs w bv e.2) (hs : ok64 e.1) (hl : e.2.length ≤ 100000) : Calls Tryz.prog 108 #[.pointer (some ⟨g, 0, none⟩), agE e.1 bv] w (DecN (preR K e) w) := by
  have hfew : (openR K e).2 = 0 → (∀ z ∈ (openR K e).1.b, ok64 z.1 ∧ z.2.length ≤ 100000) ∧ (openR K e).1.b.length ≤ 15 := fun h0 => by
    obtain ⟨h1, h2⟩ := openR_yes h0
    rw [h2]
    exact ⟨(decD_few h1 hl).1, (decD_few h1 hl).2.1⟩
  exact rPre_of _ e bv (openR K e) _ _ w hv (fun W hb => rA_open (h.below hb) hn e bv (hv.below hb (Nat.le_refl _)) hs hl) (fun h0 W hb => rA_primary (h.below hb) _ (openR_v hl h0))
    (fun h0 _ W P hm => rhBatch_any _ _ _ W hm.b ⟨by have := (hfew h0).2; omega, fun z hz => by have := ((hfew h0).1 z hz).2; omega⟩) (fun h0 _ W P hb hm => rA_batch (h.below hb) hn _ _ _ hm.b (hfew h0).1)
theorem rA_vote3 (h : RaK w g K S) (hn : KN K) (e : Int × List UInt8) (bv : Value) (hv : Bs w bv e.2) (hs : ok64 e.1) (hl : e.2.length ≤ 100000) : Calls Tryz.prog 69 #[.pointer (some ⟨g, 0, none⟩), agE e.1 bv, .int .i64 3] w (DecN (voteR K 3 e) w) :=
  rVote3_of _ e bv _ _ w hv (fun W hb => rA_open (h.below hb) hn e bv (hv.below hb (Nat.le_refl _)) hs hl) fun W hb => rA_replica (h.below hb) e.1
theorem rA_vote4 (h : RaK w g K S) (hn : KN K) (e : Int × List UInt8) (bv : Value) (hv : Bs w bv e.2) (hs : ok64 e.1) (hl : e.2.length ≤ 100000) : Calls Tryz.prog 69 #[.pointer (some ⟨g, 0, none⟩), agE e.1 bv, .int .i64 4] w (DecN (voteR K 4 e) w) :=
  rVote4_of _ e bv _ _ w hv (fun W hb => rA_open (h.below hb) hn e bv (hv.below hb (Nat.le_refl _)) hs hl) fun W hb => rA_replica (h.below hb) e.1
theorem rA_vote5 (h : RaK w g K S) (hn : KN K) (e : Int × List UInt8) (bv : Value) (hv : Bs w bv e.2) (hs : ok64 e.1) (hl : e.2.length ≤ 100000) : Calls Tryz.prog 69 #[.pointer (some ⟨g, 0, none⟩), agE e.1 bv, .int .i64 5] w (DecN (voteR K 5 e) w) :=
  rVote5_of _ e bv _ _ w hv (fun W hb => rA_open (h.below hb) hn e bv (hv.below hb (Nat.le_refl _)) hs hl) fun W hb => rA_replica (h.below hb) e.1
abbrev OkEr (l : List (Int × List UInt8)) : Prop := ∀ e ∈ l, ok64 e.1 ∧ e.2.length ≤ 100000
theorem preR_v {e : Int × List UInt8} (hl : e.2.length ≤ 100000) (h : (preR K e).2 = 0) : ok64 (preR K e).1.v := by
  unfold preR preD at h ⊢
  by_cases h1 : (openR K e).2 = 0 ∧ ¬ (openR K e).1.k = 2
  · rw [if_pos h1] at h
    exact absurd h (by decide)
  · rw [if_neg h1] at h ⊢
    by_cases h0 : (openR K e).2 = 0
    · have hv := openR_v hl h0
      unfold preX at h ⊢
      rw [if_pos h0] at h ⊢
      split at h
      · split at h
        · split at h
          · rename_i a b c
            rw [if_pos a, if_pos b, if_pos c]
            exact hv
          · rename_i c
            exact absurd h c
        · exact absurd h (by decide)
      · exact absurd h (by decide)
    · unfold preX at h
      rw [if_neg h0] at h
      exact absurd h h0
theorem rA_prep (h : RaK w g K S) (hn : KN K) (c : Crt) (bv : Value) (A : Option Addr) (cc : Nat) (hv : Bs w bv c.1.2) (hl : EnvK w A cc c.2) (hs : ok64 c.1.1) (hb1 : c.1.2.length ≤ 100000) (ho : OkEr c.2) :
    Calls Tryz.prog 25 #[.pointer (some ⟨g, 0, none⟩), agC c bv A cc] w (DecN (prepR K c) w) :=
  rPrepared_of g K.f c bv A cc w _ hv (by have := h.f; omega) (fun W hb => by
    obtain ⟨v0, E, h1, -⟩ := h.below hb
    exact h1.head.open.2.1) fun W hb => rCert3_of _ c bv A cc (2 * K.f) W (preR K c.1) (votR K 3 c.2) (primE K.f (preR K c.1).1.v) (hv.below hb (Nat.le_refl _)) (hl.below hb)
      (fun W2 hb2 => rA_pre ((h.below hb).below hb2) hn c.1 bv ((hv.below hb (Nat.le_refl _)).below hb2 (Nat.le_refl _)) hs hb1)
      (fun _ k hk W2 bv2 hb2 hv2 => by
        have := rA_vote3 ((h.below hb).below hb2) hn c.2[k] bv2 hv2 (ho _ (List.getElem_mem hk)).1 (ho _ (List.getElem_mem hk)).2
        unfold votR
        rwa [envAt_eq hk])
      (fun h0 W2 hb2 => rA_primary ((h.below hb).below hb2) _ (preR_v hb1 h0))
theorem rA_comm (h : RaK w g K S) (hn : KN K) (c : Crt) (bv : Value) (A : Option Addr) (cc : Nat) (hv : Bs w bv c.1.2) (hl : EnvK w A cc c.2) (hs : ok64 c.1.1) (hb1 : c.1.2.length ≤ 100000) (ho : OkEr c.2) :
    Calls Tryz.prog 27 #[.pointer (some ⟨g, 0, none⟩), agC c bv A cc] w (DecN (commR K c) w) :=
  rCommitted_of g K.f c bv A cc w _ hv (by have := h.f; omega) (fun W hb => rA_quorum (h.below hb)) fun W hb => rCert4_of _ c bv A cc (2 * K.f + 1) W (preR K c.1) (votR K 4 c.2) (primE K.f (preR K c.1).1.v) (hv.below hb (Nat.le_refl _)) (hl.below hb)
      (fun W2 hb2 => rA_pre ((h.below hb).below hb2) hn c.1 bv ((hv.below hb (Nat.le_refl _)).below hb2 (Nat.le_refl _)) hs hb1)
      (fun _ k hk W2 bv2 hb2 hv2 => by
        have := rA_vote4 ((h.below hb).below hb2) hn c.2[k] bv2 hv2 (ho _ (List.getElem_mem hk)).1 (ho _ (List.getElem_mem hk)).2
        unfold votR
        rwa [envAt_eq hk])
      (fun h0 W2 hb2 => rA_primary ((h.below hb).below hb2) _ (preR_v hb1 h0))
end

theorem noC_nil : NoC [] := by
  unfold NoC
  kernel_rfl
theorem decD_nil : decD [] = (msg0, 12) := by kernel_rfl
theorem noC_enc {m : Msg} (ho : OkM m) (h : SmD m) : NoC (encD m) := by
  by_cases hc : checkD m = true
  · have h1 := readR_fo ho (smD_mid h) hc []
    rw [List.append_nil] at h1
    unfold encD NoC
    rw [if_pos hc, h1]
    exact h.q
  · have he : encD m = [] := if_neg hc
    rw [he]
    exact noC_nil
theorem signT_mem {f c s : Int} {l : List UInt8} {L : List (Int × List UInt8)} {e : Int × List UInt8} (h : e ∈ signT f c s l L) : e ∈ L ∨ e = (s, l) := by
  unfold signT addP at h
  split at h
  · split at h
    · exact .inl h
    · rcases List.mem_append.1 h with h | h
      · exact .inl h
      · exact .inr (List.mem_singleton.1 h)
  · exact .inl h
theorem noC_sign {f c s : Int} {l : List UInt8} {L : List (Int × List UInt8)} (hL : ∀ e ∈ L, NoC e.2) (hl : NoC l) : ∀ e ∈ signT f c s l L, NoC e.2 := fun e he => by
  rcases signT_mem he with h | rfl
  · exact hL e h
  · exact hl
theorem okM_vote {v s : Int} (hv : 0 ≤ v ∧ v < 1073741824) (hs : 0 < s ∧ s < 1073741824) (x : Vt) (hk : ok64 x.k) : OkM (mdVote v s x) := by
  have h1 := Int.tmod_lt_of_pos x.v (show (0 : Int) < 3 by decide)
  have h2 := tmod3_lo x.v
  have h3 := Int.tmod_lt_of_pos x.q (show (0 : Int) < 3 by decide)
  have h4 := tmod3_lo x.q
  refine ⟨hk, ?_, (show in64B (s + x.q.tmod 3) by unfold in64B; omega), in64_0, in64_0, ⟨in64_0, in64_0⟩, (fun e he => by cases he), (fun e he => by cases he), (fun e he => by cases he)⟩
  show in64B (if x.k = 5 then 0 else v + x.v.tmod 3)
  split
  · exact in64_0
  · unfold in64B; omega
theorem mdReq_ok : OkM mdReq := ⟨(show in64B 1 from ⟨by decide, by decide⟩), in64_0, in64_0, (show in64B 1000 from ⟨by decide, by decide⟩), (show in64B 1 from ⟨by decide, by decide⟩), ⟨in64_0, in64_0⟩, (fun e he => by cases he), (fun e he => by cases he), (fun e he => by cases he)⟩
theorem md_noC {f c v s p : Int} {L : List (Int × List UInt8)} {vs : List Vt} (hv : 0 ≤ v ∧ v < 1073741824) (hs : 0 < s ∧ s < 1073741824) (hk : ∀ x ∈ vs, ok64 x.k) (hL : ∀ e ∈ L, NoC e.2) : ∀ e ∈ mdL f c v s p L vs, NoC e.2 := by
  have key : ∀ k, k ≤ vs.length → ∀ e ∈ mdL f c v s p L (vs.take k), NoC e.2 := by
    intro k
    induction k with
    | zero =>
      intro _
      show ∀ e ∈ mdL0 f c v s p L, NoC e.2
      exact noC_sign (noC_sign hL (noC_enc mdReq_ok mdM1)) (noC_enc (mdPre_ok hv hs) (mdM2 v s))
    | succ k ih =>
      intro hk2
      rw [mdL_take f c v s p L vs k (by omega)]
      unfold mdS
      split
      · exact noC_sign (ih (by omega)) (noC_enc (okM_vote hv hs _ (hk _ (List.getElem_mem _))) (mdM3 v s _))
      · exact ih (by omega)
  have := key vs.length (Nat.le_refl _)
  rwa [List.take_length] at this
theorem chk_well {m : Msg} (h : checkD m = true) (hb : ∀ e ∈ m.b, wellE e = true) (hp : m.p = []) (hq : m.q = []) : checkM m = true := by
  unfold checkD docFits at h
  unfold checkM fitsM eachE eachC
  rw [hp, hq] at h ⊢
  have hall : m.b.all wellE = true := List.all_eq_true.2 hb
  rw [hall]
  simp only [List.all_nil, Bool.and_true, List.length_nil] at h ⊢
  exact h
theorem dec_alike {m : Msg} (ho : OkM m) (h : SmD m) (hb : ∀ e ∈ m.b, wellE e = true) (hp : m.p = []) : decM (encD m) = decD (encD m) ∨ ¬ (decD (encD m)).2 = 0 := by
  by_cases hc : checkD m = true
  · have hl : (putM m).length ≤ 16777216 := by have := putM_len h; omega
    refine .inl ?_
    rw [encD_dec ho (smD_mid h) hc hl, encD_decD ho (smD_mid h) hc hl, if_pos (chk_well hc hb hp h.q)]
  · have he : encD m = [] := if_neg hc
    refine .inr ?_
    rw [he, decD_nil]
    decide
theorem md_alike {v s : Int} (hv : 0 ≤ v ∧ v < 1073741824) (hs : 0 < s ∧ s < 1073741824) : decM (encD (mdPre v s)) = decD (encD (mdPre v s)) ∨ ¬ (decD (encD (mdPre v s))).2 = 0 :=
  dec_alike (mdPre_ok hv hs) (mdM2 v s) (fun e he => by
    have he : e ∈ [((1000 : Int), mdL1)] := he
    rw [List.mem_singleton.1 he]
    rfl) rfl
theorem md_okEr {v s : Int} {vs : List Vt} (h : ∀ x ∈ vs, ok64 x.s) : OkEr (vs.map (mdV v s)) := fun e he => by
  obtain ⟨x, hx, rfl⟩ := List.mem_map.1 he
  exact ⟨h x hx, Nat.le_trans (mdVote_len v s x) (by decide)⟩
theorem Bth.ra {w : World} {N g bm g2 : Nat} {f c : Int} {L : List (Int × List UInt8)} {T : Nat → Prop} (h : Bth w N g bm g2 f c L T) : RaK w g2 ⟨f, c, L⟩ T := by
  obtain ⟨v, E, h1, h2⟩ := h.dt
  exact ⟨v, E, h1, h2⟩

end Go.Proofs.YtjkbmmhnlhaapaaGreat

namespace Go.Proofs.YtjkbmmhnlhaapaaGreat
open Go.RowKit Go.ChangeShapes Go.WideShapes Go.ChangeAt
set_option linter.unusedVariables false
set_option linter.unusedSimpArgs false
set_option maxRecDepth 20000

theorem rSame3_any (e f : Int × List UInt8) (bv cv : Value) (w : World) (hb : Bs w bv e.2) (hc : Bs w cv f.2) : Calls Tryz.prog 52 #[agE e.1 bv, agE f.1 cv] w (AskB (decide (e = f)) w) := by
  obtain ⟨A, c, rfl, -⟩ := hb.open
  obtain ⟨D, d, rfl, -⟩ := hc.open
  obtain ⟨s, l⟩ := e
  obtain ⟨t, m⟩ := f
  simp only at hb hc ⊢
  obtain ⟨x1, x2, x3⟩ := box2B w #[.int .i64 s, .slice A l.length c] #[.int .i64 t, .slice D m.length d] 40 40
  have HS := Lib.hid (fun W (h : Below w.heap.size w W) => Same_any _ _ l m W (hb.below h (Nat.le_refl _)) (hc.below h (Nat.le_refl _)))
  have HB := Lib.hid x3
  have HX1 := Lib.hid x1
  have HX2 := Lib.hid x2
  clear x1 x2 x3 hb hc
  by_cases hst : s = t
  · have e1 : (s == t) = true := by simpa using hst
    have hd : decide ((s, l) = (t, m)) = decide (l = m) := by simp [hst]
    rw [hd]
    have HE := Lib.hid (show (l == m) = decide (l = m) by rw [Bool.eq_iff_iff]; simp)
    clear hst hd
    go_enter Tryz.func52, Tryz.ntmps52
    go_wp2_with (go_at_call 65; refine (HS.out _ HB.out).mono ?_; rintro e w1 ⟨rfl, rfl⟩)
    go_ret
    exact ⟨by rw [← HE.out]; rfl, HB.out⟩
  · have e1 : (s == t) = false := by simpa using hst
    have hd : decide ((s, l) = (t, m)) = false := by simp [hst]
    rw [hd]
    clear hst hd
    go_enter Tryz.func52, Tryz.ntmps52
    go_wp2
    go_ret
    exact ⟨rfl, HB.out⟩
abbrev SA4 (p1 p2 p3 p4 : Addr) (v1 v2 v3 v4 : Value) : World → Prop := fun W => W.cell? p1 = some v1 ∧ W.cell? p2 = some v2 ∧ W.cell? p3 = some v3 ∧ W.cell? p4 = some v4
theorem SA4.below {p1 p2 p3 p4 : Addr} {v1 v2 v3 v4 : Value} {W W' : World} (h : SA4 p1 p2 p3 p4 v1 v2 v3 v4 W) (hb : Below W.heap.size W W') : SA4 p1 p2 p3 p4 v1 v2 v3 v4 W' := ⟨cellB h.1 hb, cellB h.2.1 hb, cellB h.2.2.1 hb, cellB h.2.2.2 hb⟩
set_option maxHeartbeats 1000000 in
theorem rAll3_any (ls ms : List (Int × List UInt8)) (A : Option Addr) (c : Nat) (D : Option Addr) (d : Nat) (w : World) (hl : EnvK w A c ls) (hm : EnvK w D d ms) : Calls Tryz.prog 41 #[.slice A ls.length c, .slice D ms.length d] w (AskB (decide (ls = ms)) w) := by
  have key : ∀ x, decide (ls = ms) = x → Calls Tryz.prog 41 #[.slice A ls.length c, .slice D ms.length d] w (AskB x w) → Calls Tryz.prog 41 #[.slice A ls.length c, .slice D ms.length d] w (AskB (decide (ls = ms)) w) := fun x h hc => by rw [h]; exact hc
  have hm1 : ls.length ≤ maxLen := Nat.le_trans hl.1 hl.2.1
  unfold maxLen at hm1
  by_cases hn : ls.length = ms.length
  case neg =>
    have e1 : ((ls.length : Int) != (ms.length : Int)) = true := by simp; omega
    refine key false (by simp; intro h; exact hn (by rw [h])) ?_
    clear hn hl hm key
    go_enter Tryz.func41, Tryz.ntmps41
    go_wp2
    go_ret
    exact ⟨rfl, Below.refl _ _⟩
  have e1 : ((ls.length : Int) != (ms.length : Int)) = false := by simp; omega
  have HL := Lib.hid hl.2.2.2
  have HM := Lib.hid hm.2.2.2
  have HY := Lib.hid (fun (h : ls.take ls.length = ms.take ls.length) => show decide (ls = ms) = true by rw [List.take_length, hn, List.take_length] at h; simpa using h)
  have HN := Lib.hid (fun (k : Nat) (h1 : k < ls.length) (h2 : k < ms.length) (h : ls[k] ≠ ms[k]) => show decide (ls = ms) = false by simp; rintro rfl; exact h rfl)
  have HT := Lib.hid (fun (k : Nat) (h1 : k < ls.length) (h2 : k < ms.length) (h : ls[k] = ms[k]) (ht : ls.take k = ms.take k) => show ls.take (k + 1) = ms.take (k + 1) by rw [List.take_succ_eq_append_getElem h1, List.take_succ_eq_append_getElem h2, h, ht])
  have HNL := Lib.hid hn
  clear key hl hm hn
  generalize decide (ls = ms) = res at *
  go_enter Tryz.func41, Tryz.ntmps41
  go_wp2
  clear e1
  go_loopw [5] (fun i wr => ∃ k : Nat, k ≤ ls.length ∧ i = .int .i64 k ∧ ls.take k = ms.take k ∧ Below w.heap.size w wr) (fun i _ => ls.length - (intOf i).toNat)
  case atStart => exact ⟨0, Nat.zero_le _, rfl, rfl, Below.refl _ _⟩
  case round =>
    obtain ⟨k, hk, rfl, htk, hbel⟩ := hrel
    have HTK := Lib.hid htk
    have HBE := Lib.hid hbel
    clear htk hbel
    by_cases hlt : k < ls.length
    · have hlt2 : k < ms.length := by have := HNL.out; omega
      have hltI : (k : Int) < (ls.length : Int) := by omega
      have hltJ : (k : Int) < (ms.length : Int) := by omega
      obtain ⟨ad, rfl, hbl, hq⟩ := HL.out k hlt
      obtain ⟨ae, rfl, hbe, hr⟩ := HM.out k hlt2
      obtain ⟨c1, bv, c2, hbv⟩ := hq.below HBE.out (by rw [block_add]; exact hbl)
      obtain ⟨c3, bw, c4, hbw⟩ := hr.below HBE.out (by rw [block_add]; exact hbe)
      have HT1 := Lib.hid (HT.out k hlt hlt2)
      have HN1 := Lib.hid (HN.out k hlt hlt2)
      clear hq hr
      generalize ls[k] = x at *
      generalize ms[k] = y at *
      have HS := Lib.hid (show SA4 (ad.add (k * 2)) ⟨(ad.add (k * 2)).block, (ad.add (k * 2)).off + 1, none⟩ (ae.add (k * 2)) ⟨(ae.add (k * 2)).block, (ae.add (k * 2)).off + 1, none⟩ (.int .i64 x.1) bv (.int .i64 y.1) bw wr from ⟨c1, c2, c3, c4⟩)
      have HC := Lib.hid (fun W (h : Below wr.heap.size wr W) => rSame3_any x y bv bw W (hbv.below h (Nat.le_refl _)) (hbw.below h (Nat.le_refl _)))
      have HDR := Lib.hid (show Below wr.heap.size wr wr.drew from (Below.refl _ _).drew)
      clear c1 c2 c3 c4 hbv hbw
      by_cases hxy : x = y
      · rw [decide_eq_true hxy] at HC
        have HXY := Lib.hid hxy
        clear hxy
        go_upto_region 6 with fail
        go_region_held3 (SA4 (ad.add (k * 2)) ⟨(ad.add (k * 2)).block, (ad.add (k * 2)).off + 1, none⟩ (ae.add (k * 2)) ⟨(ae.add (k * 2)).block, (ae.add (k * 2)).off + 1, none⟩ (.int .i64 x.1) bv (.int .i64 y.1) bw) (first | exact HS.out.below HDR.out | exact HS.out.below HB2.out) (first
          | (go_at_call 52; refine (HC.out _ HDR.out).mono ?_; rintro e w2 ⟨rfl, hb2⟩; have HB2 := Lib.hid (bel2M HDR.out hb2); clear hb2))
        go_wp2
        go_roundw
        case rel => exact ⟨k + 1, by omega, by go_num, HT1.out HXY.out HTK.out, bel2M HBE.out HB2.out⟩
        case measure => simp [intOf]; omega
      · rw [decide_eq_false hxy] at HC
        have HF := Lib.hid (HN1.out hxy)
        clear hxy
        go_upto_region 6 with fail
        go_region_held3 (SA4 (ad.add (k * 2)) ⟨(ad.add (k * 2)).block, (ad.add (k * 2)).off + 1, none⟩ (ae.add (k * 2)) ⟨(ae.add (k * 2)).block, (ae.add (k * 2)).off + 1, none⟩ (.int .i64 x.1) bv (.int .i64 y.1) bw) (first | exact HS.out.below HDR.out | exact HS.out.below HB2.out) (first
          | (go_at_call 52; refine (HC.out _ HDR.out).mono ?_; rintro e w2 ⟨rfl, hb2⟩; have HB2 := Lib.hid (bel2M HDR.out hb2); clear hb2))
        go_wp2
        go_ret
        exact ⟨by rw [HF.out]; rfl, bel2M HBE.out HB2.out⟩
    · obtain rfl : k = ls.length := by omega
      have hltI : ¬ ((ls.length : Nat) : Int) < (ls.length : Int) := by omega
      have HF := Lib.hid (HY.out HTK.out)
      go_wp2
      go_ret
      exact ⟨by rw [HF.out]; rfl, HBE.out⟩
end Go.Proofs.YtjkbmmhnlhaapaaGreat

namespace Go.Proofs.YtjkbmmhnlhaapaaGreat
open Go.RowKit
set_option linter.unusedVariables false
set_option linter.unusedSimpArgs false
set_option maxRecDepth 20000

set_option maxHeartbeats 2000000 in
theorem rCerts_true (c : Crt) (bv cv : Value) (A : Option Addr) (a : Nat) (D : Option Addr) (d : Nat) (w : World) (hb : Bs w bv c.1.2) (hc : Bs w cv c.1.2) (hl : EnvK w A a c.2) (hm : EnvK w D d c.2) :
    Calls Tryz.prog 66 #[agCt c.1.1 bv A c.2.length a, agCt c.1.1 cv D c.2.length d] w (AskB true w) := by
  obtain ⟨BA, b1, rfl, -⟩ := hb.open
  obtain ⟨CA, c1, rfl, -⟩ := hc.open
  obtain ⟨x1, x2, x3⟩ := box2B w #[.int .i64 c.1.1, .slice BA c.1.2.length b1, .slice A c.2.length a] #[.int .i64 c.1.1, .slice CA c.1.2.length c1, .slice D c.2.length d] 50 50
  have HS := Lib.hid (fun W (h : Below w.heap.size w W) => show Calls Tryz.prog 52 #[.agg #[.int .i64 c.1.1, .slice BA c.1.2.length b1], .agg #[.int .i64 c.1.1, .slice CA c.1.2.length c1]] W (AskB true W) from by
    have := rSame3_any c.1 c.1 _ _ W (hb.below h (Nat.le_refl _)) (hc.below h (Nat.le_refl _))
    rw [decide_eq_true rfl] at this
    exact this)
  have HA := Lib.hid (fun W (h : Below w.heap.size w W) => show Calls Tryz.prog 41 #[.slice A c.2.length a, .slice D c.2.length d] W (AskB true W) from by
    have := rAll3_any c.2 c.2 A a D d W (hl.below h) (hm.below h)
    rw [decide_eq_true rfl] at this
    exact this)
  have HX1 := Lib.hid x1
  have HX2 := Lib.hid x2
  have HB := Lib.hid x3
  clear x1 x2 x3 hb hc hl hm
  generalize c.1.2.length = n at *
  generalize c.1.1 = s at *
  generalize c.2.length = k at *
  go_enter Tryz.func66, Tryz.ntmps66
  go_wp2_with (first
    | (go_at_call 52; refine (HS.out _ HB.out).mono ?_; rintro e w1 ⟨rfl, hb⟩; have HX1 := Lib.hid (heapB HX1.out hb); have HX2 := Lib.hid (heapB HX2.out hb); have HB := Lib.hid (bel2M HB.out hb); have q1 := rowCell HX1.out 2 (.slice A k a) rfl; have q2 := rowCell HX2.out 2 (.slice D k d) rfl; clear hb)
    | (go_at_call 41; refine (HA.out _ HB.out).mono ?_; rintro e w2 ⟨rfl, hb⟩; have HB := Lib.hid (bel2M HB.out hb); clear hb))
  go_ret
  exact ⟨rfl, HB.out⟩
abbrev SS8 (p1 p2 p3 p4 : Addr) (v1 v2 u1 u2 u3 y1 y2 y3 : Value) : World → Prop := fun W => W.cell? p1 = some v1 ∧ W.cell? p2 = some v2 ∧ W.cell? p3 = some u1 ∧ W.cell? ⟨p3.block, p3.off + 1, none⟩ = some u2 ∧ W.cell? ⟨p3.block, p3.off + 2, none⟩ = some u3 ∧ W.cell? p4 = some y1 ∧ W.cell? ⟨p4.block, p4.off + 1, none⟩ = some y2 ∧ W.cell? ⟨p4.block, p4.off + 2, none⟩ = some y3
theorem SS8.below {p1 p2 p3 p4 : Addr} {v1 v2 u1 u2 u3 y1 y2 y3 : Value} {W W' : World} (h : SS8 p1 p2 p3 p4 v1 v2 u1 u2 u3 y1 y2 y3 W) (hb : Below W.heap.size W W') : SS8 p1 p2 p3 p4 v1 v2 u1 u2 u3 y1 y2 y3 W' := ⟨cellB h.1 hb, cellB h.2.1 hb, cellB h.2.2.1 hb, cellB h.2.2.2.1 hb, cellB h.2.2.2.2.1 hb, cellB h.2.2.2.2.2.1 hb, cellB h.2.2.2.2.2.2.1 hb, cellB h.2.2.2.2.2.2.2 hb⟩

set_option maxHeartbeats 2000000 in
theorem rCerts_any (x y : Crt) (bv cv : Value) (A : Option Addr) (a : Nat) (D : Option Addr) (d : Nat) (w : World) (hb : Bs w bv x.1.2) (hc : Bs w cv y.1.2) (hl : EnvK w A a x.2) (hm : EnvK w D d y.2) :
    Calls Tryz.prog 66 #[agCt x.1.1 bv A x.2.length a, agCt y.1.1 cv D y.2.length d] w (AskB (decide (x = y)) w) := by
  by_cases h1 : x = y
  · subst h1
    rw [decide_eq_true rfl]
    exact rCerts_true x bv cv A a D d w hb hc hl hm
  rw [decide_eq_false h1]
  obtain ⟨BA, b1, rfl, -⟩ := hb.open
  obtain ⟨CA, c1, rfl, -⟩ := hc.open
  obtain ⟨x1, x2, x3⟩ := box2B w #[.int .i64 x.1.1, .slice BA x.1.2.length b1, .slice A x.2.length a] #[.int .i64 y.1.1, .slice CA y.1.2.length c1, .slice D y.2.length d] 50 50
  have HX1 := Lib.hid x1
  have HX2 := Lib.hid x2
  have HB := Lib.hid x3
  by_cases h2 : x.1 = y.1
  · have h3 : ¬ x.2 = y.2 := fun h => h1 (Prod.ext h2 h)
    have HS := Lib.hid (fun W (h : Below w.heap.size w W) => show Calls Tryz.prog 52 #[.agg #[.int .i64 x.1.1, .slice BA x.1.2.length b1], .agg #[.int .i64 y.1.1, .slice CA y.1.2.length c1]] W (AskB true W) from by
      have := rSame3_any x.1 y.1 _ _ W (hb.below h (Nat.le_refl _)) (hc.below h (Nat.le_refl _))
      rw [decide_eq_true h2] at this
      exact this)
    have HA := Lib.hid (fun W (h : Below w.heap.size w W) => show Calls Tryz.prog 41 #[.slice A x.2.length a, .slice D y.2.length d] W (AskB false W) from by
      have := rAll3_any x.2 y.2 A a D d W (hl.below h) (hm.below h)
      rw [decide_eq_false h3] at this
      exact this)
    clear x1 x2 x3 hb hc hl hm h1 h2 h3
    generalize x.1.2.length = n at *
    generalize x.1.1 = s at *
    generalize x.2.length = k at *
    generalize y.1.2.length = n2 at *
    generalize y.1.1 = s2 at *
    generalize y.2.length = k2 at *
    go_enter Tryz.func66, Tryz.ntmps66
    go_wp2_with (first
      | (go_at_call 52; refine (HS.out _ HB.out).mono ?_; rintro e w1 ⟨rfl, hb⟩; have HX1 := Lib.hid (heapB HX1.out hb); have HX2 := Lib.hid (heapB HX2.out hb); have HB := Lib.hid (bel2M HB.out hb); have q1 := rowCell HX1.out 2 (.slice A k a) rfl; have q2 := rowCell HX2.out 2 (.slice D k2 d) rfl; clear hb)
      | (go_at_call 41; refine (HA.out _ HB.out).mono ?_; rintro e w2 ⟨rfl, hb⟩; have HB := Lib.hid (bel2M HB.out hb); clear hb))
    go_ret
    exact ⟨rfl, HB.out⟩
  · have HS := Lib.hid (fun W (h : Below w.heap.size w W) => show Calls Tryz.prog 52 #[.agg #[.int .i64 x.1.1, .slice BA x.1.2.length b1], .agg #[.int .i64 y.1.1, .slice CA y.1.2.length c1]] W (AskB false W) from by
      have := rSame3_any x.1 y.1 _ _ W (hb.below h (Nat.le_refl _)) (hc.below h (Nat.le_refl _))
      rw [decide_eq_false h2] at this
      exact this)
    clear x1 x2 x3 hb hc hl hm h1 h2
    generalize x.1.2.length = n at *
    generalize x.1.1 = s at *
    generalize x.2.length = k at *
    generalize y.1.2.length = n2 at *
    generalize y.1.1 = s2 at *
    generalize y.2.length = k2 at *
    go_enter Tryz.func66, Tryz.ntmps66
    go_wp2_with (first
      | (go_at_call 52; refine (HS.out _ HB.out).mono ?_; rintro e w1 ⟨rfl, hb⟩; have HB := Lib.hid (bel2M HB.out hb); clear hb))
    go_ret
    exact ⟨rfl, HB.out⟩
/-! two messages that differ: the walk ends with a no -/
set_option maxHeartbeats 4000000 in
theorem same_k (k : Int) (v : Int) (s : Int) (c : Int) (t : Int) (d : List UInt8) (x : List UInt8) (ra : Int) (rb : Int) (b : List (Int × List UInt8)) (p : List (Int × List UInt8)) (q : List Crt) (k' : Int) (v' : Int) (s' : Int) (c' : Int) (t' : Int) (d' : List UInt8) (x' : List UInt8) (ra' : Int) (rb' : Int) (b' : List (Int × List UInt8)) (p' : List (Int × List UInt8)) (q' : List Crt) (P Q : Plc) (w : World) (h : (k != k') = true) : Calls Tryz.prog 28 #[agM ⟨k, v, s, c, t, d, x, (ra, rb), b, p, q⟩ P, agM ⟨k', v', s', c', t', d', x', (ra', rb'), b', p', q'⟩ Q] w (AskB false w) := by
  obtain ⟨x1, x2, x3⟩ := box2B w (msC ⟨k, v, s, c, t, d, x, (ra, rb), b, p, q⟩ P) (msC ⟨k', v', s', c', t', d', x', (ra', rb'), b', p', q'⟩ Q) 57 57
  have HX := Lib.hid x1
  have HY := Lib.hid x2
  have HB := Lib.hid x3
  clear x1 x2 x3
  go_enter Tryz.func28, Tryz.ntmps28
  go_wp2
  go_ret
  exact ⟨rfl, HB.out⟩
set_option maxHeartbeats 4000000 in
theorem same_v (k : Int) (v : Int) (s : Int) (c : Int) (t : Int) (d : List UInt8) (x : List UInt8) (ra : Int) (rb : Int) (b : List (Int × List UInt8)) (p : List (Int × List UInt8)) (q : List Crt) (v' : Int) (s' : Int) (c' : Int) (t' : Int) (d' : List UInt8) (x' : List UInt8) (ra' : Int) (rb' : Int) (b' : List (Int × List UInt8)) (p' : List (Int × List UInt8)) (q' : List Crt) (P Q : Plc) (w : World) (h : (v != v') = true) : Calls Tryz.prog 28 #[agM ⟨k, v, s, c, t, d, x, (ra, rb), b, p, q⟩ P, agM ⟨k, v', s', c', t', d', x', (ra', rb'), b', p', q'⟩ Q] w (AskB false w) := by
  obtain ⟨x1, x2, x3⟩ := box2B w (msC ⟨k, v, s, c, t, d, x, (ra, rb), b, p, q⟩ P) (msC ⟨k, v', s', c', t', d', x', (ra', rb'), b', p', q'⟩ Q) 57 57
  have HX := Lib.hid x1
  have HY := Lib.hid x2
  have HB := Lib.hid x3
  clear x1 x2 x3
  go_enter Tryz.func28, Tryz.ntmps28
  go_wp2
  go_ret
  exact ⟨rfl, HB.out⟩
set_option maxHeartbeats 4000000 in
theorem same_s (k : Int) (v : Int) (s : Int) (c : Int) (t : Int) (d : List UInt8) (x : List UInt8) (ra : Int) (rb : Int) (b : List (Int × List UInt8)) (p : List (Int × List UInt8)) (q : List Crt) (s' : Int) (c' : Int) (t' : Int) (d' : List UInt8) (x' : List UInt8) (ra' : Int) (rb' : Int) (b' : List (Int × List UInt8)) (p' : List (Int × List UInt8)) (q' : List Crt) (P Q : Plc) (w : World) (h : (s != s') = true) : Calls Tryz.prog 28 #[agM ⟨k, v, s, c, t, d, x, (ra, rb), b, p, q⟩ P, agM ⟨k, v, s', c', t', d', x', (ra', rb'), b', p', q'⟩ Q] w (AskB false w) := by
  obtain ⟨x1, x2, x3⟩ := box2B w (msC ⟨k, v, s, c, t, d, x, (ra, rb), b, p, q⟩ P) (msC ⟨k, v, s', c', t', d', x', (ra', rb'), b', p', q'⟩ Q) 57 57
  have HX := Lib.hid x1
  have HY := Lib.hid x2
  have HB := Lib.hid x3
  clear x1 x2 x3
  go_enter Tryz.func28, Tryz.ntmps28
  go_wp2
  go_ret
  exact ⟨rfl, HB.out⟩
set_option maxHeartbeats 4000000 in
theorem same_c (k : Int) (v : Int) (s : Int) (c : Int) (t : Int) (d : List UInt8) (x : List UInt8) (ra : Int) (rb : Int) (b : List (Int × List UInt8)) (p : List (Int × List UInt8)) (q : List Crt) (c' : Int) (t' : Int) (d' : List UInt8) (x' : List UInt8) (ra' : Int) (rb' : Int) (b' : List (Int × List UInt8)) (p' : List (Int × List UInt8)) (q' : List Crt) (P Q : Plc) (w : World) (h : (c != c') = true) : Calls Tryz.prog 28 #[agM ⟨k, v, s, c, t, d, x, (ra, rb), b, p, q⟩ P, agM ⟨k, v, s, c', t', d', x', (ra', rb'), b', p', q'⟩ Q] w (AskB false w) := by
  obtain ⟨x1, x2, x3⟩ := box2B w (msC ⟨k, v, s, c, t, d, x, (ra, rb), b, p, q⟩ P) (msC ⟨k, v, s, c', t', d', x', (ra', rb'), b', p', q'⟩ Q) 57 57
  have HX := Lib.hid x1
  have HY := Lib.hid x2
  have HB := Lib.hid x3
  clear x1 x2 x3
  go_enter Tryz.func28, Tryz.ntmps28
  go_wp2
  go_ret
  exact ⟨rfl, HB.out⟩
set_option maxHeartbeats 4000000 in
theorem same_t (k : Int) (v : Int) (s : Int) (c : Int) (t : Int) (d : List UInt8) (x : List UInt8) (ra : Int) (rb : Int) (b : List (Int × List UInt8)) (p : List (Int × List UInt8)) (q : List Crt) (t' : Int) (d' : List UInt8) (x' : List UInt8) (ra' : Int) (rb' : Int) (b' : List (Int × List UInt8)) (p' : List (Int × List UInt8)) (q' : List Crt) (P Q : Plc) (w : World) (h : (t != t') = true) : Calls Tryz.prog 28 #[agM ⟨k, v, s, c, t, d, x, (ra, rb), b, p, q⟩ P, agM ⟨k, v, s, c, t', d', x', (ra', rb'), b', p', q'⟩ Q] w (AskB false w) := by
  obtain ⟨x1, x2, x3⟩ := box2B w (msC ⟨k, v, s, c, t, d, x, (ra, rb), b, p, q⟩ P) (msC ⟨k, v, s, c, t', d', x', (ra', rb'), b', p', q'⟩ Q) 57 57
  have HX := Lib.hid x1
  have HY := Lib.hid x2
  have HB := Lib.hid x3
  clear x1 x2 x3
  go_enter Tryz.func28, Tryz.ntmps28
  go_wp2
  go_ret
  exact ⟨rfl, HB.out⟩
set_option maxHeartbeats 4000000 in
theorem same_d (k : Int) (v : Int) (s : Int) (c : Int) (t : Int) (d : List UInt8) (x : List UInt8) (ra : Int) (rb : Int) (b : List (Int × List UInt8)) (p : List (Int × List UInt8)) (q : List Crt) (d' : List UInt8) (x' : List UInt8) (ra' : Int) (rb' : Int) (b' : List (Int × List UInt8)) (p' : List (Int × List UInt8)) (q' : List Crt) (P Q : Plc) (w : World) (h : ((strB d).toList == (strB d').toList) = false) : Calls Tryz.prog 28 #[agM ⟨k, v, s, c, t, d, x, (ra, rb), b, p, q⟩ P, agM ⟨k, v, s, c, t, d', x', (ra', rb'), b', p', q'⟩ Q] w (AskB false w) := by
  obtain ⟨x1, x2, x3⟩ := box2B w (msC ⟨k, v, s, c, t, d, x, (ra, rb), b, p, q⟩ P) (msC ⟨k, v, s, c, t, d', x', (ra', rb'), b', p', q'⟩ Q) 57 57
  have HX := Lib.hid x1
  have HY := Lib.hid x2
  have HB := Lib.hid x3
  clear x1 x2 x3
  go_enter Tryz.func28, Tryz.ntmps28
  go_wp2
  go_ret
  exact ⟨rfl, HB.out⟩
set_option maxHeartbeats 4000000 in
theorem same_x (k : Int) (v : Int) (s : Int) (c : Int) (t : Int) (d : List UInt8) (x : List UInt8) (ra : Int) (rb : Int) (b : List (Int × List UInt8)) (p : List (Int × List UInt8)) (q : List Crt) (x' : List UInt8) (ra' : Int) (rb' : Int) (b' : List (Int × List UInt8)) (p' : List (Int × List UInt8)) (q' : List Crt) (P Q : Plc) (w : World) (h : ¬ x = x') (hx : Bs w (.slice P.x.1 x.length P.x.2) x) (hx' : Bs w (.slice Q.x.1 x'.length Q.x.2) x') : Calls Tryz.prog 28 #[agM ⟨k, v, s, c, t, d, x, (ra, rb), b, p, q⟩ P, agM ⟨k, v, s, c, t, d, x', (ra', rb'), b', p', q'⟩ Q] w (AskB false w) := by
  obtain ⟨x1, x2, x3⟩ := box2B w (msC ⟨k, v, s, c, t, d, x, (ra, rb), b, p, q⟩ P) (msC ⟨k, v, s, c, t, d, x', (ra', rb'), b', p', q'⟩ Q) 57 57
  have HX := Lib.hid x1
  have HY := Lib.hid x2
  have HB := Lib.hid x3
  have hself : ((strB d).toList == (strB d).toList) = true := by simp
  have HS := Lib.hid (fun W (hb : Below w.heap.size w W) => show Calls Tryz.prog 65 #[.slice P.x.1 x.length P.x.2, .slice Q.x.1 x'.length Q.x.2] W (fun e w' => e = .returned (.bool false) ∧ W = w') from by
    have := Same_any _ _ x x' W (hx.below hb (Nat.le_refl _)) (hx'.below hb (Nat.le_refl _))
    rw [show (x == x') = false by simpa using h] at this
    exact this)
  clear hx hx' h
  clear x1 x2 x3
  go_enter Tryz.func28, Tryz.ntmps28
  go_wp2_with (first
    | (go_at_call 65; refine (HS.out _ HB.out).mono ?_; rintro e w1 ⟨rfl, rfl⟩))
  go_ret
  exact ⟨rfl, HB.out⟩
set_option maxHeartbeats 4000000 in
theorem same_ra (k : Int) (v : Int) (s : Int) (c : Int) (t : Int) (d : List UInt8) (x : List UInt8) (ra : Int) (rb : Int) (b : List (Int × List UInt8)) (p : List (Int × List UInt8)) (q : List Crt) (ra' : Int) (rb' : Int) (b' : List (Int × List UInt8)) (p' : List (Int × List UInt8)) (q' : List Crt) (P Q : Plc) (w : World) (h : ¬ ra = ra') (hx : Bs w (.slice P.x.1 x.length P.x.2) x) (hx' : Bs w (.slice Q.x.1 x.length Q.x.2) x) : Calls Tryz.prog 28 #[agM ⟨k, v, s, c, t, d, x, (ra, rb), b, p, q⟩ P, agM ⟨k, v, s, c, t, d, x, (ra', rb'), b', p', q'⟩ Q] w (AskB false w) := by
  obtain ⟨x1, x2, x3⟩ := box2B w (msC ⟨k, v, s, c, t, d, x, (ra, rb), b, p, q⟩ P) (msC ⟨k, v, s, c, t, d, x, (ra', rb'), b', p', q'⟩ Q) 57 57
  have HX := Lib.hid x1
  have HY := Lib.hid x2
  have HB := Lib.hid x3
  have hself : ((strB d).toList == (strB d).toList) = true := by simp
  have HS := Lib.hid (fun W (hb : Below w.heap.size w W) => Same_yes _ _ x W (hx.below hb (Nat.le_refl _)) (hx'.below hb (Nat.le_refl _)))
  clear hx hx'
  clear x1 x2 x3
  go_enter Tryz.func28, Tryz.ntmps28
  go_wp2_with (first
    | (go_at_call 65; refine (HS.out _ HB.out).mono ?_; rintro e w1 ⟨rfl, rfl⟩))
  go_ret
  exact ⟨rfl, HB.out⟩
set_option maxHeartbeats 4000000 in
theorem same_rb (k : Int) (v : Int) (s : Int) (c : Int) (t : Int) (d : List UInt8) (x : List UInt8) (ra : Int) (rb : Int) (b : List (Int × List UInt8)) (p : List (Int × List UInt8)) (q : List Crt) (rb' : Int) (b' : List (Int × List UInt8)) (p' : List (Int × List UInt8)) (q' : List Crt) (P Q : Plc) (w : World) (h : ¬ rb = rb') (hx : Bs w (.slice P.x.1 x.length P.x.2) x) (hx' : Bs w (.slice Q.x.1 x.length Q.x.2) x) : Calls Tryz.prog 28 #[agM ⟨k, v, s, c, t, d, x, (ra, rb), b, p, q⟩ P, agM ⟨k, v, s, c, t, d, x, (ra, rb'), b', p', q'⟩ Q] w (AskB false w) := by
  obtain ⟨x1, x2, x3⟩ := box2B w (msC ⟨k, v, s, c, t, d, x, (ra, rb), b, p, q⟩ P) (msC ⟨k, v, s, c, t, d, x, (ra, rb'), b', p', q'⟩ Q) 57 57
  have HX := Lib.hid x1
  have HY := Lib.hid x2
  have HB := Lib.hid x3
  have hself : ((strB d).toList == (strB d).toList) = true := by simp
  have HS := Lib.hid (fun W (hb : Below w.heap.size w W) => Same_yes _ _ x W (hx.below hb (Nat.le_refl _)) (hx'.below hb (Nat.le_refl _)))
  clear hx hx'
  clear x1 x2 x3
  go_enter Tryz.func28, Tryz.ntmps28
  go_wp2_with (first
    | (go_at_call 65; refine (HS.out _ HB.out).mono ?_; rintro e w1 ⟨rfl, rfl⟩))
  go_ret
  exact ⟨rfl, HB.out⟩
set_option maxHeartbeats 4000000 in
theorem same_b (k : Int) (v : Int) (s : Int) (c : Int) (t : Int) (d : List UInt8) (x : List UInt8) (ra : Int) (rb : Int) (b : List (Int × List UInt8)) (p : List (Int × List UInt8)) (q : List Crt) (b' : List (Int × List UInt8)) (p' : List (Int × List UInt8)) (q' : List Crt) (P Q : Plc) (w : World) (h : ¬ b = b') (hx : Bs w (.slice P.x.1 x.length P.x.2) x) (hx' : Bs w (.slice Q.x.1 x.length Q.x.2) x) (hb : EnvK w P.b.1 P.b.2 b) (hb' : EnvK w Q.b.1 Q.b.2 b') : Calls Tryz.prog 28 #[agM ⟨k, v, s, c, t, d, x, (ra, rb), b, p, q⟩ P, agM ⟨k, v, s, c, t, d, x, (ra, rb), b', p', q'⟩ Q] w (AskB false w) := by
  obtain ⟨x1, x2, x3⟩ := box2B w (msC ⟨k, v, s, c, t, d, x, (ra, rb), b, p, q⟩ P) (msC ⟨k, v, s, c, t, d, x, (ra, rb), b', p', q'⟩ Q) 57 57
  have HX := Lib.hid x1
  have HY := Lib.hid x2
  have HB := Lib.hid x3
  have hself : ((strB d).toList == (strB d).toList) = true := by simp
  have HS := Lib.hid (fun W (hb : Below w.heap.size w W) => Same_yes _ _ x W (hx.below hb (Nat.le_refl _)) (hx'.below hb (Nat.le_refl _)))
  clear hx hx'
  have HA1 := Lib.hid (fun W (h9 : Below w.heap.size w W) => show Calls Tryz.prog 41 #[.slice P.b.1 b.length P.b.2, .slice Q.b.1 b'.length Q.b.2] W (AskB false W) from by
    have := rAll3_any b b' _ _ _ _ W (hb.below h9) (hb'.below h9)
    rw [decide_eq_false h] at this
    exact this)
  clear hb hb' h
  clear x1 x2 x3
  go_enter Tryz.func28, Tryz.ntmps28
  go_wp2_with (first
    | (go_at_call 65; refine (HS.out _ HB.out).mono ?_; rintro e w1 ⟨rfl, rfl⟩)
    | (go_at_call_of 41 (Value.slice P.b.1 b.length P.b.2); refine (HA1.out _ HB.out).mono ?_; rintro e w2 ⟨rfl, hb⟩; have HX := Lib.hid (heapB HX.out hb); have HY := Lib.hid (heapB HY.out hb); have HB := Lib.hid (bel2M HB.out hb); clear hb))
  go_ret
  exact ⟨rfl, HB.out⟩
set_option maxHeartbeats 4000000 in
theorem same_p (k : Int) (v : Int) (s : Int) (c : Int) (t : Int) (d : List UInt8) (x : List UInt8) (ra : Int) (rb : Int) (b : List (Int × List UInt8)) (p : List (Int × List UInt8)) (q : List Crt) (p' : List (Int × List UInt8)) (q' : List Crt) (P Q : Plc) (w : World) (h : ¬ p = p') (hx : Bs w (.slice P.x.1 x.length P.x.2) x) (hx' : Bs w (.slice Q.x.1 x.length Q.x.2) x) (hb : EnvK w P.b.1 P.b.2 b) (hb' : EnvK w Q.b.1 Q.b.2 b) (hp : EnvK w P.p.1 P.p.2 p) (hp' : EnvK w Q.p.1 Q.p.2 p') : Calls Tryz.prog 28 #[agM ⟨k, v, s, c, t, d, x, (ra, rb), b, p, q⟩ P, agM ⟨k, v, s, c, t, d, x, (ra, rb), b, p', q'⟩ Q] w (AskB false w) := by
  obtain ⟨x1, x2, x3⟩ := box2B w (msC ⟨k, v, s, c, t, d, x, (ra, rb), b, p, q⟩ P) (msC ⟨k, v, s, c, t, d, x, (ra, rb), b, p', q'⟩ Q) 57 57
  have HX := Lib.hid x1
  have HY := Lib.hid x2
  have HB := Lib.hid x3
  have hself : ((strB d).toList == (strB d).toList) = true := by simp
  have HS := Lib.hid (fun W (hb : Below w.heap.size w W) => Same_yes _ _ x W (hx.below hb (Nat.le_refl _)) (hx'.below hb (Nat.le_refl _)))
  clear hx hx'
  have HA1 := Lib.hid (fun W (h9 : Below w.heap.size w W) => show Calls Tryz.prog 41 #[.slice P.b.1 b.length P.b.2, .slice Q.b.1 b.length Q.b.2] W (AskB true W) from by
    have := rAll3_any b b _ _ _ _ W (hb.below h9) (hb'.below h9)
    rw [decide_eq_true rfl] at this
    exact this)
  have HA2 := Lib.hid (fun W (h9 : Below w.heap.size w W) => show Calls Tryz.prog 41 #[.slice P.p.1 p.length P.p.2, .slice Q.p.1 p'.length Q.p.2] W (AskB false W) from by
    have := rAll3_any p p' _ _ _ _ W (hp.below h9) (hp'.below h9)
    rw [decide_eq_false h] at this
    exact this)
  clear hb hb' hp hp' h
  clear x1 x2 x3
  go_enter Tryz.func28, Tryz.ntmps28
  go_wp2_with (first
    | (go_at_call 65; refine (HS.out _ HB.out).mono ?_; rintro e w1 ⟨rfl, rfl⟩)
    | (go_at_call_of 41 (Value.slice P.b.1 b.length P.b.2); refine (HA1.out _ HB.out).mono ?_; rintro e w2 ⟨rfl, hb⟩; have HX := Lib.hid (heapB HX.out hb); have HY := Lib.hid (heapB HY.out hb); have HB := Lib.hid (bel2M HB.out hb); clear hb; have x10 := rowCell HX.out 10 (.slice P.p.1 p.length P.p.2) rfl; have y10 := rowCell HY.out 10 (.slice Q.p.1 p'.length Q.p.2) rfl)
    | (go_at_call_of 41 (Value.slice P.p.1 p.length P.p.2); refine (HA2.out _ HB.out).mono ?_; rintro e w3 ⟨rfl, hb⟩; have HX := Lib.hid (heapB HX.out hb); have HY := Lib.hid (heapB HY.out hb); have HB := Lib.hid (bel2M HB.out hb); clear hb))
  go_ret
  exact ⟨rfl, HB.out⟩
set_option maxHeartbeats 4000000 in
theorem same_qn (k : Int) (v : Int) (s : Int) (c : Int) (t : Int) (d : List UInt8) (x : List UInt8) (ra : Int) (rb : Int) (b : List (Int × List UInt8)) (p : List (Int × List UInt8)) (q : List Crt) (q' : List Crt) (P Q : Plc) (w : World) (h : ((q.length : Int) != (q'.length : Int)) = true) (hx : Bs w (.slice P.x.1 x.length P.x.2) x) (hx' : Bs w (.slice Q.x.1 x.length Q.x.2) x) (hb : EnvK w P.b.1 P.b.2 b) (hb' : EnvK w Q.b.1 Q.b.2 b) (hp : EnvK w P.p.1 P.p.2 p) (hp' : EnvK w Q.p.1 Q.p.2 p) : Calls Tryz.prog 28 #[agM ⟨k, v, s, c, t, d, x, (ra, rb), b, p, q⟩ P, agM ⟨k, v, s, c, t, d, x, (ra, rb), b, p, q'⟩ Q] w (AskB false w) := by
  obtain ⟨x1, x2, x3⟩ := box2B w (msC ⟨k, v, s, c, t, d, x, (ra, rb), b, p, q⟩ P) (msC ⟨k, v, s, c, t, d, x, (ra, rb), b, p, q'⟩ Q) 57 57
  have HX := Lib.hid x1
  have HY := Lib.hid x2
  have HB := Lib.hid x3
  have hself : ((strB d).toList == (strB d).toList) = true := by simp
  have HS := Lib.hid (fun W (hb : Below w.heap.size w W) => Same_yes _ _ x W (hx.below hb (Nat.le_refl _)) (hx'.below hb (Nat.le_refl _)))
  clear hx hx'
  have HA1 := Lib.hid (fun W (h9 : Below w.heap.size w W) => show Calls Tryz.prog 41 #[.slice P.b.1 b.length P.b.2, .slice Q.b.1 b.length Q.b.2] W (AskB true W) from by
    have := rAll3_any b b _ _ _ _ W (hb.below h9) (hb'.below h9)
    rw [decide_eq_true rfl] at this
    exact this)
  have HA2 := Lib.hid (fun W (h9 : Below w.heap.size w W) => show Calls Tryz.prog 41 #[.slice P.p.1 p.length P.p.2, .slice Q.p.1 p.length Q.p.2] W (AskB true W) from by
    have := rAll3_any p p _ _ _ _ W (hp.below h9) (hp'.below h9)
    rw [decide_eq_true rfl] at this
    exact this)
  clear hb hb' hp hp'
  clear x1 x2 x3
  go_enter Tryz.func28, Tryz.ntmps28
  go_wp2_with (first
    | (go_at_call 65; refine (HS.out _ HB.out).mono ?_; rintro e w1 ⟨rfl, rfl⟩)
    | (go_at_call_of 41 (Value.slice P.b.1 b.length P.b.2); refine (HA1.out _ HB.out).mono ?_; rintro e w2 ⟨rfl, hb⟩; have HX := Lib.hid (heapB HX.out hb); have HY := Lib.hid (heapB HY.out hb); have HB := Lib.hid (bel2M HB.out hb); clear hb; have x10 := rowCell HX.out 10 (.slice P.p.1 p.length P.p.2) rfl; have y10 := rowCell HY.out 10 (.slice Q.p.1 p.length Q.p.2) rfl)
    | (go_at_call_of 41 (Value.slice P.p.1 p.length P.p.2); refine (HA2.out _ HB.out).mono ?_; rintro e w3 ⟨rfl, hb⟩; have HX := Lib.hid (heapB HX.out hb); have HY := Lib.hid (heapB HY.out hb); have HB := Lib.hid (bel2M HB.out hb); clear hb; have x11 := rowCell HX.out 11 (.slice P.q.1 q.length P.q.2) rfl; have y11 := rowCell HY.out 11 (.slice Q.q.1 q'.length Q.q.2) rfl))
  go_ret
  exact ⟨rfl, HB.out⟩
set_option maxHeartbeats 4000000 in
theorem same_q (k : Int) (v : Int) (s : Int) (c : Int) (t : Int) (d : List UInt8) (x : List UInt8) (ra : Int) (rb : Int) (b : List (Int × List UInt8)) (p : List (Int × List UInt8)) (q : List Crt) (q' : List Crt) (P Q : Plc) (w : World) (hn : q.length = q'.length) (hx : Bs w (.slice P.x.1 x.length P.x.2) x) (hx' : Bs w (.slice Q.x.1 x.length Q.x.2) x) (hb : EnvK w P.b.1 P.b.2 b) (hb' : EnvK w Q.b.1 Q.b.2 b) (hp : EnvK w P.p.1 P.p.2 p) (hp' : EnvK w Q.p.1 Q.p.2 p) (hq : CrtK w P.q.1 P.q.2 q) (hq' : CrtK w Q.q.1 Q.q.2 q') : Calls Tryz.prog 28 #[agM ⟨k, v, s, c, t, d, x, (ra, rb), b, p, q⟩ P, agM ⟨k, v, s, c, t, d, x, (ra, rb), b, p, q'⟩ Q] w (AskB (decide (q = q')) w) := by
  obtain ⟨x1, x2, x3⟩ := box2B w (msC ⟨k, v, s, c, t, d, x, (ra, rb), b, p, q⟩ P) (msC ⟨k, v, s, c, t, d, x, (ra, rb), b, p, q'⟩ Q) 57 57
  have HX := Lib.hid x1
  have HY := Lib.hid x2
  have HB := Lib.hid x3
  have hself : ((strB d).toList == (strB d).toList) = true := by simp
  have HS := Lib.hid (fun W (hb : Below w.heap.size w W) => Same_yes _ _ x W (hx.below hb (Nat.le_refl _)) (hx'.below hb (Nat.le_refl _)))
  clear hx hx'
  have HA1 := Lib.hid (fun W (h9 : Below w.heap.size w W) => show Calls Tryz.prog 41 #[.slice P.b.1 b.length P.b.2, .slice Q.b.1 b.length Q.b.2] W (AskB true W) from by
    have := rAll3_any b b _ _ _ _ W (hb.below h9) (hb'.below h9)
    rw [decide_eq_true rfl] at this
    exact this)
  have HA2 := Lib.hid (fun W (h9 : Below w.heap.size w W) => show Calls Tryz.prog 41 #[.slice P.p.1 p.length P.p.2, .slice Q.p.1 p.length Q.p.2] W (AskB true W) from by
    have := rAll3_any p p _ _ _ _ W (hp.below h9) (hp'.below h9)
    rw [decide_eq_true rfl] at this
    exact this)
  clear hb hb' hp hp'
  have e1 : ((q.length : Int) != (q'.length : Int)) = false := by simp; omega
  have hqm : q.length ≤ 9223372036854775807 := by have h1 := hq.1; have h2 := hq.2.1; unfold maxLen at h2; omega
  have HQ1 := Lib.hid (fun k hk => crt_open hq k hk)
  have HQ2 := Lib.hid (fun k hk => crt_open hq' k hk)
  have HYY := Lib.hid (fun (h : q.take q.length = q'.take q.length) => show decide (q = q') = true by rw [List.take_length, hn, List.take_length] at h; simpa using h)
  have HNN := Lib.hid (fun (k : Nat) (h1 : k < q.length) (h2 : k < q'.length) (h : q[k] ≠ q'[k]) => show decide (q = q') = false by simp; rintro rfl; exact h rfl)
  have HTT := Lib.hid (fun (k : Nat) (h1 : k < q.length) (h2 : k < q'.length) (h : q[k] = q'[k]) (ht : q.take k = q'.take k) => show q.take (k + 1) = q'.take (k + 1) by rw [List.take_succ_eq_append_getElem h1, List.take_succ_eq_append_getElem h2, h, ht])
  have HNL := Lib.hid hn
  clear hq hq' hn
  generalize decide (q = q') = res at *
  obtain ⟨PX, PB, PP, PA, pc⟩ := P
  obtain ⟨QX, QB, QP, QA, qc⟩ := Q
  simp only at *
  clear x1 x2 x3
  go_enter Tryz.func28, Tryz.ntmps28
  go_wp2_with (first
    | (go_at_call 65; refine (HS.out _ HB.out).mono ?_; rintro e w1 ⟨rfl, rfl⟩)
    | (go_at_call_of 41 (Value.slice PB.1 b.length PB.2); refine (HA1.out _ HB.out).mono ?_; rintro e w2 ⟨rfl, hb⟩; have HX := Lib.hid (heapB HX.out hb); have HY := Lib.hid (heapB HY.out hb); have HB := Lib.hid (bel2M HB.out hb); clear hb; have x10 := rowCell HX.out 10 (.slice PP.1 p.length PP.2) rfl; have y10 := rowCell HY.out 10 (.slice QP.1 p.length QP.2) rfl)
    | (go_at_call_of 41 (Value.slice PP.1 p.length PP.2); refine (HA2.out _ HB.out).mono ?_; rintro e w3 ⟨rfl, hb⟩; have HX := Lib.hid (heapB HX.out hb); have HY := Lib.hid (heapB HY.out hb); have HB := Lib.hid (bel2M HB.out hb); clear hb; have x11 := rowCell HX.out 11 (.slice PA q.length pc) rfl; have y11 := rowCell HY.out 11 (.slice QA q'.length qc) rfl))
  go_loopw [5] (fun i wr => ∃ k1 : Nat, k1 ≤ q.length ∧ i = .int .i64 k1 ∧ q.take k1 = q'.take k1 ∧ Below w.heap.size w wr ∧ wr.heap[w.heap.size]? = some (.cells (msC ⟨k, v, s, c, t, d, x, (ra, rb), b, p, q⟩ ⟨PX, PB, PP, PA, pc⟩) 57 (0, 0)) ∧ wr.heap[w.heap.size + 1]? = some (.cells (msC ⟨k, v, s, c, t, d, x, (ra, rb), b, p, q'⟩ ⟨QX, QB, QP, QA, qc⟩) 57 (0, 0))) (fun i _ => q.length - (intOf i).toNat)
  case atStart => exact ⟨0, Nat.zero_le _, rfl, rfl, HB.out, HX.out, HY.out⟩
  case round =>
    obtain ⟨k1, hk, rfl, htk, hb, hx, hy⟩ := hrel
    have HTK := Lib.hid htk
    have HB2 := Lib.hid hb
    have HX2 := Lib.hid hx
    have HY2 := Lib.hid hy
    have q11 := rowCell hx 11 (.slice PA q.length pc) rfl
    have r11 := rowCell hy 11 (.slice QA q'.length qc) rfl
    clear htk hb hx hy HB HX HY
    by_cases hlt : k1 < q.length
    · have hlt2 : k1 < q'.length := by have := HNL.out; omega
      have hltI : (k1 : Int) < (q.length : Int) := by omega
      have hltJ : (k1 : Int) < (q'.length : Int) := by omega
      obtain ⟨ad, bv, VA, vc, rfl, hbl, h1, h2, hbv, h3, h4⟩ := HQ1.out k1 hlt
      obtain ⟨ae, cv, VB, vd, rfl, hbe, g1, g2, hcv, g3, g4⟩ := HQ2.out k1 hlt2
      obtain ⟨BA, bc1, rfl, -⟩ := hbv.open
      obtain ⟨CA, cc1, rfl, -⟩ := hcv.open
      have c1 := cellM HB2.out (p := ad.add (k1 * 3)) (by rw [block_add]; exact hbl) h1
      have c2 := cellM HB2.out (p := ⟨(ad.add (k1 * 3)).block, (ad.add (k1 * 3)).off + 1, none⟩) (by rw [block_add]; exact hbl) h2
      have c3 := cellM HB2.out (p := ⟨(ad.add (k1 * 3)).block, (ad.add (k1 * 3)).off + 2, none⟩) (by rw [block_add]; exact hbl) h3
      have d1 := cellM HB2.out (p := ae.add (k1 * 3)) (by rw [block_add]; exact hbe) g1
      have d2 := cellM HB2.out (p := ⟨(ae.add (k1 * 3)).block, (ae.add (k1 * 3)).off + 1, none⟩) (by rw [block_add]; exact hbe) g2
      have d3 := cellM HB2.out (p := ⟨(ae.add (k1 * 3)).block, (ae.add (k1 * 3)).off + 2, none⟩) (by rw [block_add]; exact hbe) g3
      have HCC := Lib.hid (fun (z : Bool) (hz : decide (q[k1] = q'[k1]) = z) W (hW : Below w.heap.size w W) => show Calls Tryz.prog 66 #[.agg #[.int .i64 q[k1].1.1, .slice BA q[k1].1.2.length bc1, .slice VA q[k1].2.length vc], .agg #[.int .i64 q'[k1].1.1, .slice CA q'[k1].1.2.length cc1, .slice VB q'[k1].2.length vd]] W (AskB z W) from by
        rw [← hz]
        exact rCerts_any q[k1] q'[k1] _ _ VA vc VB vd W (hbv.below hW (Nat.le_refl _)) (hcv.below hW (Nat.le_refl _)) (h4.below hW) (g4.below hW))
      have HLT := Lib.hid hlt
      clear h1 h2 h3 h4 g1 g2 g3 g4 hbv hcv
      by_cases hxy : q[k1] = q'[k1]
      · have HC := Lib.hid (HCC.out true (decide_eq_true hxy))
        clear HCC
        have HNX := Lib.hid (HTT.out k1 hlt hlt2 hxy HTK.out)
        clear hxy
        generalize q[k1].1.1 = s1 at *
        generalize q[k1].1.2.length = bn at *
        generalize q[k1].2.length = vn at *
        generalize q'[k1].1.1 = s2 at *
        generalize q'[k1].1.2.length = bn2 at *
        generalize q'[k1].2.length = vn2 at *
        have HS0 := Lib.hid (show SS8 ⟨w.heap.size, 11, none⟩ ⟨w.heap.size + 1, 11, none⟩ (ad.add (k1 * 3)) (ae.add (k1 * 3)) (.slice (some ad) q.length pc) (.slice (some ae) q'.length qc) (.int .i64 s1) (.slice BA bn bc1) (.slice VA vn vc) (.int .i64 s2) (.slice CA bn2 cc1) (.slice VB vn2 vd) wr from ⟨q11, r11, c1, c2, c3, d1, d2, d3⟩)
        have HD := Lib.hid (show Below wr.heap.size wr wr.drew from (Below.refl _ _).drew)
        clear c1 c2 c3 d1 d2 d3
        go_upto_region 8 with fail
        clear q11 r11
        go_region_held3 (SS8 ⟨w.heap.size, 11, none⟩ ⟨w.heap.size + 1, 11, none⟩ (ad.add (k1 * 3)) (ae.add (k1 * 3)) (.slice (some ad) q.length pc) (.slice (some ae) q'.length qc) (.int .i64 s1) (.slice BA bn bc1) (.slice VA vn vc) (.int .i64 s2) (.slice CA bn2 cc1) (.slice VB vn2 vd)) (first | exact HS0.out.below HD.out | exact HS0.out.below HB3.out) (first
          | (go_at_call 66; refine (HC.out _ (bel2M HB2.out HD.out)).mono ?_; rintro e w3 ⟨rfl, hb⟩; have HB3 := Lib.hid (bel2M HD.out hb); clear hb))
        go_wp2
        go_roundw
        case rel => exact ⟨k1 + 1, by have := HLT.out; omega, by go_num, HNX.out, bel2M HB2.out HB3.out, heapB HX2.out HB3.out, heapB HY2.out HB3.out⟩
        case measure => simp [intOf]; have := HLT.out; omega
      · have HC := Lib.hid (HCC.out false (decide_eq_false hxy))
        clear HCC
        have HF := Lib.hid (HNN.out k1 hlt hlt2 hxy)
        clear hxy
        generalize q[k1].1.1 = s1 at *
        generalize q[k1].1.2.length = bn at *
        generalize q[k1].2.length = vn at *
        generalize q'[k1].1.1 = s2 at *
        generalize q'[k1].1.2.length = bn2 at *
        generalize q'[k1].2.length = vn2 at *
        have HS0 := Lib.hid (show SS8 ⟨w.heap.size, 11, none⟩ ⟨w.heap.size + 1, 11, none⟩ (ad.add (k1 * 3)) (ae.add (k1 * 3)) (.slice (some ad) q.length pc) (.slice (some ae) q'.length qc) (.int .i64 s1) (.slice BA bn bc1) (.slice VA vn vc) (.int .i64 s2) (.slice CA bn2 cc1) (.slice VB vn2 vd) wr from ⟨q11, r11, c1, c2, c3, d1, d2, d3⟩)
        have HD := Lib.hid (show Below wr.heap.size wr wr.drew from (Below.refl _ _).drew)
        clear c1 c2 c3 d1 d2 d3
        go_upto_region 8 with fail
        clear q11 r11
        go_region_held3 (SS8 ⟨w.heap.size, 11, none⟩ ⟨w.heap.size + 1, 11, none⟩ (ad.add (k1 * 3)) (ae.add (k1 * 3)) (.slice (some ad) q.length pc) (.slice (some ae) q'.length qc) (.int .i64 s1) (.slice BA bn bc1) (.slice VA vn vc) (.int .i64 s2) (.slice CA bn2 cc1) (.slice VB vn2 vd)) (first | exact HS0.out.below HD.out | exact HS0.out.below HB3.out) (first
          | (go_at_call 66; refine (HC.out _ (bel2M HB2.out HD.out)).mono ?_; rintro e w3 ⟨rfl, hb⟩; have HB3 := Lib.hid (bel2M HD.out hb); clear hb))
        go_wp2
        go_ret
        exact ⟨by rw [HF.out]; rfl, bel2M HB2.out HB3.out⟩
    · obtain rfl : k1 = q.length := by omega
      have hltI : ¬ (q.length : Int) < (q.length : Int) := by omega
      have HF := Lib.hid (HYY.out HTK.out)
      go_wp2
      go_ret
      exact ⟨by rw [HF.out]; rfl, HB2.out⟩
theorem digB_ne {l m : List UInt8} (h : ¬ l = m) : ((strB l).toList == (strB m).toList) = false := by
  simpa [strB] using h
theorem rSameM_any (m n : Msg) (P Q : Plc) (w : World) (hm : MsgK w m P) (hn : MsgK w n Q) : Calls Tryz.prog 28 #[agM m P, agM n Q] w (AskB (decide (m = n)) w) := by
  have key : ∀ z, decide (m = n) = z → Calls Tryz.prog 28 #[agM m P, agM n Q] w (AskB z w) → Calls Tryz.prog 28 #[agM m P, agM n Q] w (AskB (decide (m = n)) w) := fun x h hc => by rw [h]; exact hc
  obtain ⟨hmx, hmb, hmp, hmq⟩ := hm
  obtain ⟨hnx, hnb, hnp, hnq⟩ := hn
  obtain ⟨k, v, s, c, t, d, x, ⟨ra, rb⟩, b, p, q⟩ := m
  obtain ⟨k', v', s', c', t', d', x', ⟨ra', rb'⟩, b', p', q'⟩ := n
  simp only at hmx hmb hmp hmq hnx hnb hnp hnq
  by_cases hne : k = k'
  case neg => exact key false (by simp [hne]) (same_k k v s c t d x ra rb b p q k' v' s' c' t' d' x' ra' rb' b' p' q' P Q w (by simpa using hne))
  subst hne
  by_cases hne : v = v'
  case neg => exact key false (by simp [hne]) (same_v k v s c t d x ra rb b p q v' s' c' t' d' x' ra' rb' b' p' q' P Q w (by simpa using hne))
  subst hne
  by_cases hne : s = s'
  case neg => exact key false (by simp [hne]) (same_s k v s c t d x ra rb b p q s' c' t' d' x' ra' rb' b' p' q' P Q w (by simpa using hne))
  subst hne
  by_cases hne : c = c'
  case neg => exact key false (by simp [hne]) (same_c k v s c t d x ra rb b p q c' t' d' x' ra' rb' b' p' q' P Q w (by simpa using hne))
  subst hne
  by_cases hne : t = t'
  case neg => exact key false (by simp [hne]) (same_t k v s c t d x ra rb b p q t' d' x' ra' rb' b' p' q' P Q w (by simpa using hne))
  subst hne
  by_cases hne : d = d'
  case neg => exact key false (by simp [hne]) (same_d k v s c t d x ra rb b p q d' x' ra' rb' b' p' q' P Q w (digB_ne hne))
  subst hne
  by_cases hne : x = x'
  case neg => exact key false (by simp [hne]) (same_x k v s c t d x ra rb b p q x' ra' rb' b' p' q' P Q w hne hmx hnx)
  subst hne
  by_cases hne : ra = ra'
  case neg => exact key false (by simp [hne]) (same_ra k v s c t d x ra rb b p q ra' rb' b' p' q' P Q w hne hmx hnx)
  subst hne
  by_cases hne : rb = rb'
  case neg => exact key false (by simp [hne]) (same_rb k v s c t d x ra rb b p q rb' b' p' q' P Q w hne hmx hnx)
  subst hne
  by_cases hne : b = b'
  case neg => exact key false (by simp [hne]) (same_b k v s c t d x ra rb b p q b' p' q' P Q w hne hmx hnx hmb hnb)
  subst hne
  by_cases hne : p = p'
  case neg => exact key false (by simp [hne]) (same_p k v s c t d x ra rb b p q p' q' P Q w hne hmx hnx hmb hnb hmp hnp)
  subst hne
  by_cases hne : q.length = q'.length
  case neg => exact key false (by simp; intro h; exact hne (by rw [h])) (same_qn k v s c t d x ra rb b p q q' P Q w (by simp; omega) hmx hnx hmb hnb hmp hnp)
  exact key (decide (q = q')) (by simp) (same_q k v s c t d x ra rb b p q q' P Q w hne hmx hnx hmb hnb hmp hnp hmq hnq)

end Go.Proofs.YtjkbmmhnlhaapaaGreat
