/- sj: HRd0 RefI HRd1 HRd2 HRd3 HRd4 HRf1 HRf2 HRf3 HRg3 HRg4 HRf4 HRfP HRfA HWd HFew HFewE HAlw HRfN HWdP BSame GLaw1 HBnP HOne HOne2 HAwP HAw (made by shake.py). -/
import Derived.Deep.CutRange
import Derived.Deep.QuietTactic
import Derived.BigQuiet
import Derived.Test.YticfnjihjpgneaaGreatsi
namespace Go.Proofs.YticfnjihjpgneaaGreat
open Go.RowKit
set_option linter.unusedVariables false
set_option linter.unusedSimpArgs false
set_option maxRecDepth 20000

/- back -/
/- forth -/



theorem Bq.keepH {w w' : World} {g : Nat} {v : Value} {l : List UInt8} (h : Bq g w v l) (hz : w.heap.size ≤ w'.heap.size) (hk : ∀ (k : Nat) (cs : Array Value) (fr : Nat × Nat), w.heap[k]? = some (Obj.cells cs 5 fr) → w'.heap[k]? = w.heap[k]?) (hlow : ∀ k, k < g → w'.heap[k]? = w.heap[k]?) : Bq g w' v l := by
  rcases h with ⟨h1, h2 | h2⟩
  · exact (Bt.keepG ⟨h1, h2⟩ hz hk).bq
  · obtain ⟨A, c, hv, hc, hm, hn, hx⟩ := h1
    refine ⟨⟨A, c, hv, hc, hm, hn, fun he => ?_⟩, Or.inr h2⟩
    obtain ⟨ad, ha, hb, hr⟩ := hx he
    have hown : v.ownBlock = some ad.block := by rw [hv, ha]; rfl
    have hl : l ≠ [] := fun e => he (by rw [e]; rfl)
    have hblk := hlow _ (h2 hl _ hown)
    refine ⟨ad, ha, Nat.lt_of_lt_of_le hb hz, fun j u hu => ?_⟩
    have hb2 : (ad.add j).block = ad.block := block_add ad j
    exact (World.cell?_of_block (w := w) (w' := w') (a := ad.add j) (by rw [hb2]; exact hblk)).trans (hr j u hu)
theorem RfG.keepH {w w' : World} {g : Nat} {bs : List UInt8} {i : Nat} {e : Int} (h : RfG w g bs i e) (hz : w.heap.size ≤ w'.heap.size) (hg : w'.heap[g]? = w.heap[g]?) (hk : ∀ (k : Nat) (cs : Array Value) (fr : Nat × Nat), w.heap[k]? = some (Obj.cells cs 5 fr) → w'.heap[k]? = w.heap[k]?) (hlow : ∀ k, k < g → w'.heap[k]? = w.heap[k]?) : RfG w' g bs i e := by
  obtain ⟨bv, hh, hb, h1, h2⟩ := h
  exact ⟨bv, hg.trans hh, hb.keepH hz hk hlow, h1, h2⟩
theorem RfS.keepH {w w' : World} {g : Nat} {rest : List UInt8} {e : Int} (h : RfS w g rest e) (hz : w.heap.size ≤ w'.heap.size) (hg : w'.heap[g]? = w.heap[g]?) (hk : ∀ (k : Nat) (cs : Array Value) (fr : Nat × Nat), w.heap[k]? = some (Obj.cells cs 5 fr) → w'.heap[k]? = w.heap[k]?) (hlow : ∀ k, k < g → w'.heap[k]? = w.heap[k]?) : RfS w' g rest e := by
  obtain ⟨bs, i, h1, h2⟩ := h
  exact ⟨bs, i, h1.keepH hz hg hk hlow, h2⟩
theorem RfS.store {w w' : World} {N g : Nat} {rest : List UInt8} {err : Int} {cs : Array Value} {t : TypeId} {fr : Nat × Nat} (h : RfS w g rest err) (ho : Only N w w') (hlt : g < N) (hN : w.heap[N]? = some (.cells cs t fr)) (ht : 5 ≠ t) : RfS w' g rest err := by
  have hl := h.lt
  refine h.keepH ho.size (ho.block g hl (by intro e; injection e with e; omega)) (fun k cs2 fr2 hk => ho.block k (Array.getElem?_eq_some_iff.1 hk).1 (by intro e; injection e with e; exact other_blockG hk hN ht e)) fun k hk => ho.block k (by omega) (by intro e; injection e with e; omega)
def LsRd {α β : Type} (g : Nat) (t : TypeId) (K : Nat) (cells : β → List Value) (val : β → α) (ok : (Nat → Prop) → World → β → Prop) (x : List α × List UInt8 × Int) (w : World) (e : Ending) (w' : World) : Prop :=
  ∃ (qs : List β) (v : Value), e = .returned v ∧ qs.map val = x.1 ∧ w'.ownsRow w.heap.size t K v qs.length (qs.flatMap cells) ∧ (∀ q ∈ qs, ok (fun b => w.heap.size ≤ b ∧ v.ownBlock ≠ some b) w' q) ∧ RfS w' g x.2.1 x.2.2 ∧ Only g w w'
structure GsRd {α β : Type} (G : Rdg α) (w : World) (g : Nat) (t : TypeId) (K : Nat) (cells : β → List Value) (val : β → α) (ok : (Nat → Prop) → World → β → Prop) (c : Nat) (L : List α × List UInt8 × Int) (wr : World) (k : Nat) (qs : List β) (rk : List UInt8) (ek : Int) (row : Value) : Prop where
  cnt : qs.length = k
  pre : (qs.map val ++ (timesG G (c - k) rk ek).1, (timesG G (c - k) rk ek).2) = L
  len : Far rk
  rd : RfS wr g rk ek
  own : wr.ownsRow w.heap.size t K row k (qs.flatMap cells)
  els : ∀ q ∈ qs, ok (fun b => w.heap.size ≤ b ∧ row.ownBlock ≠ some b) wr q
  on : Only g w wr
theorem GsRd.next {α β : Type} {G : Rdg α} {w : World} {g : Nat} {t : TypeId} {K : Nat} {cells : β → List Value} {val : β → α} {ok : (Nat → Prop) → World → β → Prop} {c : Nat} {L : List α × List UInt8 × Int} {wr w2 w3 w4 : World} {k : Nat} {qs : List β} {rk r1 : List UInt8} {ek e1 : Int} {row row' : Value} {q : β}
    (hmv : ∀ (S T : Nat → Prop) (w w' : World) (q : β), KeptC S T w w' → w.heap.size ≤ w'.heap.size → ok S w q → ok T w' q) (ht : 5 ≠ t) (hgw : g < w.heap.size)
    (h : GsRd G w g t K cells val ok c L wr k qs rk ek row) (hk : k < c) (hx : G rk ek = (val q, r1, e1)) (hlen : r1.length ≤ rk.length)
    (hel : ok (fun b => wr.heap.size ≤ b) w2 q) (hrd : RfS w2 g r1 e1) (hon : Only g wr w2) (hal : Below w2.heap.size w2 w3)
    (hown : w4.ownsRow w.heap.size t K row' (k + 1) (qs.flatMap cells ++ cells q)) (hgr : w3.grownBy w4 row.ownBlock) (hrow : row'.ownBlock = row.ownBlock ∨ row'.ownBlock = some w3.heap.size) :
    GsRd G w g t K cells val ok c L w4 (k + 1) (qs ++ [q]) r1 e1 row' := by
  have hz2 := hon.size
  have hz3 := hal.size
  have hz4 := hgr.size
  have hz0 := h.on.size
  have hrow0 := h.own.lt
  have hkeep : ∀ b, b < w2.heap.size → row.ownBlock ≠ some b → w4.heap[b]? = w2.heap[b]? := fun b h1 h3 => by
    rw [hgr.block b (by omega) (fun e => h3 e.symm)]
    exact hal.block b h1
  have hlow : ∀ b, b < w.heap.size → row.ownBlock ≠ some b := fun b hb e => by have := (hrow0 b e).1; omega
  have hrowT : ∀ (b : Nat) (cs : Array Value) (fr : Nat × Nat), w2.heap[b]? = some (Obj.cells cs 5 fr) → row.ownBlock ≠ some b := fun b cs fr hb e => by
    obtain ⟨cs2, fr2, h4⟩ := own_typed h.own b e
    have h5 := (hon.block b (h.own.lt b e).2 (by intro e2; injection e2 with e2; have := (h.own.lt b e).1; omega)).trans h4
    exact other_blockG hb h5 ht rfl
  refine ⟨by rw [List.length_append, h.cnt]; rfl, ?_, by have := h.len; unfold Far at *; omega, ?_, ?_, ?_, ⟨?_, ?_, ?_, by omega, fun m hm m1 => ?_⟩⟩
  · rw [← h.pre, show c - k = c - (k + 1) + 1 by omega, timesG, hx]
    simp
  · exact hrd.keepH (by omega) (hkeep g (by omega) (hlow g hgw)) (fun b cs fr hb => hkeep b (Array.getElem?_eq_some_iff.1 hb).1 (hrowT b cs fr hb)) fun b hb => hkeep b (by omega) (hlow b (by omega))
  · rw [List.flatMap_append, List.flatMap_cons, List.flatMap_nil, List.append_nil]
    exact hown
  · intro x hxq
    rcases List.mem_append.1 hxq with hxq | hxq
    · refine hmv _ _ _ _ _ (fun b hl hb => ?_) (by omega) (h.els x hxq)
      refine ⟨(hkeep b (by omega) hb.2).trans (hon.block b hl (by intro e; injection e with e; omega)), hb.1, ?_⟩
      rcases hrow with e | e
      · rw [e]; exact hb.2
      · rw [e]; intro e2; injection e2 with e2; omega
    · rw [List.mem_singleton.1 hxq]
      refine hmv _ _ _ _ _ (fun b hl hb => ?_) (by omega) hel
      have hne : row.ownBlock ≠ some b := fun e => by have := (hrow0 b e).2; omega
      refine ⟨hkeep b hl hne, by omega, ?_⟩
      rcases hrow with e | e
      · rw [e]; exact hne
      · rw [e]; intro e2; injection e2 with e2; omega
  · exact hgr.os.trans (hal.os.trans (hon.os.trans h.on.os))
  · exact hgr.tape.trans (hal.tape.trans (hon.tape.trans h.on.tape))
  · exact hgr.output.trans (hal.output.trans (hon.output.trans h.on.output))
  · exact (hkeep m (by omega) (hlow m hm)).trans ((hon.block m (by omega) m1).trans (h.on.block m hm m1))
theorem GsRd.end {α β : Type} {G : Rdg α} {w : World} {g : Nat} {t : TypeId} {K : Nat} {cells : β → List Value} {val : β → α} {ok : (Nat → Prop) → World → β → Prop} {c : Nat} {L : List α × List UInt8 × Int} {wr : World} {qs : List β} {rk : List UInt8} {ek : Int} {row : Value} (h : GsRd G w g t K cells val ok c L wr c qs rk ek row) : LsRd g t K cells val ok L w (.returned row) wr := by
  have hp := h.pre
  rw [Nat.sub_self, timesG, List.append_nil] at hp
  rw [← hp]
  have ho := h.own
  rw [← h.cnt] at ho
  exact ⟨qs, row, rfl, rfl, ho, h.els, h.rd, h.on⟩

structure PtM (B g : Nat) (s : Shp) (m : Msg) (P : Plc) (rest : List UInt8) (e : Int) (w W : World) : Prop where
  box : W.heap[B]? = some (.cells (msC m P) 46 (0, 0))
  has : W.heap[B + 1]? = some (.cells (hasC s) 188 (0, 0))
  res : W.heap[B + 2]? = some (.cells msH 46 (0, 0))
  rd : RfS W g rest e
  on : Only g w W
  far : Far rest
  x : Bs W (.slice P.x.1 m.x.length P.x.2) m.x ∧ New (B + 3) (.slice P.x.1 m.x.length P.x.2)
  b : RowC (fun k => B + 3 ≤ k) W 2 (EnvC (fun k => B + 3 ≤ k)) P.b.1 P.b.2 m.b
  p : RowC (fun k => B + 3 ≤ k) W 2 (EnvC (fun k => B + 3 ≤ k)) P.p.1 P.p.2 m.p
  q : m.q = [] ∧ P.q = (none, 0)
theorem rowC_onlyH {C : Nat → Prop} {g : Nat} {w W : World} {A : Option Addr} {c : Nat} {l : List (Int × List UInt8)} (h : RowC C w 2 (EnvC C) A c l) (ho : Only g w W) (hg : ¬ C g) : RowC C W 2 (EnvC C) A c l :=
  have hk : KeptC C C w W := fun k hl hc => ⟨ho.block k hl (by intro e; injection e with e; exact hg (e ▸ hc)), hc⟩
  h.keep ho.size hk fun p x hl hp hx => hx.keep ho.size hk hl hp
theorem PtM.call {B g : Nat} {s : Shp} {m : Msg} {P : Plc} {rest r' : List UInt8} {e e' : Int} {w W W2 : World} (h : PtM B g s m P rest e w W) (hg : g < B) (hr : RfS W2 g r' e') (ho : Only g W W2) (hf : r'.length ≤ rest.length) : PtM B g s m P r' e' w W2 :=
  ⟨onlyHeap ho h.box (by omega), onlyHeap ho h.has (by omega), onlyHeap ho h.res (by omega), hr, h.on.trans ho, Nat.le_trans hf h.far, ⟨h.x.1.grown ho (fun _ k hk e => by injection e with e; have := h.x.2 k hk; omega), h.x.2⟩, rowC_onlyH h.b ho (by omega), rowC_onlyH h.p ho (by omega), h.q⟩
theorem PtM.put {B g : Nat} {s : Shp} {m m' : Msg} {P P' : Plc} {rest : List UInt8} {e : Int} {w W W2 : World} (h : PtM B g s m P rest e w W) (hg : g < B) (hB : w.heap.size ≤ B) (ho : Only B W W2) (hb : W2.heap[B]? = some (.cells (msC m' P') 46 (0, 0)))
    (hx : Bs W (.slice P'.x.1 m'.x.length P'.x.2) m'.x ∧ New (B + 3) (.slice P'.x.1 m'.x.length P'.x.2)) (hbb : RowC (fun k => B + 3 ≤ k) W 2 (EnvC (fun k => B + 3 ≤ k)) P'.b.1 P'.b.2 m'.b) (hpp : RowC (fun k => B + 3 ≤ k) W 2 (EnvC (fun k => B + 3 ≤ k)) P'.p.1 P'.p.2 m'.p) (hq : m'.q = [] ∧ P'.q = (none, 0)) : PtM B g s m' P' rest e w W2 :=
  ⟨hb, onlyHeap ho h.has (by omega), onlyHeap ho h.res (by omega), h.rd.store ho hg h.box (by decide), onlyNew h.on ho hB, h.far, ⟨hx.1.grown ho (fun _ k hk e => by injection e with e; have := hx.2 k hk; omega), hx.2⟩, rowC_onlyH hbb ho (by omega), rowC_onlyH hpp ho (by omega), hq⟩
theorem PtM.lt {B g : Nat} {s : Shp} {m : Msg} {P : Plc} {rest : List UInt8} {e : Int} {w W : World} (h : PtM B g s m P rest e w W) : B + 2 < W.heap.size := (Array.getElem?_eq_some_iff.1 h.res).1

def SmG {α : Type} (N : Nat) (G : Rdg α) (A : α → Prop) : Prop := ∀ rest e, rest.length ≤ N → A (G rest e).1 ∧ (G rest e).2.1.length ≤ N
theorem SmG.then {α β : Type} {N : Nat} {G : Rdg α} {F : α → Rdg β} {A : α → Prop} {P : β → Prop} (hG : SmG N G A) (h : ∀ a, A a → SmG N (F a) P) : SmG N (thenG G F) P := fun rest e hl =>
  have h1 := hG rest e hl
  h _ h1.1 _ _ h1.2
theorem SmG.ret {α : Type} {N : Nat} {P : α → Prop} {a : α} (h : P a) : SmG N (retG a) P := fun rest e hl => ⟨h, hl⟩















section
variable {K : Kn}
end

def RaK (w : World) (g : Nat) (K : Kn) (S : Nat → Prop) : Prop := ∃ v E, DT w g K.f K.c v E S ∧ pairsT E = K.L
section
variable {w : World} {g : Nat} {K : Kn} {S : Nat → Prop}
theorem RaK.below {w' : World} (h : RaK w g K S) (hb : Below w.heap.size w w') : RaK w' g K S := by
  obtain ⟨v, E, h1, h2⟩ := h
  exact ⟨v, E, h1.below hb, h2⟩
theorem RaK.f (h : RaK w g K S) : 0 ≤ K.f ∧ K.f ≤ 2 := by
  obtain ⟨v, E, h1, h2⟩ := h
  exact ⟨h1.head.2.1, h1.head.2.2.1⟩
theorem rA_primary (h : RaK w g K S) (v : Int) (hv : ok64 v) : Calls Tryz.prog 18 #[.pointer (some ⟨g, 0, none⟩), .int .i64 v] w (Says (.int .i64 (primE K.f v)) w) := by
  obtain ⟨v0, E, h1, -⟩ := h
  exact rPrimary_any h1.head v hv
end

end Go.Proofs.YticfnjihjpgneaaGreat

namespace Go.Proofs.YticfnjihjpgneaaGreat
open Go.RowKit Go.ChangeShapes Go.WideShapes Go.ChangeAt
set_option linter.unusedVariables false
set_option linter.unusedSimpArgs false
set_option maxRecDepth 20000

structure Wd where
  s : Int
  g : Bool
  m : Msg
structure WdP (w : World) (p : Addr) (x : Wd) (P : Plc) : Prop where
  s : w.cell? p = some (.int .i64 x.s)
  g : w.cell? ⟨p.block, p.off + 1, none⟩ = some (.bool x.g)
  c : ∀ j u, (msC x.m P)[j]? = some u → w.cell? ⟨p.block, p.off + 2 + j, none⟩ = some u
  m : MsgK w x.m P
abbrev WdE (w : World) (p : Addr) (x : Wd) : Prop := ∃ P, WdP w p x P
abbrev WdK (w : World) : Option Addr → Nat → List Wd → Prop := RowM w 14 WdE
theorem WdP.below {w w' : World} {p : Addr} {x : Wd} {P : Plc} (h : WdP w p x P) (hb : Below w.heap.size w w') (hl : p.block < w.heap.size) : WdP w' p x P :=
  ⟨cellM hb hl h.s, cellM (p := ⟨p.block, p.off + 1, none⟩) hb hl h.g, fun j u hu => cellM (p := ⟨p.block, p.off + 2 + j, none⟩) hb hl (h.c j u hu), h.m.below hb⟩
theorem WdK.below {w w' : World} {A : Option Addr} {c : Nat} {l : List Wd} (h : WdK w A c l) (hb : Below w.heap.size w w') : WdK w' A c l := RowM.below (fun p x hl ⟨P, h⟩ => ⟨P, h.below hb hl⟩) h hb.size
section
variable {H : Type} {enc : TypeId × Value → H} {W : World} {sp : Nat → Bool} {hd : Bool} {base : Nat} {v : Value} {d : DataW H} {ps : List MemPlace}
end
end Go.Proofs.YticfnjihjpgneaaGreat

namespace Go.Proofs.YticfnjihjpgneaaGreat
open Go.RowKit
set_option linter.unusedVariables false
set_option linter.unusedSimpArgs false
set_option maxRecDepth 20000



def wdS (f c : Int) (L : List (Int × List UInt8)) (x : Wd) : List (Int × List UInt8) := if x.g = true then signT f c x.s (encD x.m) L else L
def wdL (f c : Int) (L : List (Int × List UInt8)) (l : List Wd) : List (Int × List UInt8) := l.foldl (wdS f c) L
structure AllI (N g bm g2 : Nat) (f c : Int) (l : List Wd) (L : List (Int × List UInt8)) (T : Nat → Prop) (w : World) (D k : Nat) (vr : Value) (xs : List (Int × Value)) (T' : Nat → Prop) (wr : World) : Prop where
  bt : Bth wr N g bm g2 f c (wdL f c L (l.take k)) T'
  tn : Turn T bm w wr T'
  hx : Held T' bm wr w.heap.size #[.pointer (some ⟨g, 0, none⟩), .pointer (some ⟨g2, 0, none⟩)] 31
  own : wr.ownsRow D 35 2 vr xs.length (flatE xs)
  off : ∀ kk, vr.ownBlock = some kk → offT T' bm kk
  xl : xs.length = k
  el : ∀ j (hj : j < xs.length) (hj2 : j < l.length), xs[j].1 = l[j].s ∧ HeldV T' bm wr xs[j].2 (encD l[j].m)
  dj : ∀ j (hj : j < xs.length) kk, vr.ownBlock = some kk → xs[j].2.ownBlock ≠ some kk
  lo : ∀ j (hj : j < xs.length) kk, xs[j].2.ownBlock = some kk → w.heap.size ≤ kk
theorem AllI.below {N g bm g2 : Nat} {f c : Int} {l : List Wd} {L : List (Int × List UInt8)} {T T' : Nat → Prop} {w wr w9 : World} {D k : Nat} {vr : Value} {xs : List (Int × Value)}
    (h : AllI N g bm g2 f c l L T w D k vr xs T' wr) (hb : Below wr.heap.size wr w9) : AllI N g bm g2 f c l L T w D k vr xs T' w9 :=
  ⟨h.bt.below hb, h.tn.trans (Turn.below hb), h.hx.below hb, own_belowM h.own hb, h.off, h.xl, fun j hj hj2 => ⟨(h.el j hj hj2).1, (h.el j hj hj2).2.below hb⟩, h.dj, h.lo⟩
def wdC (x : Wd) (P : Plc) : List Value := [.int .i64 x.s, .bool x.g, .int .i64 x.m.k, .int .i64 x.m.v, .int .i64 x.m.s, .int .i64 x.m.c, .int .i64 x.m.t, .string (strB x.m.d), .slice P.x.1 x.m.x.length P.x.2, .int .i64 x.m.r.1, .int .i64 x.m.r.2, .slice P.b.1 x.m.b.length P.b.2, .slice P.p.1 x.m.p.length P.p.2, .slice P.q.1 x.m.q.length P.q.2]
theorem WdP.cells {w : World} {p : Addr} {x : Wd} {P : Plc} (h : WdP w p x P) : ∀ j v, (wdC x P)[j]? = some v → w.cell? (p.add j) = some v := by
  intro j v hv
  match j with
  | 0 =>
    rw [Addr.add_zero']
    injection hv with hv
    rw [← hv]
    exact h.s
  | 1 =>
    rw [Addr.add_succ']
    injection hv with hv
    rw [← hv]
    exact h.g
  | j + 2 =>
    have h4 : (msC x.m P).toList[j]? = some v := hv
    have h3 := h.c j v (by simpa using h4)
    have h6 : p.add (j + 2) = ⟨p.block, p.off + (j + 2), none⟩ := Addr.add_succ' p (j + 1)
    rw [h6]
    rw [show p.off + (j + 2) = p.off + 2 + j by omega]
    exact h3



theorem Bth.ra {w : World} {N g bm g2 : Nat} {f c : Int} {L : List (Int × List UInt8)} {T : Nat → Prop} (h : Bth w N g bm g2 f c L T) : RaK w g2 ⟨f, c, L⟩ T := by
  obtain ⟨v, E, h1, h2⟩ := h.dt
  exact ⟨v, E, h1, h2⟩



end Go.Proofs.YticfnjihjpgneaaGreat

namespace Go.Proofs.YticfnjihjpgneaaGreat
open Go.RowKit Go.ChangeShapes Go.WideShapes Go.ChangeAt
set_option linter.unusedVariables false
set_option linter.unusedSimpArgs false
set_option maxRecDepth 20000

abbrev SA4 (p1 p2 p3 p4 : Addr) (v1 v2 v3 v4 : Value) : World → Prop := fun W => W.cell? p1 = some v1 ∧ W.cell? p2 = some v2 ∧ W.cell? p3 = some v3 ∧ W.cell? p4 = some v4
theorem SA4.below {p1 p2 p3 p4 : Addr} {v1 v2 v3 v4 : Value} {W W' : World} (h : SA4 p1 p2 p3 p4 v1 v2 v3 v4 W) (hb : Below W.heap.size W W') : SA4 p1 p2 p3 p4 v1 v2 v3 v4 W' := ⟨cellB h.1 hb, cellB h.2.1 hb, cellB h.2.2.1 hb, cellB h.2.2.2 hb⟩
end Go.Proofs.YticfnjihjpgneaaGreat

namespace Go.Proofs.YticfnjihjpgneaaGreat
open Go.RowKit
set_option linter.unusedVariables false
set_option linter.unusedSimpArgs false
set_option maxRecDepth 20000

theorem envW_inj {e f : Int × List UInt8} (he : in64B e.1) (hf : in64B f.1) (h : envW e = envW f) : e = f := by
  have hl := congrArg List.length h
  rw [envW_length, envW_length] at hl
  unfold envW at h
  obtain ⟨h1, h2⟩ := List.append_inj h (by rw [i8B_length, i8B_length])
  unfold partB at h2
  obtain ⟨-, h3⟩ := List.append_inj h2 (by rw [be_length, be_length])
  exact Prod.ext (i8B_inj he hf h1) h3
theorem map_injG {α β : Type} {P : α → Prop} {f : α → β} (hf : ∀ a b, P a → P b → f a = f b → a = b) : ∀ (l m : List α), (∀ a ∈ l, P a) → (∀ a ∈ m, P a) → l.map f = m.map f → l = m
  | [], [], _, _, _ => rfl
  | [], b :: m, _, _, h => by simp at h
  | a :: l, [], _, _, h => by simp at h
  | a :: l, b :: m, h1, h2, h => by
    rw [List.map_cons, List.map_cons] at h
    injection h with h3 h4
    rw [hf a b (h1 a (by simp)) (h2 b (by simp)) h3, map_injG hf l m (fun x hx => h1 x (by simp [hx])) (fun x hx => h2 x (by simp [hx])) h4]

def mdB (v s : Int) (es : List (Int × List UInt8)) : Msg := ⟨2, v, s, 0, 0, batB es, [], (0, 0), es, [], []⟩
structure FewE (es : List (Int × List UInt8)) : Prop where
  n : es.length ≤ 4
  e : ∀ e ∈ es, in64B e.1 ∧ e.2.length ≤ 45440
theorem parts_le (k : Nat) : ∀ l : List (List UInt8), (∀ x ∈ l, x.length ≤ k) → (partsB l).length ≤ (4 + k) * l.length
  | [], _ => by simp [partsB]
  | x :: l, h => by
    have h1 := h x List.mem_cons_self
    have h2 := parts_le k l fun y hy => h y (List.mem_cons_of_mem _ hy)
    have h3 : (partsB (x :: l)).length = (partB x).length + (partsB l).length := by simp [partsB]
    rw [h3, partB_length, List.length_cons, Nat.mul_add]
    omega
theorem FewE.bat {es : List (Int × List UInt8)} (h : FewE es) : (batB es).length ≤ 181829 := by
  unfold batB
  rw [encT_length]
  have h1 := parts_le 45452 (es.map envW) fun x hx => by
    obtain ⟨e, he, rfl⟩ := List.mem_map.1 hx
    rw [envW_length]
    have := (h.e e he).2
    omega
  rw [List.length_map] at h1
  have := h.n
  have h2 : (4 + 45452) * es.length ≤ 45456 * 4 := by omega
  omega
theorem FewE.big {es : List (Int × List UInt8)} (h : FewE es) : BigE es := ⟨by have := h.n; omega, fun e he => by have := (h.e e he).2; omega⟩
theorem FewE.sm {es : List (Int × List UInt8)} (h : FewE es) (v s : Int) : SmD (mdB v s es) :=
  ⟨by show (batB es).length ≤ _; have := h.bat; omega, by show (0 : Nat) ≤ _; omega, ⟨by show es.length ≤ _; have := h.n; omega, fun e he => by have := (h.e e he).2; omega⟩, ⟨by show (0 : Nat) ≤ _; omega, fun e he => by cases he⟩, rfl⟩
theorem FewE.len {es : List (Int × List UInt8)} (h : FewE es) (v s : Int) : (encD (mdB v s es)).length ≤ 1000000 := by
  refine Nat.le_trans encD_le ?_
  have key := putM_most (m := mdB v s es) 4 45440 0 0 ⟨h.n, fun e he => (h.e e he).2⟩ ⟨Nat.le_refl _, fun e he => by cases he⟩ rfl
  have h1 : (mdB v s es).d.length ≤ 181829 := h.bat
  have h2 : (mdB v s es).x.length = 0 := rfl
  omega
theorem FewE.ok {es : List (Int × List UInt8)} (h : FewE es) {v s : Int} (hv : in64B v) (hs : in64B s) : OkM (mdB v s es) :=
  ⟨(show in64B 2 from ⟨by decide, by decide⟩), hv, hs, in64_0, in64_0, ⟨in64_0, in64_0⟩, (fun e he => (h.e e he).1), (fun e he => by cases he), (fun e he => by cases he)⟩
theorem FewE.pre {es : List (Int × List UInt8)} (h : FewE es) {K : Kn} {p v s : Int} (hv : in64B v) (hs : in64B s) (h0 : (preA K (p, encD (mdB v s es))).2 = 0) : (preA K (p, encD (mdB v s es))).1 = mdB v s es := by
  obtain ⟨-, h1, -, h2, -⟩ := pre_yes h0
  rw [h2]
  exact (dec_encD (h.ok hv hs) (h.sm v s) h1).1
theorem FewE.inj {l m : List (Int × List UInt8)} (hl : FewE l) (hm : FewE m) (h : batB l = batB m) : l = m := by
  obtain ⟨a1, a2, -⟩ := big_le hl.big
  obtain ⟨b1, b2, -⟩ := big_le hm.big
  exact map_injG (P := fun e => in64B e.1) (fun a b ha hb => envW_inj ha hb) l m (fun e he => (hl.e e he).1) (fun e he => (hm.e e he).1) (encT_inj (by omega) (fun x hx => by have := a2 x hx; omega) (by omega) (fun x hx => by have := b2 x hx; omega) h).2
theorem FewE.eq {l m : List (Int × List UInt8)} (hl : FewE l) (hm : FewE m) : ((strB (batB l)).toList == (strB (batB m)).toList) = decide (l = m) := by
  rw [strB_list, strB_list]
  by_cases h : l = m
  · subst h
    simp
  · have : batB l ≠ batB m := fun hb => h (hl.inj hm hb)
    rw [decide_eq_false h]
    simpa using this
def RowE (T : Nat → Prop) (bm B0 B : Nat) (W : World) (A : Option Addr) (c : Nat) (l : List (Int × List UInt8)) : Prop := RowC (fun k => offT T bm k ∧ B0 ≤ k ∧ k < B) W 2 (EnvC (fun k => offT T bm k ∧ B0 ≤ k ∧ k < B)) A c l
theorem rowE_keep {C C' : Nat → Prop} {w w' : World} {A : Option Addr} {c : Nat} {l : List (Int × List UInt8)} (h : RowC C w 2 (EnvC C) A c l) (hz : w.heap.size ≤ w'.heap.size) (hk : KeptC C C' w w') : RowC C' w' 2 (EnvC C') A c l :=
  h.keep hz hk fun p x hl hp hR => hR.keep hz hk hl hp
section
variable {T T' : Nat → Prop} {bm B0 B : Nat} {W W' : World} {A : Option Addr} {c : Nat} {l : List (Int × List UInt8)}
theorem RowE.of (h : RowC (fun k => offT T bm k ∧ B0 ≤ k) W 2 (EnvC (fun k => offT T bm k ∧ B0 ≤ k)) A c l) : RowE T bm B0 W.heap.size W A c l := rowE_keep h (Nat.le_refl _) fun k hk hc => ⟨rfl, hc.1, hc.2, hk⟩
theorem RowE.turn (h : RowE T bm B0 B W A c l) (ht : Turn T bm W W' T') : RowE T' bm B0 B W' A c l := rowE_keep h ht.off.size fun k hk hc => ⟨(ht.keep k hk hc.1).1, (ht.keep k hk hc.1).2, hc.2⟩
theorem RowE.below (h : RowE T bm B0 B W A c l) (hb : Below W.heap.size W W') : RowE T bm B0 B W' A c l := rowE_keep h hb.size fun k hk hc => ⟨hb.block k hk, hc⟩
theorem RowE.only {g : Nat} (h : RowE T bm B0 B W A c l) (ho : Only g W W') (hg : g < B0 ∨ B ≤ g) : RowE T bm B0 B W' A c l := rowE_keep h ho.size fun k hk hc => ⟨ho.block k hk (by intro e; injection e with e; have := hc.2; omega), hc⟩
theorem RowE.k (h : RowE T bm B0 B W A c l) : EnvK W A c l := h.1.to fun _ _ => EnvC.p
end
def MsgR (T : Nat → Prop) (bm B0 B9 : Nat) (W : World) (m : Msg) (P : Plc) : Prop := ∃ w2 : World, w2.heap.size = B9 ∧ KpB B0 w2 W ∧ (∀ W9, KpB B0 w2 W9 → MsgK W9 m P) ∧ ∀ k, B0 ≤ k → k < B9 → offT T bm k
section
variable {T T' : Nat → Prop} {bm B0 B9 : Nat} {W W' : World} {m : Msg} {P : Plc}
theorem MsgR.k (h : MsgR T bm B0 B9 W m P) : MsgK W m P := by
  obtain ⟨w2, -, h1, h2, -⟩ := h
  exact h2 _ h1
theorem MsgR.turn (h : MsgR T bm B0 B9 W m P) (ht : Turn T bm W W' T') : MsgR T' bm B0 B9 W' m P := by
  obtain ⟨w2, rfl, h1, h2, h3⟩ := h
  exact ⟨w2, rfl, ⟨Nat.le_trans h1.1 ht.off.size, fun k a b => (ht.off.block k (Nat.lt_of_lt_of_le b h1.1) (h3 k a b)).trans (h1.2 k a b)⟩, h2, fun k a b => (ht.keep k (Nat.lt_of_lt_of_le b h1.1) (h3 k a b)).2⟩
theorem MsgR.only {g : Nat} (h : MsgR T bm B0 B9 W m P) (ho : Only g W W') (hg : g < B0 ∨ B9 ≤ g) : MsgR T bm B0 B9 W' m P := by
  obtain ⟨w2, rfl, h1, h2, h3⟩ := h
  exact ⟨w2, rfl, ⟨Nat.le_trans h1.1 ho.size, fun k a b => (ho.block k (Nat.lt_of_lt_of_le b h1.1) (by intro e; injection e with e; omega)).trans (h1.2 k a b)⟩, h2, h3⟩
theorem MsgR.of {N g g2 : Nat} {f c : Int} {L : List (Int × List UInt8)} {w8 : World} (h : Bth W N g bm g2 f c L T) (hk : ∀ W9, KpB W.heap.size w8 W9 → MsgK W9 m P) : MsgR T bm W.heap.size w8.heap.size w8 m P := ⟨w8, rfl, kpb_refl _ _, hk, fun k a _ => h.fresh a⟩
end
theorem prim64 {f c v : Int} (hf : 0 ≤ f ∧ f ≤ 2 ∧ 0 ≤ c ∧ c ≤ 8) (hv : 0 ≤ v ∧ v < 1073741824) : ok64 (primE f v) := by
  have h := mdP_ok (p := -1) (by unfold ok64; omega) hv hf
  unfold mdP at h
  rwa [if_pos (by decide)] at h

theorem own_mono2 {w : World} {B B' n : Nat} {e : TypeId} {v : Value} {xs : List Value} (h : w.ownsRow B' e 2 v n xs) (hB : B ≤ B') : w.ownsRow B e 2 v n xs := by
  obtain ⟨h1, h2⟩ := h
  refine ⟨h1, ?_⟩
  rcases h2 with h2 | ⟨b, c, cur, h3, h4, h5⟩
  · exact .inl h2
  · exact .inr ⟨b, c, cur, h3, Nat.le_trans hB h4, h5⟩
structure HeldW (T : Nat → Prop) (bm B0 B9 : Nat) (W : World) (v : Value) (l : List UInt8) : Prop where
  h : HeldV T bm W v l
  in_ : ∀ k, v.ownBlock = some k → B0 ≤ k ∧ k < B9
structure OwnR (T : Nat → Prop) (bm B0 B9 : Nat) (W : World) (v : Value) (xs : List (Int × Value)) (l : List (Int × List UInt8)) : Prop where
  own : W.ownsRow B0 35 2 v xs.length (flatE xs)
  off : ∀ k, v.ownBlock = some k → offT T bm k ∧ k < B9
  xl : xs.length = l.length
  el : ∀ j (hj : j < xs.length) (hj2 : j < l.length), xs[j].1 = l[j].1 ∧ HeldW T bm B0 B9 W xs[j].2 l[j].2
section
variable {T T' : Nat → Prop} {bm B0 B9 : Nat} {W W' : World} {v : Value} {l : List UInt8} {xs : List (Int × Value)} {es : List (Int × List UInt8)}
theorem HeldW.turn (h : HeldW T bm B0 B9 W v l) (ht : Turn T bm W W' T') : HeldW T' bm B0 B9 W' v l := ⟨h.h.turn ht, h.in_⟩
theorem HeldW.below (h : HeldW T bm B0 B9 W v l) (hb : Below W.heap.size W W') : HeldW T bm B0 B9 W' v l := ⟨h.h.below hb, h.in_⟩
theorem HeldW.only {g : Nat} (h : HeldW T bm B0 B9 W v l) (ho : Only g W W') (hg : g < B0 ∨ B9 ≤ g) : HeldW T bm B0 B9 W' v l := ⟨h.h.only ho fun k hk => by have := h.in_ k hk; omega, h.in_⟩
theorem OwnR.turn (h : OwnR T bm B0 B9 W v xs es) (ht : Turn T bm W W' T') : OwnR T' bm B0 B9 W' v xs es :=
  ⟨own_keep h.own fun k hk => ht.off.block k (h.own.lt k hk).2 (h.off k hk).1, fun k hk => ⟨(ht.keep k (h.own.lt k hk).2 (h.off k hk).1).2, (h.off k hk).2⟩, h.xl, fun j hj hj2 => ⟨(h.el j hj hj2).1, (h.el j hj hj2).2.turn ht⟩⟩
theorem OwnR.below (h : OwnR T bm B0 B9 W v xs es) (hb : Below W.heap.size W W') : OwnR T bm B0 B9 W' v xs es :=
  ⟨own_belowM h.own hb, h.off, h.xl, fun j hj hj2 => ⟨(h.el j hj hj2).1, (h.el j hj hj2).2.below hb⟩⟩
theorem OwnR.only {g : Nat} (h : OwnR T bm B0 B9 W v xs es) (ho : Only g W W') (hg : g < B0 ∨ B9 ≤ g) : OwnR T bm B0 B9 W' v xs es :=
  ⟨own_keep h.own fun k hk => ho.block k (h.own.lt k hk).2 (by intro e; injection e with e; have h1 := (h.own.lt k hk).1; have h2 := (h.off k hk).2; omega), h.off, h.xl, fun j hj hj2 => ⟨(h.el j hj hj2).1, (h.el j hj hj2).2.only ho hg⟩⟩
theorem OwnR.k (h : OwnR T bm B0 B9 W v xs es) : ∃ A c, v = .slice A es.length c ∧ EnvK W A c es := by
  obtain ⟨A, c, e, hr⟩ := rowC_es (C := fun _ => True) (Es.of_own h.own) h.xl (fun j hj hj2 => ⟨(h.el j hj hj2).1, (h.el j hj hj2).2.h.bs, fun _ _ => trivial⟩) fun _ _ => trivial
  exact ⟨A, c, e, hr.1.to fun _ _ => EnvC.p⟩
theorem made_new {N g g2 : Nat} {f c v s p : Int} {vs : List Vt} {L : List (Int × List UInt8)} {w w' : World} {e : Ending} (h : MadeP N g bm g2 f c v s p vs L T w e w') :
    ∃ bv row xs T', e = .returned (.agg #[.int .i64 (mdP f p v), bv, row]) ∧ HeldW T' bm w.heap.size w'.heap.size w' bv (encD (mdPre v s)) ∧ OwnR T' bm w.heap.size w'.heap.size w' row xs (vs.map (mdV v s)) ∧ Bth w' N g bm g2 f c (mdL f c v s p L vs) T' ∧ Turn T bm w w' T' := by
  obtain ⟨bv, A, c', T', rfl, h1, h2, h3, h4, D, xs, hD, h5, h6, h7, h8, h9, h10⟩ := h
  refine ⟨bv, _, xs, T', rfl, ⟨h1, fun k hk => ⟨h8 k hk, (h1.own k hk).1⟩⟩, ⟨own_mono2 h5 hD, fun k hk => ⟨h10 k hk, (h5.lt k hk).2⟩, by rw [List.length_map]; exact h6, fun j hj hj2 => ?_⟩, h3, h4⟩
  rw [List.length_map] at hj2
  rw [List.getElem_map]
  obtain ⟨a1, a2⟩ := h7 j hj hj2
  exact ⟨a1, a2, fun k hk => ⟨h9 j hj k hk, (a2.own k hk).1⟩⟩
end

theorem bs_put {W : World} {v : Value} {l : List UInt8} (h : Bs W v l) {a : Addr} {u u' : Value} (ha : W.cell? a = some u) (hu : ∀ n, u ≠ .int .u8 n) : Bs (W.setCell a u') v l := by
  obtain ⟨A, c, hv, hc, hm, hn, hx⟩ := h
  refine ⟨A, c, hv, hc, hm, hn, fun hne => ?_⟩
  obtain ⟨ad, e1, e2, e3⟩ := hx hne
  refine ⟨ad, e1, by simpa [World.setCell] using e2, fun j x hj => ?_⟩
  have h1 := e3 j x hj
  have hna : a ≠ ad.add j := fun e => by
    subst e
    rw [ha] at h1
    injection h1 with h1
    obtain ⟨y, -, hy⟩ := List.mem_map.1 (List.mem_of_getElem? hj)
    exact hu _ (h1.trans hy.symm)
  rw [World.cell?_setCell_other _ _ _ _ hna]
  exact h1
theorem heldV_put {T : Nat → Prop} {bm : Nat} {W : World} {v : Value} {l : List UInt8} (h : HeldV T bm W v l) {a : Addr} {u u' : Value} (ha : W.cell? a = some u) (hu : ∀ n, u ≠ .int .u8 n) : HeldV T bm (W.setCell a u') v l :=
  ⟨bs_put h.bs ha hu, fun k hk => ⟨by simpa [World.setCell] using (h.own k hk).1, (h.own k hk).2⟩⟩
theorem flatE_set (xs : List (Int × Value)) (j : Nat) (hj : j < xs.length) (p : Int × Value) : ((flatE xs).set (j * 2) (.int .i64 p.1)).set (j * 2 + 1) p.2 = flatE (xs.set j p) := by
  induction xs generalizing j with
  | nil => exact absurd hj (Nat.not_lt_zero _)
  | cons q r ih =>
    cases j with
    | zero => simp [flatE_cons]
    | succ j =>
      have := ih j (by simpa using hj)
      rw [List.set_cons_succ, flatE_cons, flatE_cons, ← this, show (j + 1) * 2 = (j * 2 + 1) + 1 by omega, List.set_cons_succ, List.set_cons_succ, List.set_cons_succ, show j * 2 + 2 = (j * 2 + 1) + 1 from rfl, List.set_cons_succ]
section
variable {T T' : Nat → Prop} {bm B0 B9 : Nat} {W W' : World} {v : Value} {l : List UInt8} {xs : List (Int × Value)} {es : List (Int × List UInt8)}
theorem HeldW.to (h : HeldW T bm B0 B9 W v l) {B C : Nat} (hb : B ≤ B0) (hc : B9 ≤ C) : HeldW T bm B C W v l := ⟨h.h, fun k hk => by have := h.in_ k hk; omega⟩
theorem OwnR.to (h : OwnR T bm B0 B9 W v xs es) {C : Nat} (hc : B9 ≤ C) : OwnR T bm B0 C W v xs es :=
  ⟨h.own, fun k hk => ⟨(h.off k hk).1, by have := (h.off k hk).2; omega⟩, h.xl, fun j hj hj2 => ⟨(h.el j hj hj2).1, (h.el j hj hj2).2.to (Nat.le_refl _) hc⟩⟩
theorem OwnR.at_ (h : OwnR T bm B0 B9 W v xs es) (hn : 0 < xs.length) : ∃ gb c, v = .slice (some ⟨gb, 0, none⟩) xs.length c ∧ B0 ≤ gb ∧ gb < W.heap.size ∧ gb < B9 ∧ offT T bm gb := by
  rcases h.own.2 with ⟨-, h0⟩ | ⟨gb, c, cur, rfl, hB, hh, -⟩
  · omega
  · exact ⟨gb, c, rfl, hB, (Array.getElem?_eq_some_iff.1 hh).1, (h.off gb rfl).2, (h.off gb rfl).1⟩
theorem OwnR.cells {gb c : Nat} (h : OwnR T bm B0 B9 W (.slice (some ⟨gb, 0, none⟩) xs.length c) xs es) (j : Nat) (hj : j < xs.length) :
    W.cell? ⟨gb, j * 2, none⟩ = some (.int .i64 xs[j].1) ∧ W.cell? ⟨gb, j * 2 + 1, none⟩ = some xs[j].2 := by
  obtain ⟨h1, h2⟩ := flatE_get xs j hj
  have hl := flatE_length xs
  exact ⟨(h.own.cellAt (j * 2) (by omega)).trans h1, (h.own.cellAt (j * 2 + 1) (by omega)).trans h2⟩
theorem bs_not {W : World} {v : Value} {l : List UInt8} (h : Bs W v l) : ∀ n, v ≠ .int .u8 n := by
  obtain ⟨A, c, hv, -⟩ := h
  intro n e
  rw [hv] at e
  cases e
theorem OwnR.put {gb c : Nat} (h : OwnR T bm B0 B9 W (.slice (some ⟨gb, 0, none⟩) xs.length c) xs es) (j : Nat) (hj : j < xs.length) {s : Int} {v5 : Value} {y : List UInt8} (hv : HeldW T bm B0 B9 W v5 y) :
    OwnR T bm B0 B9 ((W.setCell ⟨gb, j * 2, none⟩ (.int .i64 s)).setCell ⟨gb, j * 2 + 1, none⟩ v5) (.slice (some ⟨gb, 0, none⟩) xs.length c) (xs.set j (s, v5)) (es.set j (s, y)) ∧
      Only gb W ((W.setCell ⟨gb, j * 2, none⟩ (.int .i64 s)).setCell ⟨gb, j * 2 + 1, none⟩ v5) := by
  have hxl := h.xl
  obtain ⟨c1, c2⟩ := h.cells j hj
  have c3 : (W.setCell ⟨gb, j * 2, none⟩ (.int .i64 s)).cell? ⟨gb, j * 2 + 1, none⟩ = some xs[j].2 := (World.cell?_setCell_other _ _ _ _ (by intro e; injection e with e1 e2; omega)).trans c2
  have hn2 := bs_not (h.el j hj (by omega)).2.h.bs
  have keep : ∀ {v : Value} {l : List UInt8}, HeldW T bm B0 B9 W v l → HeldW T bm B0 B9 ((W.setCell ⟨gb, j * 2, none⟩ (.int .i64 s)).setCell ⟨gb, j * 2 + 1, none⟩ v5) v l :=
    fun hv => ⟨heldV_put (heldV_put hv.h c1 (fun n e => by injection e with e1 e2; cases e1)) c3 hn2, hv.in_⟩
  have h5 := ((h.own.stored (j * 2) (.int .i64 s)).1.stored (j * 2 + 1) v5).1
  rw [flatE_set xs j hj (s, v5)] at h5
  refine ⟨⟨by rw [List.length_set]; exact h5, h.off, by rw [List.length_set, List.length_set]; exact hxl, fun i hi hi2 => ?_⟩, ((Only.refl _ _).set _ _).set _ _⟩
  rw [List.length_set] at hi hi2
  rw [List.getElem_set, List.getElem_set]
  by_cases hij : j = i
  · subst hij
    rw [if_pos rfl, if_pos rfl]
    exact ⟨rfl, keep hv⟩
  · rw [if_neg hij, if_neg hij]
    exact ⟨(h.el i hi hi2).1, keep (h.el i hi hi2).2⟩
end
structure OneF (w : World) (N g bm g2 wb xm bk bl K0 K9 V0 V9 : Nat) (f c : Int) (x1 cc cd ck cl cm : Array Value) (vk : Value) (yk : List UInt8) (rk : Value) (xs : List (Int × Value)) (ek : List (Int × List UInt8)) (vl : Value) (yl : List UInt8) (n : Nat) (T : Nat → Prop) (wr : World) : Prop where
  bt : ∃ L, Bth wr N g bm g2 f c L T ∧ L.length ≤ n
  x : Held T bm wr wb x1 31
  c : Held T bm wr (w.heap.size + 1) cc 26
  d : Held T bm wr (w.heap.size + 2) cd 26
  k : Held T bm wr bk ck 38
  l : Held T bm wr bl cl 38
  m : Held T bm wr xm cm 46
  hvk : HeldW T bm K0 K9 wr vk yk
  hrk : OwnR T bm K0 K9 wr rk xs ek
  hvl : HeldW T bm V0 V9 wr vl yl
  low : Below w.heap.size w wr
  top : w.heap.size ≤ N
section
variable {w : World} {N g bm g2 wb xm bk bl K0 K9 V0 V9 : Nat} {f c : Int} {x1 cc cd ck cl cm : Array Value} {vk : Value} {yk : List UInt8} {rk : Value} {xs : List (Int × Value)} {ek : List (Int × List UInt8)} {vl : Value} {yl : List UInt8} {n : Nat} {T : Nat → Prop} {wr : World}
theorem OneF.turn (h : OneF w N g bm g2 wb xm bk bl K0 K9 V0 V9 f c x1 cc cd ck cl cm vk yk rk xs ek vl yl n T wr) {wr' : World} {T' : Nat → Prop} {L' : List (Int × List UInt8)} {n' : Nat} (ht : Turn T bm wr wr' T') (hb : Bth wr' N g bm g2 f c L' T') (hl : L'.length ≤ n') :
    OneF w N g bm g2 wb xm bk bl K0 K9 V0 V9 f c x1 cc cd ck cl cm vk yk rk xs ek vl yl n' T' wr' := by
  obtain ⟨L, h1, -⟩ := h.bt
  exact ⟨⟨L', hb, hl⟩, h.x.turn ht, h.c.turn ht, h.d.turn ht, h.k.turn ht, h.l.turn ht, h.m.turn ht, h.hvk.turn ht, h.hrk.turn ht, h.hvl.turn ht, h.low.trans ((ht.lowB h1).mono h.top), h.top⟩
theorem OneF.below (h : OneF w N g bm g2 wb xm bk bl K0 K9 V0 V9 f c x1 cc cd ck cl cm vk yk rk xs ek vl yl n T wr) {wr' : World} (hb : Below wr.heap.size wr wr') :
    OneF w N g bm g2 wb xm bk bl K0 K9 V0 V9 f c x1 cc cd ck cl cm vk yk rk xs ek vl yl n T wr' := by
  obtain ⟨L, h1, h2⟩ := h.bt
  exact h.turn (Turn.below hb) (h1.below hb) h2
theorem OneF.only (h : OneF w N g bm g2 wb xm bk bl K0 K9 V0 V9 f c x1 cc cd ck cl cm vk yk rk xs ek vl yl n T wr) {wr' : World} {gb : Nat} (ho : Only gb wr wr') (hof : offT T bm gb)
    (hn : gb ≠ g ∧ gb ≠ wb ∧ gb ≠ w.heap.size + 1 ∧ gb ≠ w.heap.size + 2 ∧ gb ≠ bk ∧ gb ≠ bl ∧ gb ≠ xm ∧ (gb < K0 ∨ K9 ≤ gb) ∧ (gb < V0 ∨ V9 ≤ gb) ∧ w.heap.size ≤ gb) :
    OneF w N g bm g2 wb xm bk bl K0 K9 V0 V9 f c x1 cc cd ck cl cm vk yk rk xs ek vl yl n T wr' := by
  obtain ⟨L, h1, h2⟩ := h.bt
  obtain ⟨n1, n2, n3, n4, n5, n6, n7, n8, n9, n10⟩ := hn
  exact ⟨⟨L, h1.only ho (fun h => hof (.inl h)) n1 (fun h => hof (.inr h)), h2⟩, h.x.only ho n2.symm, h.c.only ho n3.symm, h.d.only ho n4.symm, h.k.only ho n5.symm, h.l.only ho n6.symm, h.m.only ho n7.symm, h.hvk.only ho n8, h.hrk.only ho n8, h.hvl.only ho n9, onlyBelow h.low ho n10 (Nat.le_refl _), h.top⟩
end
def RowF (bm L0 : Nat) (rl : Value) (ss : List Int) (n : Nat) (T : Nat → Prop) (wr : World) : Prop :=
  ∃ ys es, OwnR T bm L0 wr.heap.size wr rl ys es ∧ es.map (·.1) = ss ∧ OkEs es ∧ ys.length = n
theorem RowF.turn {bm L0 n : Nat} {rl : Value} {ss : List Int} {T T' : Nat → Prop} {wr wr' : World} (h : RowF bm L0 rl ss n T wr) (ht : Turn T bm wr wr' T') : RowF bm L0 rl ss n T' wr' := by
  obtain ⟨ys, es, h1, h2, h3, h4⟩ := h
  exact ⟨ys, es, (h1.turn ht).to ht.off.size, h2, h3, h4⟩
theorem RowF.k {bm L0 n : Nat} {A : Option Addr} {cc : Nat} {ss : List Int} {T : Nat → Prop} {wr : World} (h : RowF bm L0 (.slice A n cc) ss n T wr) : ∃ es, EnvK wr A cc es ∧ es.map (·.1) = ss ∧ OkEs es ∧ es.length = n := by
  obtain ⟨ys, es, h1, h2, h3, h4⟩ := h
  obtain ⟨A', c', e, h5⟩ := h1.k
  have hl : es.length = n := by rw [← h1.xl, h4]
  rw [hl] at e
  injection e with e1 e2 e3
  subst e1 e3
  exact ⟨es, h5, h2, h3, hl⟩
theorem RowF.at_ {bm L0 n c : Nat} {A : Option Addr} {ss : List Int} {T : Nat → Prop} {wr : World} (h : RowF bm L0 (.slice A n c) ss n T wr) (j : Nat) (hj : j < n) (hss : j < ss.length) :
    ∃ gb, A = some ⟨gb, 0, none⟩ ∧ wr.cell? ⟨gb, j * 2, none⟩ = some (.int .i64 ss[j]) ∧ (∃ v, wr.cell? ⟨gb, j * 2 + 1, none⟩ = some v) ∧ L0 ≤ gb ∧ offT T bm gb ∧ gb < wr.heap.size ∧ wr.frozen? ⟨gb, j * 2, none⟩ = false ∧ ∀ u, (wr.setCell ⟨gb, j * 2, none⟩ u).frozen? ⟨gb, j * 2 + 1, none⟩ = false := by
  obtain ⟨ys, es, h1, h2, h3, h4⟩ := h
  obtain ⟨gb, c', e, b1, b2, b3, b4⟩ := h1.at_ (by omega)
  injection e with e1 e2 e3
  subst e1 e3
  rw [← h4] at h1
  obtain ⟨c1, c2⟩ := h1.cells j (by omega)
  have hxl := h1.xl
  have hs : ss[j] = ys[j].1 := by
    subst h2
    rw [List.getElem_map]
    exact (h1.el j (by omega) (by omega)).1.symm
  rw [← hs] at c1
  have hfr : ∀ i, wr.frozen? ⟨gb, i, none⟩ = false := by
    rcases h1.own.2 with ⟨e, -⟩ | ⟨g', c', cur, e, -, hh, -⟩
    · cases e
    · injection e with e1 e2 e3
      injection e1 with e1
      injection e1 with e1
      subst e1
      intro i
      simp [World.frozen?, hh]
  refine ⟨gb, rfl, c1, ⟨_, c2⟩, b1, b4, b2, hfr _, fun u => ?_⟩
  rw [World.frozen?_setCell]
  exact hfr _
theorem RowF.put {bm L0 n c gb B0 : Nat} {ss : List Int} {T : Nat → Prop} {wr : World} (h : RowF bm L0 (.slice (some ⟨gb, 0, none⟩) n c) ss n T wr) (j : Nat) (hj : j < n) (hss : j < ss.length) {v5 : Value} {y : List UInt8} (hv : HeldW T bm B0 wr.heap.size wr v5 y) (hL : L0 ≤ B0) (hs : ok64 ss[j]) (hy : y.length ≤ 1000000) :
    RowF bm L0 (.slice (some ⟨gb, 0, none⟩) n c) ss n T ((wr.setCell ⟨gb, j * 2, none⟩ (.int .i64 ss[j])).setCell ⟨gb, j * 2 + 1, none⟩ v5) ∧ Only gb wr ((wr.setCell ⟨gb, j * 2, none⟩ (.int .i64 ss[j])).setCell ⟨gb, j * 2 + 1, none⟩ v5) := by
  obtain ⟨ys, es, h1, h2, h3, h4⟩ := h
  subst h4
  obtain ⟨h5, h6⟩ := h1.put j hj (s := ss[j]) (hv.to hL (Nat.le_refl _))
  refine ⟨⟨ys.set j (ss[j], v5), es.set j (ss[j], y), ?_, ?_, ?_, List.length_set⟩, h6⟩
  · have hz : ((wr.setCell ⟨gb, j * 2, none⟩ (.int .i64 ss[j])).setCell ⟨gb, j * 2 + 1, none⟩ v5).heap.size = wr.heap.size := by simp [World.setCell]
    rw [hz]
    exact h5
  · rw [List.map_set, h2]
    exact List.set_getElem_self hss
  · intro e he
    rcases List.mem_or_eq_of_mem_set he with he | rfl
    · exact h3 e he
    · exact ⟨hs, hy⟩

def aw1 : Msg := ⟨1, 0, 0, 1000, 1, [], [111, 112], (0, 0), [], [], []⟩
def awL1 : List UInt8 := encD aw1
def awD : List UInt8 := batB [(1000, awL1)]
def aw2 : Msg := ⟨2, 0, 1, 0, 0, awD, [], (0, 0), [(1000, awL1)], [], []⟩
def awL2 : List UInt8 := encD aw2
def aw3 : Msg := ⟨3, 0, 1, 0, 0, awD, [], (0, 0), [], [], []⟩
def awL3 : List UInt8 := encD aw3
def awK : Kn := ⟨1, 1, [(1000, awL1), (0, awL2), (0, awL3), (1, awL3), (2, awL3)]⟩
theorem awE1 : awL1.length = 30 := by kernel_rfl
theorem awS1 : signT 1 1 1000 awL1 [] = [(1000, awL1)] := by kernel_rfl
theorem awS2 : signT 1 1 0 awL2 [(1000, awL1)] = [(1000, awL1), (0, awL2)] := by kernel_rfl
theorem awS3 : signT 1 1 0 awL3 [(1000, awL1), (0, awL2)] = [(1000, awL1), (0, awL2), (0, awL3)] := by kernel_rfl
theorem awS4 : signT 1 1 1 awL3 [(1000, awL1), (0, awL2), (0, awL3)] = [(1000, awL1), (0, awL2), (0, awL3), (1, awL3)] := by kernel_rfl
theorem awS5 : signT 1 1 2 awL3 [(1000, awL1), (0, awL2), (0, awL3), (1, awL3)] = [(1000, awL1), (0, awL2), (0, awL3), (1, awL3), (2, awL3)] := by kernel_rfl
theorem awR : reqA awK (1000, awL1) = ((1000, 1, [111, 112]), 0) := by kernel_rfl
theorem awP1 : prepA awK ((0, awL2), [(1, awL3), (2, awL3)]) = (aw2, 0) := by kernel_rfl
theorem awP2 : prepA awK ((0, awL2), [(1, awL3)]) = (msg0, 32) := by kernel_rfl
theorem awP3 : prepA awK ((0, awL2), [(1, awL3), (1, awL3)]) = (msg0, 33) := by kernel_rfl
theorem awP4 : prepA awK ((0, awL2), [(0, awL3), (1, awL3), (2, awL3)]) = (msg0, 133) := by kernel_rfl
theorem awN : awL2.length ≤ 1000 ∧ awL3.length ≤ 1000 ∧ awD.length ≤ 1000 := by decide +kernel
theorem awM1 : SmD aw1 := ⟨by decide, by decide, ⟨by decide, fun e he => by cases he⟩, ⟨by decide, fun e he => by cases he⟩, rfl⟩
theorem awM2 : SmD aw2 := ⟨Nat.le_trans awN.2.2 (by decide), by decide, ⟨by decide, fun e he => by
  rw [List.mem_singleton.1 he]
  show awL1.length ≤ _
  rw [awE1]
  decide⟩, ⟨by decide, fun e he => by cases he⟩, rfl⟩
theorem awM3 : SmD aw3 := ⟨Nat.le_trans awN.2.2 (by decide), by decide, ⟨by decide, fun e he => by cases he⟩, ⟨by decide, fun e he => by cases he⟩, rfl⟩
theorem awBig : BigE [(1000, awL1)] := ⟨by decide, fun e he => by
  rw [List.mem_singleton.1 he]
  show awL1.length ≤ _
  rw [awE1]
  decide⟩

theorem slice_env1 (br : Nat) (w : World) : (Instr.slice 36 (.slice (some ⟨br, 0, none⟩) 3 3) (some (.int .i64 1)) none none).run Tryz.prog w = .ok (.slice (some ⟨br, 2, none⟩) 2 2) w := by rfl
theorem slice_env2 (br : Nat) (w : World) : (Instr.slice 36 (.slice (some ⟨br, 0, none⟩) 3 3) (some (.int .i64 1)) (some (.int .i64 2)) none).run Tryz.prog w = .ok (.slice (some ⟨br, 2, none⟩) 1 2) w := by rfl
set_option maxHeartbeats 8000000 in
theorem awake13_any (w : World) : Calls Tryz.prog 13 #[] w (AskB true w) := by
  have HG1 := Lib.hid (fun (W : World) (g bm g2 : Nat) (T : Nat → Prop) (P : Plc) (h : Bth W w.heap.size g bm g2 1 1 [] T) (hm : MsgK W aw1 P) => show Calls Tryz.prog 17 #[.agg #[.pointer (some ⟨g, 0, none⟩), .pointer (some ⟨g2, 0, none⟩)], .int .i64 1000, agM aw1 P] W (SaidP w.heap.size g bm g2 1 1 1000 awL1 [(1000, awL1)] T W) from by
    have h1 := sign_any w.heap.size g bm g2 1 1 _ T 1000 aw1 P awL1 W h (by unfold ok64; omega) (by have := awN; have := awE1; omega) (by simp) (fun W' hb => rEncode_any aw1 P W' (hm.below hb) awM1)
    rwa [awS1] at h1)
  have HG2 := Lib.hid (fun (W : World) (g bm g2 : Nat) (T : Nat → Prop) (P : Plc) (h : Bth W w.heap.size g bm g2 1 1 [(1000, awL1)] T) (hm : MsgK W aw2 P) => show Calls Tryz.prog 17 #[.agg #[.pointer (some ⟨g, 0, none⟩), .pointer (some ⟨g2, 0, none⟩)], .int .i64 0, agM aw2 P] W (SaidP w.heap.size g bm g2 1 1 0 awL2 [(1000, awL1), (0, awL2)] T W) from by
    have h1 := sign_any w.heap.size g bm g2 1 1 _ T 0 aw2 P awL2 W h (by unfold ok64; omega) (by have := awN; have := awE1; omega) (by simp) (fun W' hb => rEncode_any aw2 P W' (hm.below hb) awM2)
    rwa [awS2] at h1)
  have HG3 := Lib.hid (fun (W : World) (g bm g2 : Nat) (T : Nat → Prop) (P : Plc) (h : Bth W w.heap.size g bm g2 1 1 [(1000, awL1), (0, awL2)] T) (hm : MsgK W aw3 P) => show Calls Tryz.prog 17 #[.agg #[.pointer (some ⟨g, 0, none⟩), .pointer (some ⟨g2, 0, none⟩)], .int .i64 0, agM aw3 P] W (SaidP w.heap.size g bm g2 1 1 0 awL3 [(1000, awL1), (0, awL2), (0, awL3)] T W) from by
    have h1 := sign_any w.heap.size g bm g2 1 1 _ T 0 aw3 P awL3 W h (by unfold ok64; omega) (by have := awN; have := awE1; omega) (by simp) (fun W' hb => rEncode_any aw3 P W' (hm.below hb) awM3)
    rwa [awS3] at h1)
  have HG4 := Lib.hid (fun (W : World) (g bm g2 : Nat) (T : Nat → Prop) (P : Plc) (h : Bth W w.heap.size g bm g2 1 1 [(1000, awL1), (0, awL2), (0, awL3)] T) (hm : MsgK W aw3 P) => show Calls Tryz.prog 17 #[.agg #[.pointer (some ⟨g, 0, none⟩), .pointer (some ⟨g2, 0, none⟩)], .int .i64 1, agM aw3 P] W (SaidP w.heap.size g bm g2 1 1 1 awL3 [(1000, awL1), (0, awL2), (0, awL3), (1, awL3)] T W) from by
    have h1 := sign_any w.heap.size g bm g2 1 1 _ T 1 aw3 P awL3 W h (by unfold ok64; omega) (by have := awN; have := awE1; omega) (by simp) (fun W' hb => rEncode_any aw3 P W' (hm.below hb) awM3)
    rwa [awS4] at h1)
  have HG5 := Lib.hid (fun (W : World) (g bm g2 : Nat) (T : Nat → Prop) (P : Plc) (h : Bth W w.heap.size g bm g2 1 1 [(1000, awL1), (0, awL2), (0, awL3), (1, awL3)] T) (hm : MsgK W aw3 P) => show Calls Tryz.prog 17 #[.agg #[.pointer (some ⟨g, 0, none⟩), .pointer (some ⟨g2, 0, none⟩)], .int .i64 2, agM aw3 P] W (SaidP w.heap.size g bm g2 1 1 2 awL3 [(1000, awL1), (0, awL2), (0, awL3), (1, awL3), (2, awL3)] T W) from by
    have h1 := sign_any w.heap.size g bm g2 1 1 _ T 2 aw3 P awL3 W h (by unfold ok64; omega) (by have := awN; have := awE1; omega) (by simp) (fun W' hb => rEncode_any aw3 P W' (hm.below hb) awM3)
    rwa [awS5] at h1)
  have hcv : ∀ (w : World) (C : Array Value) (n c b : Nat), b = w.heap.size → (convert 33 33 (.slice (some ⟨b, 0, none⟩) n c)).run Tryz.prog (w.alloc (.cells C 5)) = .ok (.slice (some ⟨b, 0, none⟩) n c) (w.alloc (.cells C 5 (C.size, C.size + 1))) := by
    intro w C n c b hb
    subst hb
    exact Lib.run_convert_bytes_const (P := Tryz.prog) w 33 5 C n c Tryz.underlying33 Tryz.underlying5
  go_enter Tryz.func13, Tryz.ntmps13
  go_upto_region 2 with (first
    | (go_at_call 14; go_loud (refine (begun_any 1 1 _).mono ?_; rintro e w1 ⟨g, bm, g2, T, rfl, hb, hbel⟩; rw [show clF 1 = 1 from rfl, show clC 1 = 1 from rfl] at hb; have HBT := Lib.hid hb; have HB := Lib.hid hbel; clear hb hbel)))
  have HX := Lib.hid (Held.new (cs := #[.pointer (some ⟨g, 0, none⟩), .pointer (some ⟨g2, 0, none⟩)]) (t := 31) HBT.out)
  have HBT := Lib.hid (HBT.out.below (alloc1B w1 (.cells #[.pointer (some ⟨g, 0, none⟩), .pointer (some ⟨g2, 0, none⟩)] 31)))
  have HB := Lib.hid (bel2M HB.out (alloc1B w1 (.cells #[.pointer (some ⟨g, 0, none⟩), .pointer (some ⟨g2, 0, none⟩)] 31)))
  generalize hwA : w1.alloc _ = wA at *
  have x0 := rowCell HX.out.at_ 0 (.pointer (some ⟨g, 0, none⟩)) rfl
  have x1 := rowCell HX.out.at_ 1 (.pointer (some ⟨g2, 0, none⟩)) rfl
  clear hwA
  have HB := Lib.hid (HB.out.mono (Nat.le_refl w.heap.size))
  go_upto_region 3 with (first
    | (go_at_call 17; go_loud (refine (HG1.out _ g bm g2 T ⟨(some ⟨wA.heap.size, 0, none⟩, 2), (none, 0), (none, 0), (none, 0)⟩ (HBT.out.below (alloc1B wA _)) ⟨Bs.lit wA [111, 112] (by decide) (by decide) _ _ rfl rfl _ rfl _, RowM.none _ _ _, RowM.none _ _ _, RowM.none _ _ _⟩).mono ?_; have hbt0 := HBT.out; rintro e w2 ⟨v1, T1, rfl, hf, hb, ht⟩; obtain ⟨A1, c1, rfl, -⟩ := hf.bs.open; have HV1 := Lib.hid hf.held; have HBT := Lib.hid hb; have HX := Lib.hid ((HX.out.below (alloc1B wA _)).turn ht); have HB := Lib.hid ((bel2M HB.out (alloc1B wA _)).trans (ht.lowB (hbt0.below (alloc1B wA _)))); clear hf hb ht hbt0)))
  have HE1 := Lib.hid (Held.new (cs := #[.int .i64 1000, .slice A1 awL1.length c1]) (t := 35) HBT.out)
  have HX := Lib.hid (HX.out.below (alloc1B _ (.cells #[.int .i64 1000, .slice A1 awL1.length c1] 35)))
  have HV1 := Lib.hid (HV1.out.below (alloc1B _ (.cells #[.int .i64 1000, .slice A1 awL1.length c1] 35)))
  have HBT := Lib.hid (HBT.out.below (alloc1B _ (.cells #[.int .i64 1000, .slice A1 awL1.length c1] 35)))
  have HB := Lib.hid (bel2M HB.out (alloc1B _ (.cells #[.int .i64 1000, .slice A1 awL1.length c1] 35)))
  generalize hwn : w2.alloc _ = wB at *
  clear hwn
  have HLG := Lib.hid HBT.out.au.1.lt
  have HLX := Lib.hid HX.out.lt
  have HLE := Lib.hid HE1.out.lt
  have HVL := Lib.hid (fun k hk => (HV1.out.own k hk).1)
  have HLW := Lib.hid HB.out.size
  have e0 := rowCell HE1.out.at_ 0 (.int .i64 1000) rfl
  have e1 := rowCell HE1.out.at_ 1 (.slice A1 awL1.length c1) rfl
  go_upto_region 4 with fail
  have HRW := Lib.hid (Held.new (cs := #[.int .i64 1000, .slice A1 awL1.length c1]) (t := 35) HBT.out)
  have HX := Lib.hid (HX.out.below (alloc1B _ (.cells #[.int .i64 1000, .slice A1 awL1.length c1] 35)))
  have HE1 := Lib.hid (HE1.out.below (alloc1B _ (.cells #[.int .i64 1000, .slice A1 awL1.length c1] 35)))
  have HV1 := Lib.hid (HV1.out.below (alloc1B _ (.cells #[.int .i64 1000, .slice A1 awL1.length c1] 35)))
  have HBT := Lib.hid (HBT.out.below (alloc1B _ (.cells #[.int .i64 1000, .slice A1 awL1.length c1] 35)))
  have HB := Lib.hid (bel2M HB.out (alloc1B _ (.cells #[.int .i64 1000, .slice A1 awL1.length c1] 35)))
  have HM := Lib.hid (Held.new (cs := #[.int .i64 2, .int .i64 0, .int .i64 1, .int .i64 0, .int .i64 0, .string ⟨#[]⟩, .slice none 0 0, .int .i64 0, .int .i64 0, .slice (some ⟨wB.heap.size, 0, none⟩) 1 1, .slice none 0 0, .slice none 0 0]) (t := 46) HBT.out)
  have HX := Lib.hid (HX.out.below (alloc1B _ (.cells #[.int .i64 2, .int .i64 0, .int .i64 1, .int .i64 0, .int .i64 0, .string ⟨#[]⟩, .slice none 0 0, .int .i64 0, .int .i64 0, .slice (some ⟨wB.heap.size, 0, none⟩) 1 1, .slice none 0 0, .slice none 0 0] 46)))
  have HE1 := Lib.hid (HE1.out.below (alloc1B _ (.cells #[.int .i64 2, .int .i64 0, .int .i64 1, .int .i64 0, .int .i64 0, .string ⟨#[]⟩, .slice none 0 0, .int .i64 0, .int .i64 0, .slice (some ⟨wB.heap.size, 0, none⟩) 1 1, .slice none 0 0, .slice none 0 0] 46)))
  have HRW := Lib.hid (HRW.out.below (alloc1B _ (.cells #[.int .i64 2, .int .i64 0, .int .i64 1, .int .i64 0, .int .i64 0, .string ⟨#[]⟩, .slice none 0 0, .int .i64 0, .int .i64 0, .slice (some ⟨wB.heap.size, 0, none⟩) 1 1, .slice none 0 0, .slice none 0 0] 46)))
  have HV1 := Lib.hid (HV1.out.below (alloc1B _ (.cells #[.int .i64 2, .int .i64 0, .int .i64 1, .int .i64 0, .int .i64 0, .string ⟨#[]⟩, .slice none 0 0, .int .i64 0, .int .i64 0, .slice (some ⟨wB.heap.size, 0, none⟩) 1 1, .slice none 0 0, .slice none 0 0] 46)))
  have HBT := Lib.hid (HBT.out.below (alloc1B _ (.cells #[.int .i64 2, .int .i64 0, .int .i64 1, .int .i64 0, .int .i64 0, .string ⟨#[]⟩, .slice none 0 0, .int .i64 0, .int .i64 0, .slice (some ⟨wB.heap.size, 0, none⟩) 1 1, .slice none 0 0, .slice none 0 0] 46)))
  have HB := Lib.hid (bel2M HB.out (alloc1B _ (.cells #[.int .i64 2, .int .i64 0, .int .i64 1, .int .i64 0, .int .i64 0, .string ⟨#[]⟩, .slice none 0 0, .int .i64 0, .int .i64 0, .slice (some ⟨wB.heap.size, 0, none⟩) 1 1, .slice none 0 0, .slice none 0 0] 46)))
  have hz1 : (wB.alloc (.cells #[.int .i64 1000, .slice A1 awL1.length c1] 35)).heap.size = wB.heap.size + 1 := by simp
  rw [hz1] at HM
  generalize hwn : (wB.alloc _).alloc _ = wC at *
  clear hwn hz1
  have m9 := rowCell HM.out.at_ 9 (.slice (some ⟨wB.heap.size, 0, none⟩) 1 1) rfl
  have HEK := Lib.hid (show EnvK wC (some ⟨wB.heap.size, 0, none⟩) 1 [(1000, awL1)] from envK_row 0 HRW.out.at_ (by simp) (by omega) fun j hj => by
    obtain rfl : j = 0 := by simpa using hj
    exact ⟨rfl, _, rfl, HV1.out.bs⟩)
  go_upto_region 5 with (first
    | (go_at_call 16; go_loud (refine (show Calls _ _ _ wC (Tells awD wC) from rhBatch_any (some ⟨wB.heap.size, 0, none⟩) 1 [(1000, awL1)] wC HEK.out awBig).mono ?_; rintro e w4 ⟨rfl, hb⟩; have HX := Lib.hid (HX.out.below hb); have HE1 := Lib.hid (HE1.out.below hb); have HRW := Lib.hid (HRW.out.below hb); have HM := Lib.hid (HM.out.below hb); have HV1 := Lib.hid (HV1.out.below hb); have HBT := Lib.hid (HBT.out.below hb); have HB := Lib.hid (bel2M HB.out hb); have m5 := rowCell HM.out.at_ 5 (.string ⟨#[]⟩) rfl; have f5 : w4.frozen? ⟨wB.heap.size + 1, 5, none⟩ = false := (by have := HM.out.at_; simp [World.frozen?, this]); clear hb)))
  have ho4 : Only (wB.heap.size + 1) w4 (w4.setCell ⟨wB.heap.size + 1, 5, none⟩ (.string (strB awD))) := (Only.refl _ _).set 5 _
  have HM5 := Lib.hid (show Held T1 bm (w4.setCell ⟨wB.heap.size + 1, 5, none⟩ (.string (strB awD))) (wB.heap.size + 1) #[.int .i64 2, .int .i64 0, .int .i64 1, .int .i64 0, .int .i64 0, .string (strB awD), .slice none 0 0, .int .i64 0, .int .i64 0, .slice (some ⟨wB.heap.size, 0, none⟩) 1 1, .slice none 0 0, .slice none 0 0] 46 from ⟨set_at HM.out.at_ 5 _, HM.out.off⟩)
  have HX := Lib.hid (HX.out.only ho4 (by have := HLX.out; omega))
  have HE1 := Lib.hid (HE1.out.only ho4 (by have := HLE.out; omega))
  have HRW := Lib.hid (HRW.out.only ho4 (by omega))
  have HV1 := Lib.hid (HV1.out.only ho4 (fun k hk => by have := HVL.out k hk; omega))
  have HBT := Lib.hid (HBT.out.only ho4 (fun h => HM.out.off (.inl h)) (by have := HLG.out; omega) (fun h => HM.out.off (.inr h)))
  have HB := Lib.hid (onlyBelow HB.out ho4 (by have := HLW.out; omega) (Nat.le_refl _))
  generalize w4.setCell _ _ = w5 at *
  clear HM HEK m9 m5 f5 ho4 e0 e1 x0 x1
  have x0 := rowCell HX.out.at_ 0 (.pointer (some ⟨g, 0, none⟩)) rfl
  have x1 := rowCell HX.out.at_ 1 (.pointer (some ⟨g2, 0, none⟩)) rfl
  go_upto_region 6 with (first
    | (go_at_call 17; go_loud (refine (HG2.out _ g bm g2 T1 ⟨(none, 0), (some ⟨wB.heap.size, 0, none⟩, 1), (none, 0), (none, 0)⟩ HBT.out ⟨Bs.nil _, envK_row 0 HRW.out.at_ (by simp [aw2]) (show (1 : Nat) ≤ 1000 by decide) (fun j hj => (by obtain rfl : j = 0 := (by simpa [aw2] using hj); exact ⟨rfl, _, rfl, HV1.out.bs⟩)), RowM.none _ _ _, RowM.none _ _ _⟩).mono ?_; have hbt0 := HBT.out; rintro e w6 ⟨v2, T2, rfl, hf, hb, ht⟩; obtain ⟨A2, c2, rfl, -⟩ := hf.bs.open; have HV2 := Lib.hid hf.held; have HBT := Lib.hid hb; have HX := Lib.hid (HX.out.turn ht); have HE1 := Lib.hid (HE1.out.turn ht); have HRW := Lib.hid (HRW.out.turn ht); have HM5 := Lib.hid (HM5.out.turn ht); have HV1 := Lib.hid (HV1.out.turn ht); have HB := Lib.hid (HB.out.trans (ht.lowB hbt0)); clear hf hb ht hbt0))
    | (refine wpList_load_mid rfl 46 _ rfl (wB.heap.size + 1) 0 rfl _ _ (heap_all HM5.out.at_) Tryz.underlying46 rfl (by kernel_rfl) ?_))
  have HE2 := Lib.hid (Held.new (cs := #[.int .i64 0, .slice A2 awL2.length c2]) (t := 35) HBT.out)
  have HX := Lib.hid (HX.out.below (alloc1B _ (.cells #[.int .i64 0, .slice A2 awL2.length c2] 35)))
  have HE1 := Lib.hid (HE1.out.below (alloc1B _ (.cells #[.int .i64 0, .slice A2 awL2.length c2] 35)))
  have HRW := Lib.hid (HRW.out.below (alloc1B _ (.cells #[.int .i64 0, .slice A2 awL2.length c2] 35)))
  have HM5 := Lib.hid (HM5.out.below (alloc1B _ (.cells #[.int .i64 0, .slice A2 awL2.length c2] 35)))
  have HV1 := Lib.hid (HV1.out.below (alloc1B _ (.cells #[.int .i64 0, .slice A2 awL2.length c2] 35)))
  have HV2 := Lib.hid (HV2.out.below (alloc1B _ (.cells #[.int .i64 0, .slice A2 awL2.length c2] 35)))
  have HBT := Lib.hid (HBT.out.below (alloc1B _ (.cells #[.int .i64 0, .slice A2 awL2.length c2] 35)))
  have HB := Lib.hid (bel2M HB.out (alloc1B _ (.cells #[.int .i64 0, .slice A2 awL2.length c2] 35)))
  generalize hwn : w6.alloc _ = wD at *
  clear hwn x0 x1
  have m5 := rowCell HM5.out.at_ 5 (.string (strB awD)) rfl
  go_upto_region 7 with fail
  have HM3 := Lib.hid (Held.new (cs := #[.int .i64 3, .int .i64 0, .int .i64 1, .int .i64 0, .int .i64 0, .string (strB awD), .slice none 0 0, .int .i64 0, .int .i64 0, .slice none 0 0, .slice none 0 0, .slice none 0 0]) (t := 46) HBT.out)
  have HX := Lib.hid (HX.out.below (alloc1B _ (.cells #[.int .i64 3, .int .i64 0, .int .i64 1, .int .i64 0, .int .i64 0, .string (strB awD), .slice none 0 0, .int .i64 0, .int .i64 0, .slice none 0 0, .slice none 0 0, .slice none 0 0] 46)))
  have HE1 := Lib.hid (HE1.out.below (alloc1B _ (.cells #[.int .i64 3, .int .i64 0, .int .i64 1, .int .i64 0, .int .i64 0, .string (strB awD), .slice none 0 0, .int .i64 0, .int .i64 0, .slice none 0 0, .slice none 0 0, .slice none 0 0] 46)))
  have HRW := Lib.hid (HRW.out.below (alloc1B _ (.cells #[.int .i64 3, .int .i64 0, .int .i64 1, .int .i64 0, .int .i64 0, .string (strB awD), .slice none 0 0, .int .i64 0, .int .i64 0, .slice none 0 0, .slice none 0 0, .slice none 0 0] 46)))
  have HM5 := Lib.hid (HM5.out.below (alloc1B _ (.cells #[.int .i64 3, .int .i64 0, .int .i64 1, .int .i64 0, .int .i64 0, .string (strB awD), .slice none 0 0, .int .i64 0, .int .i64 0, .slice none 0 0, .slice none 0 0, .slice none 0 0] 46)))
  have HE2 := Lib.hid (HE2.out.below (alloc1B _ (.cells #[.int .i64 3, .int .i64 0, .int .i64 1, .int .i64 0, .int .i64 0, .string (strB awD), .slice none 0 0, .int .i64 0, .int .i64 0, .slice none 0 0, .slice none 0 0, .slice none 0 0] 46)))
  have HV1 := Lib.hid (HV1.out.below (alloc1B _ (.cells #[.int .i64 3, .int .i64 0, .int .i64 1, .int .i64 0, .int .i64 0, .string (strB awD), .slice none 0 0, .int .i64 0, .int .i64 0, .slice none 0 0, .slice none 0 0, .slice none 0 0] 46)))
  have HV2 := Lib.hid (HV2.out.below (alloc1B _ (.cells #[.int .i64 3, .int .i64 0, .int .i64 1, .int .i64 0, .int .i64 0, .string (strB awD), .slice none 0 0, .int .i64 0, .int .i64 0, .slice none 0 0, .slice none 0 0, .slice none 0 0] 46)))
  have HBT := Lib.hid (HBT.out.below (alloc1B _ (.cells #[.int .i64 3, .int .i64 0, .int .i64 1, .int .i64 0, .int .i64 0, .string (strB awD), .slice none 0 0, .int .i64 0, .int .i64 0, .slice none 0 0, .slice none 0 0, .slice none 0 0] 46)))
  have HB := Lib.hid (bel2M HB.out (alloc1B _ (.cells #[.int .i64 3, .int .i64 0, .int .i64 1, .int .i64 0, .int .i64 0, .string (strB awD), .slice none 0 0, .int .i64 0, .int .i64 0, .slice none 0 0, .slice none 0 0, .slice none 0 0] 46)))
  generalize hwn : wD.alloc _ = wE at *
  clear hwn m5
  have HLG := Lib.hid HBT.out.au.1.lt
  have HK7 := Lib.hid (show ∀ (W : World) (T : Nat → Prop), Held T bm W w1.heap.size #[.pointer (some ⟨g, 0, none⟩), .pointer (some ⟨g2, 0, none⟩)] 31 → Held T bm W wD.heap.size #[.int .i64 3, .int .i64 0, .int .i64 1, .int .i64 0, .int .i64 0, .string (strB awD), .slice none 0 0, .int .i64 0, .int .i64 0, .slice none 0 0, .slice none 0 0, .slice none 0 0] 46 → (fun W => W.cell? ⟨w1.heap.size, 0, none⟩ = some (.pointer (some ⟨g, 0, none⟩)) ∧ W.cell? ⟨w1.heap.size, 1, none⟩ = some (.pointer (some ⟨g2, 0, none⟩)) ∧ W.cell? ⟨wD.heap.size, 0, none⟩ = some (.int .i64 3) ∧ W.cell? ⟨wD.heap.size, 1, none⟩ = some (.int .i64 0) ∧ W.cell? ⟨wD.heap.size, 2, none⟩ = some (.int .i64 1) ∧ W.cell? ⟨wD.heap.size, 3, none⟩ = some (.int .i64 0) ∧ W.cell? ⟨wD.heap.size, 4, none⟩ = some (.int .i64 0) ∧ W.cell? ⟨wD.heap.size, 5, none⟩ = some (.string (strB awD)) ∧ W.cell? ⟨wD.heap.size, 6, none⟩ = some (.slice none 0 0) ∧ W.cell? ⟨wD.heap.size, 7, none⟩ = some (.int .i64 0) ∧ W.cell? ⟨wD.heap.size, 8, none⟩ = some (.int .i64 0) ∧ W.cell? ⟨wD.heap.size, 9, none⟩ = some (.slice none 0 0) ∧ W.cell? ⟨wD.heap.size, 10, none⟩ = some (.slice none 0 0) ∧ W.cell? ⟨wD.heap.size, 11, none⟩ = some (.slice none 0 0)) W from fun W T h1 h2 => ⟨rowCell h1.at_ 0 _ rfl, rowCell h1.at_ 1 _ rfl, rowCell h2.at_ 0 _ rfl, rowCell h2.at_ 1 _ rfl, rowCell h2.at_ 2 _ rfl, rowCell h2.at_ 3 _ rfl, rowCell h2.at_ 4 _ rfl, rowCell h2.at_ 5 _ rfl, rowCell h2.at_ 6 _ rfl, rowCell h2.at_ 7 _ rfl, rowCell h2.at_ 8 _ rfl, rowCell h2.at_ 9 _ rfl, rowCell h2.at_ 10 _ rfl, rowCell h2.at_ 11 _ rfl⟩)
  have HTa := Lib.hid (show Turn T2 bm wE wE.drew T2 from Turn.below (Below.refl _ _).drew)
  have HXa := Lib.hid (HX.out.turn HTa.out)
  have HMa := Lib.hid (HM3.out.turn HTa.out)
  have HBa := Lib.hid (HBT.out.below (show Below wE.heap.size wE wE.drew from (Below.refl _ _).drew))
  have HS7 := Lib.hid (HK7.out _ _ HXa.out HMa.out)
  go_cut [6] from 37 to 46 (fun s6 wx => ∃ br T5 A3 c3 A4 c4 A5 c5, s6 = .slice (some ⟨br, 0, none⟩) 3 3 ∧ Bth wx w.heap.size g bm g2 1 1 [(1000, awL1), (0, awL2), (0, awL3), (1, awL3), (2, awL3)] T5 ∧ Turn T2 bm wE wx T5 ∧ Held T5 bm wx br #[.int .i64 0, .slice A3 awL3.length c3, .int .i64 1, .slice A4 awL3.length c4, .int .i64 2, .slice A5 awL3.length c5] 35 ∧ HeldV T5 bm wx (.slice A3 awL3.length c3) awL3 ∧ HeldV T5 bm wx (.slice A4 awL3.length c4) awL3 ∧ HeldV T5 bm wx (.slice A5 awL3.length c5) awL3)
  case first =>
    go_region_held3 (fun W => W.cell? ⟨w1.heap.size, 0, none⟩ = some (.pointer (some ⟨g, 0, none⟩)) ∧ W.cell? ⟨w1.heap.size, 1, none⟩ = some (.pointer (some ⟨g2, 0, none⟩)) ∧ W.cell? ⟨wD.heap.size, 0, none⟩ = some (.int .i64 3) ∧ W.cell? ⟨wD.heap.size, 1, none⟩ = some (.int .i64 0) ∧ W.cell? ⟨wD.heap.size, 2, none⟩ = some (.int .i64 1) ∧ W.cell? ⟨wD.heap.size, 3, none⟩ = some (.int .i64 0) ∧ W.cell? ⟨wD.heap.size, 4, none⟩ = some (.int .i64 0) ∧ W.cell? ⟨wD.heap.size, 5, none⟩ = some (.string (strB awD)) ∧ W.cell? ⟨wD.heap.size, 6, none⟩ = some (.slice none 0 0) ∧ W.cell? ⟨wD.heap.size, 7, none⟩ = some (.int .i64 0) ∧ W.cell? ⟨wD.heap.size, 8, none⟩ = some (.int .i64 0) ∧ W.cell? ⟨wD.heap.size, 9, none⟩ = some (.slice none 0 0) ∧ W.cell? ⟨wD.heap.size, 10, none⟩ = some (.slice none 0 0) ∧ W.cell? ⟨wD.heap.size, 11, none⟩ = some (.slice none 0 0)) (first | exact HS7.out | exact HS7b.out | exact HS7c.out | exact HS7d.out | exact HK7.out _ _ (HXd.out.below (alloc1B _ _)) (HMd.out.below (alloc1B _ _))) (first
      | (go_at_call 17; go_loud (refine (HG3.out _ g bm g2 T2 ⟨(none, 0), (none, 0), (none, 0), (none, 0)⟩ HBa.out ⟨Bs.nil _, RowM.none _ _ _, RowM.none _ _ _, RowM.none _ _ _⟩).mono ?_; rintro e w7 ⟨v3, T3, rfl, hf, hb, ht⟩; obtain ⟨A3, c3, rfl, -⟩ := hf.bs.open; have HV3 := Lib.hid hf.held; have HBb := Lib.hid hb; have HTb := Lib.hid (HTa.out.trans ht); have HXb := Lib.hid (HXa.out.turn ht); have HMb := Lib.hid (HMa.out.turn ht); have HS7b := Lib.hid (HK7.out _ _ HXb.out HMb.out); clear hf hb ht HBa))
      | (go_at_call 17; go_loud (refine (HG4.out _ g bm g2 T3 ⟨(none, 0), (none, 0), (none, 0), (none, 0)⟩ HBb.out ⟨Bs.nil _, RowM.none _ _ _, RowM.none _ _ _, RowM.none _ _ _⟩).mono ?_; rintro e w8 ⟨v4, T4, rfl, hf, hb, ht⟩; obtain ⟨A4, c4, rfl, -⟩ := hf.bs.open; have HV4 := Lib.hid hf.held; have HV3 := Lib.hid (HV3.out.turn ht); have HBc := Lib.hid hb; have HTc := Lib.hid (HTb.out.trans ht); have HXc := Lib.hid (HXb.out.turn ht); have HMc := Lib.hid (HMb.out.turn ht); have HS7c := Lib.hid (HK7.out _ _ HXc.out HMc.out); clear hf hb ht HBb))
      | (go_at_call 17; go_loud (refine (HG5.out _ g bm g2 T4 ⟨(none, 0), (none, 0), (none, 0), (none, 0)⟩ HBc.out ⟨Bs.nil _, RowM.none _ _ _, RowM.none _ _ _, RowM.none _ _ _⟩).mono ?_; rintro e w9 ⟨v5, T5, rfl, hf, hb, ht⟩; obtain ⟨A5, c5, rfl, -⟩ := hf.bs.open; have HV5 := Lib.hid hf.held; have HV3 := Lib.hid (HV3.out.turn ht); have HV4 := Lib.hid (HV4.out.turn ht); have HBd := Lib.hid hb; have HTd := Lib.hid (HTc.out.trans ht); have HXd := Lib.hid (HXc.out.turn ht); have HMd := Lib.hid (HMc.out.turn ht); have HS7d := Lib.hid (HK7.out _ _ HXd.out HMd.out); clear hf hb ht HBc)))
    all_goals go_wp2_with fail
    all_goals go_meet
    all_goals exact ⟨_, T5, A3, c3, A4, c4, A5, c5, rfl, HBd.out.below (alloc1B _ _), HTd.out.trans (Turn.below (alloc1B _ _)), Held.new HBd.out, HV3.out.below (alloc1B _ _), HV4.out.below (alloc1B _ _), HV5.out.below (alloc1B _ _)⟩
  case rest =>
  obtain ⟨br, T5, A3, c3, A4, c4, A5, c5, rfl, hB5, hT5, hR5, hv3, hv4, hv5⟩ := hcut
  generalize wc = wF at *
  have HXF := Lib.hid (HX.out.turn hT5)
  have HE1F := Lib.hid (HE1.out.turn hT5)
  have HE2F := Lib.hid (HE2.out.turn hT5)
  have HV1 := Lib.hid (HV1.out.turn hT5)
  have HV2 := Lib.hid (HV2.out.turn hT5)
  have HBF0 := Lib.hid (HB.out.trans (hT5.lowB HBT.out))
  have HAU := Lib.hid (show AuK wF g bm awK from hB5.au)
  have HR5 := Lib.hid hR5
  have HV3 := Lib.hid hv3
  have HV4 := Lib.hid hv4
  have HV5 := Lib.hid hv5
  clear hB5 hT5 hR5 hv3 hv4 hv5 HBT HTa HXa HMa HBa HS7 HK7 HM5 HM3 HRW HG1 HG2 HG3 HG4 HG5
  have HC0 := Lib.hid (Below.refl wF.heap.size wF)
  have hsl1 : ∀ W, (Instr.slice 36 (.slice (some ⟨br, 0, none⟩) 3 3) (some (.int .i64 1)) none none).run Tryz.prog W = .ok (.slice (some ⟨br, 2, none⟩) 2 2) W := fun W => slice_env1 br W
  have hsl2 : ∀ W, (Instr.slice 36 (.slice (some ⟨br, 0, none⟩) 3 3) (some (.int .i64 1)) (some (.int .i64 2)) none).run Tryz.prog W = .ok (.slice (some ⟨br, 2, none⟩) 1 2) W := fun W => slice_env2 br W
  have HEV := Lib.hid (show EnvK wF (some ⟨br, 0, none⟩) 3 [(0, awL3), (1, awL3), (2, awL3)] from envK_row 0 HR5.out.at_ (by simp) (by omega) fun j hj => by
    have hj3 : j < 3 := by simpa using hj
    rcases (show j = 0 ∨ j = 1 ∨ j = 2 by omega) with rfl | rfl | rfl
    · exact ⟨rfl, _, rfl, HV3.out.bs⟩
    · exact ⟨rfl, _, rfl, HV4.out.bs⟩
    · exact ⟨rfl, _, rfl, HV5.out.bs⟩)
  have HEV1 := Lib.hid (show EnvK wF (some ⟨br, 2, none⟩) 2 [(1, awL3), (2, awL3)] from envK_row 2 HR5.out.at_ (by simp) (by omega) fun j hj => by
    have hj3 : j < 2 := by simpa using hj
    rcases (show j = 0 ∨ j = 1 by omega) with rfl | rfl
    · exact ⟨rfl, _, rfl, HV4.out.bs⟩
    · exact ⟨rfl, _, rfl, HV5.out.bs⟩)
  have HEV2 := Lib.hid (show EnvK wF (some ⟨br, 2, none⟩) 2 [(1, awL3)] from envK_row 2 HR5.out.at_ (by simp) (by omega) fun j hj => by
    obtain rfl : j = 0 := by simpa using hj
    exact ⟨rfl, _, rfl, HV4.out.bs⟩)
  have HOK := Lib.hid (show ∀ l : List (Int × List UInt8), (∀ e ∈ l, (e.1 = 0 ∨ e.1 = 1 ∨ e.1 = 2) ∧ e.2 = awL3) → OkEs l from fun l h e he => ⟨by have := (h e he).1; unfold ok64; omega, by rw [(h e he).2]; have := awN.2.1; omega⟩)
  have HPG := Lib.hid (fun (l : List (Int × List UInt8)) (x : Msg × Int) (A : Option Addr) (cc : Nat) (W : World) (hb : Below wF.heap.size wF W) (hl : EnvK W A cc l) (ho : ∀ e ∈ l, (e.1 = 0 ∨ e.1 = 1 ∨ e.1 = 2) ∧ e.2 = awL3) (hx : prepA awK ((0, awL2), l) = x) => show Calls Tryz.prog 19 #[.pointer (some ⟨g, 0, none⟩), .agg #[.int .i64 0, .slice A2 awL2.length c2, .slice A l.length cc]] W (DecN x W) from by
    rw [← hx]
    exact aPrep (HAU.out.below hb (Nat.le_refl _)) ((0, awL2), l) _ A cc (HV2.out.bs.below hb (Nat.le_refl _)) hl (show ok64 0 by unfold ok64; omega) (by have := awN.1; show awL2.length ≤ _; omega) (HOK.out l ho))
  have HP1 := Lib.hid (fun W (hb : Below wF.heap.size wF W) => HPG.out [(1, awL3), (2, awL3)] _ (some ⟨br, 2, none⟩) 2 W hb (HEV1.out.below hb) (by intro e he; simp at he; rcases he with rfl | rfl <;> simp) awP1)
  have HP2 := Lib.hid (fun W (hb : Below wF.heap.size wF W) => HPG.out [(1, awL3)] _ (some ⟨br, 2, none⟩) 2 W hb (HEV2.out.below hb) (by intro e he; simp at he; rcases he with rfl; simp) awP2)
  have HP4 := Lib.hid (fun W (hb : Below wF.heap.size wF W) => HPG.out [(0, awL3), (1, awL3), (2, awL3)] _ (some ⟨br, 0, none⟩) 3 W hb (HEV.out.below hb) (by intro e he; simp at he; rcases he with rfl | rfl | rfl <;> simp) awP4)
  have HK8 := Lib.hid (show ∀ W, Below wF.heap.size wF W → (fun W => Below wF.heap.size wF W ∧ W.cell? ⟨w1.heap.size, 0, none⟩ = some (.pointer (some ⟨g, 0, none⟩)) ∧ W.cell? ⟨w6.heap.size, 0, none⟩ = some (.int .i64 0) ∧ W.cell? ⟨w6.heap.size, 1, none⟩ = some (.slice A2 awL2.length c2)) W from fun W h => ⟨h, cellB (rowCell HXF.out.at_ 0 _ rfl) h, cellB (rowCell HE2F.out.at_ 0 _ rfl) h, cellB (rowCell HE2F.out.at_ 1 _ rfl) h⟩)
  have HRQ := Lib.hid (fun W (hb : Below wF.heap.size wF W) => show Calls Tryz.prog 50 #[.pointer (some ⟨g, 0, none⟩), .agg #[.int .i64 1000, .slice A1 awL1.length c1]] W (ReqN ((1000, 1, [111, 112]), 0) W) from by
    have h1 := aReq (HAU.out.below hb (Nat.le_refl _)) (1000, awL1) _ (HV1.out.bs.below hb (Nat.le_refl _)) (by unfold ok64; omega) (by show awL1.length ≤ _; rw [awE1]; decide)
    rw [awR] at h1
    exact h1)
  have HP3 := Lib.hid (fun W b (hb : Below wF.heap.size wF W) (hr : W.heap[b]? = some (.cells #[.int .i64 1, .slice A4 awL3.length c4, .int .i64 1, .slice A4 awL3.length c4] 35 (0, 0))) => HPG.out [(1, awL3), (1, awL3)] _ (some ⟨b, 0, none⟩) 2 W hb (envK_row 0 hr (by simp) (by omega) fun j hj => by
    have hj3 : j < 2 := by simpa using hj
    rcases (show j = 0 ∨ j = 1 by omega) with rfl | rfl
    · exact ⟨rfl, _, rfl, HV4.out.bs.below hb (Nat.le_refl _)⟩
    · exact ⟨rfl, _, rfl, HV4.out.bs.below hb (Nat.le_refl _)⟩) (by intro e he; simp at he; rcases he with rfl; simp) awP3)
  obtain ⟨xm, hxm⟩ : ∃ x : Msg, x = aw2 := ⟨_, rfl⟩
  have HXS := Lib.hid (show xm.s = 1 by rw [hxm]; rfl)
  rw [← hxm] at HP1
  obtain ⟨xz, hxz⟩ : ∃ x : Msg, x = msg0 := ⟨_, rfl⟩
  rw [← hxz] at HP2 HP3 HP4
  clear hxm hxz HEV HEV1 HEV2 HOK HPG HAU HV1 HV2 HV3 HV4 HV5
  generalize awL1.length = n1 at *
  generalize awL2.length = n2 at *
  generalize awL3.length = n3 at *
  have HBF := Lib.hid (Below.refl wF.heap.size wF)
  go_upto_region 8 with fail
  go_cut [7, 8] from 48 to 56 (fun sb se wx => ∃ bb PP, sb = .pointer (some ⟨bb, 0, none⟩) ∧ se = .int .i64 0 ∧ wx.heap[bb]? = some (.cells (msC xm PP) 46 (0, 0)) ∧ Below wF.heap.size wF wx)
  case first =>
    have HBn := Lib.hid (show Below wF.heap.size wF wF.drew from (Below.refl _ _).drew)
    refine wp_region_held_drew (S := (fun W => Below wF.heap.size wF W ∧ W.cell? ⟨w1.heap.size, 0, none⟩ = some (.pointer (some ⟨g, 0, none⟩)) ∧ W.cell? ⟨w6.heap.size, 0, none⟩ = some (.int .i64 0) ∧ W.cell? ⟨w6.heap.size, 1, none⟩ = some (.slice A2 n2 c2))) (by kernel_rfl) (HK8.out _ (bel2M HBF.out HBn.out)) (fun hHeld => ?_)
    refine tk 0 ?_
    (try simp only [Act.put, sA, sB, sC])
    refine tk 1 ?_
    (try simp only [Act.put, sA, sB, sC])
    refine tk 2 ?_
    (try simp only [Act.put, sA, sB, sC])
    refine tk 3 ?_
    (try simp only [Act.put, sA, sB, sC])
    refine tk 4 ?_
    (try simp only [Act.put, sA, sB, sC])
    refine tk 5 ?_
    (try simp only [Act.put, sA, sB, sC])
    refine wpAnyH_ready (rs := [6, 10]) (by kernel_rfl) (by simp) ?_
    refine AllReadyH.cons (o := ?o7) ?g7 (fun K hK => ?j7) (AllReadyH.cons (o := ?o8) ?g8 (fun K hK => ?j8) AllReadyH.nil)
    case g7 => (simp only [gA, gB, gC]; rfl)
    case g8 => (simp only [gA, gB, gC]; rfl)
    ·
     go_simp
     (go_at_call 19; refine (HP1.out _ (bel2M HBF.out HBn.out)).mono ?_)
     rintro e w2 ⟨P, rfl, hk, hb⟩
     have HBn := Lib.hid (bel2M HBn.out hb)
     refine hK.out _ _ ?_ (fun hHeld => ?_)
     · (try dsimp only); exact HK8.out _ (bel2M HBF.out HBn.out)
     clear hK K
     (try simp only [Act.put, sA, sB, sC])
     refine tk 7 ?_
     (try simp only [Act.put, sA, sB, sC])
     refine tk 8 ?_
     (try simp only [Act.put, sA, sB, sC])
     refine tk 9 ?_
     (try simp only [Act.put, sA, sB, sC])
     refine wpAnyH_ready (rs := [10]) (by kernel_rfl) (by simp) ?_
     refine AllReadyH.cons (o := ?o12) ?g12 (fun K hK => ?j12) AllReadyH.nil
     case g12 => (simp only [gA, gB, gC]; rfl)
     refine step_alloc rfl 46 rfl #[.int .i64 0, .int .i64 0, .int .i64 0, .int .i64 0, .int .i64 0, .string ⟨#[]⟩, .slice none 0 0, .int .i64 0, .int .i64 0, .slice none 0 0, .slice none 0 0, .slice none 0 0] 46 (fun W => by go_simp) ?_
     intro bk wk hz hbk hge
     have HZ := Lib.hid hz
     have HGE := Lib.hid (Nat.le_trans HBn.out.size hge)
     have HBn := Lib.hid (bel2M HBn.out hbk)
     refine hK.out _ _ ?_ (fun hHeld => ?_)
     · (try dsimp only); exact HK8.out _ (bel2M HBF.out HBn.out)
     clear hK K
     (try simp only [Act.put, sA, sB, sC])
     refine wpAnyH_ready (rs := [11]) (by kernel_rfl) (by simp) ?_
     refine AllReadyH.cons (o := ?o13) ?g13 (fun K hK => ?j13) AllReadyH.nil
     case g13 => (simp only [gA, gB, gC]; rfl)
     refine step_store rfl 46 (.tmp 7) (.tmp 55) rfl bk #[.int .i64 xm.k, .int .i64 xm.v, .int .i64 xm.s, .int .i64 xm.c, .int .i64 xm.t, .string (strB xm.d), .slice P.x.1 xm.x.length P.x.2, .int .i64 xm.r.1, .int .i64 xm.r.2, .slice P.b.1 xm.b.length P.b.2, .slice P.p.1 xm.p.length P.p.2, .slice P.q.1 xm.q.length P.q.2] #[.int .i64 0, .int .i64 0, .int .i64 0, .int .i64 0, .int .i64 0, .string ⟨#[]⟩, .slice none 0 0, .int .i64 0, .int .i64 0, .slice none 0 0, .slice none 0 0, .slice none 0 0] rfl rfl HZ.out rfl (by kernel_rfl) (by intro u hu; simp only [List.mem_cons, List.not_mem_nil, or_false] at hu; rcases hu with rfl | rfl | rfl | rfl | rfl | rfl | rfl | rfl | rfl | rfl | rfl | rfl <;> rfl) ?_
     intro w3 hz3 ho3
     have HZ3 := Lib.hid hz3
     have HBn := Lib.hid (onlyBelow HBn.out ho3 HGE.out (Nat.le_refl _))
     refine hK.out _ _ ?_ (fun hHeld => ?_)
     · (try dsimp only); exact HK8.out _ (bel2M HBF.out HBn.out)
     clear hK K
     (try simp only [Act.put, sA, sB, sC])
     refine wpAnyH_ready (rs := [12]) (by kernel_rfl) (by simp) ?_
     refine AllReadyH.cons (o := ?o14) ?g14 (fun K hK => ?j14) AllReadyH.nil
     case g14 => (simp only [gA, gB, gC]; rfl)
     go_simp
     refine hK.out _ _ ?_ (fun hHeld => ?_)
     · (try dsimp only); exact HK8.out _ (bel2M HBF.out HBn.out)
     clear hK K
     (try simp only [Act.put, sA, sB, sC])
     refine wpAnyH_done (by kernel_rfl) ?_ _
     go_wp2_with fail
     go_meet
     exact ⟨bk, P, rfl, rfl, HZ3.out, HBn.out⟩
    ·
     refine step_alloc rfl 46 rfl #[.int .i64 0, .int .i64 0, .int .i64 0, .int .i64 0, .int .i64 0, .string ⟨#[]⟩, .slice none 0 0, .int .i64 0, .int .i64 0, .slice none 0 0, .slice none 0 0, .slice none 0 0] 46 (fun W => by go_simp) ?_
     intro bk wk hz hbk hge
     have HZ := Lib.hid hz
     have HGE := Lib.hid (Nat.le_trans HBn.out.size hge)
     have HBn := Lib.hid (bel2M HBn.out hbk)
     refine hK.out _ _ ?_ (fun hHeld => ?_)
     · (try dsimp only); exact HK8.out _ (bel2M HBF.out HBn.out)
     clear hK K
     (try simp only [Act.put, sA, sB, sC])
     refine wpAnyH_ready (rs := [6]) (by kernel_rfl) (by simp) ?_
     refine AllReadyH.cons (o := ?o15) ?g15 (fun K hK => ?j15) AllReadyH.nil
     case g15 => (simp only [gA, gB, gC]; rfl)
     go_simp
     (go_at_call 19; refine (HP1.out _ (bel2M HBF.out HBn.out)).mono ?_)
     rintro e w2 ⟨P, rfl, hk, hb⟩
     have HBn := Lib.hid (bel2M HBn.out hb)
     have HZ := Lib.hid (heapB HZ.out hb)
     refine hK.out _ _ ?_ (fun hHeld => ?_)
     · (try dsimp only); exact HK8.out _ (bel2M HBF.out HBn.out)
     clear hK K
     (try simp only [Act.put, sA, sB, sC])
     refine tk 7 ?_
     (try simp only [Act.put, sA, sB, sC])
     refine tk 8 ?_
     (try simp only [Act.put, sA, sB, sC])
     refine tk 9 ?_
     (try simp only [Act.put, sA, sB, sC])
     refine wpAnyH_ready (rs := [11]) (by kernel_rfl) (by simp) ?_
     refine AllReadyH.cons (o := ?o19) ?g19 (fun K hK => ?j19) AllReadyH.nil
     case g19 => (simp only [gA, gB, gC]; rfl)
     refine step_store rfl 46 (.tmp 7) (.tmp 55) rfl bk #[.int .i64 xm.k, .int .i64 xm.v, .int .i64 xm.s, .int .i64 xm.c, .int .i64 xm.t, .string (strB xm.d), .slice P.x.1 xm.x.length P.x.2, .int .i64 xm.r.1, .int .i64 xm.r.2, .slice P.b.1 xm.b.length P.b.2, .slice P.p.1 xm.p.length P.p.2, .slice P.q.1 xm.q.length P.q.2] #[.int .i64 0, .int .i64 0, .int .i64 0, .int .i64 0, .int .i64 0, .string ⟨#[]⟩, .slice none 0 0, .int .i64 0, .int .i64 0, .slice none 0 0, .slice none 0 0, .slice none 0 0] rfl rfl HZ.out rfl (by kernel_rfl) (by intro u hu; simp only [List.mem_cons, List.not_mem_nil, or_false] at hu; rcases hu with rfl | rfl | rfl | rfl | rfl | rfl | rfl | rfl | rfl | rfl | rfl | rfl <;> rfl) ?_
     intro w3 hz3 ho3
     have HZ3 := Lib.hid hz3
     have HBn := Lib.hid (onlyBelow HBn.out ho3 HGE.out (Nat.le_refl _))
     refine hK.out _ _ ?_ (fun hHeld => ?_)
     · (try dsimp only); exact HK8.out _ (bel2M HBF.out HBn.out)
     clear hK K
     (try simp only [Act.put, sA, sB, sC])
     refine wpAnyH_ready (rs := [12]) (by kernel_rfl) (by simp) ?_
     refine AllReadyH.cons (o := ?o20) ?g20 (fun K hK => ?j20) AllReadyH.nil
     case g20 => (simp only [gA, gB, gC]; rfl)
     go_simp
     refine hK.out _ _ ?_ (fun hHeld => ?_)
     · (try dsimp only); exact HK8.out _ (bel2M HBF.out HBn.out)
     clear hK K
     (try simp only [Act.put, sA, sB, sC])
     refine wpAnyH_done (by kernel_rfl) ?_ _
     go_wp2_with fail
     go_meet
     exact ⟨bk, P, rfl, rfl, HZ3.out, HBn.out⟩
  case rest =>
  obtain ⟨b7, P7, rfl, rfl, hb7, hB7⟩ := hcut
  have HBF := Lib.hid hB7
  have HQ7 := Lib.hid hb7
  clear hb7 hB7 HP1
  generalize wc = wG at *
  go_upto_region 9 with fail
  go_cut [9, 10] from 58 to 66 (fun sb se wx => ∃ bb PP, sb = .pointer (some ⟨bb, 0, none⟩) ∧ se = .int .i64 32 ∧ wx.heap[bb]? = some (.cells (msC xz PP) 46 (0, 0)) ∧ Below wG.heap.size wG wx)
  case first =>
    have HBn := Lib.hid (show Below wG.heap.size wG wG.drew from (Below.refl _ _).drew)
    refine wp_region_held_drew (S := (fun W => Below wF.heap.size wF W ∧ W.cell? ⟨w1.heap.size, 0, none⟩ = some (.pointer (some ⟨g, 0, none⟩)) ∧ W.cell? ⟨w6.heap.size, 0, none⟩ = some (.int .i64 0) ∧ W.cell? ⟨w6.heap.size, 1, none⟩ = some (.slice A2 n2 c2))) (by kernel_rfl) (HK8.out _ (bel2M HBF.out HBn.out)) (fun hHeld => ?_)
    refine tk 0 ?_
    (try simp only [Act.put, sA, sB, sC])
    refine tk 1 ?_
    (try simp only [Act.put, sA, sB, sC])
    refine tk 2 ?_
    (try simp only [Act.put, sA, sB, sC])
    refine tk 3 ?_
    (try simp only [Act.put, sA, sB, sC])
    refine tk 4 ?_
    (try simp only [Act.put, sA, sB, sC])
    refine tk 5 ?_
    (try simp only [Act.put, sA, sB, sC])
    refine wpAnyH_ready (rs := [6, 10]) (by kernel_rfl) (by simp) ?_
    refine AllReadyH.cons (o := ?o27) ?g27 (fun K hK => ?j27) (AllReadyH.cons (o := ?o28) ?g28 (fun K hK => ?j28) AllReadyH.nil)
    case g27 => (simp only [gA, gB, gC]; rfl)
    case g28 => (simp only [gA, gB, gC]; rfl)
    ·
     go_simp
     (go_at_call 19; refine (HP2.out _ (bel2M HBF.out HBn.out)).mono ?_)
     rintro e w2 ⟨P, rfl, hk, hb⟩
     have HBn := Lib.hid (bel2M HBn.out hb)
     refine hK.out _ _ ?_ (fun hHeld => ?_)
     · (try dsimp only); exact HK8.out _ (bel2M HBF.out HBn.out)
     clear hK K
     (try simp only [Act.put, sA, sB, sC])
     refine tk 7 ?_
     (try simp only [Act.put, sA, sB, sC])
     refine tk 8 ?_
     (try simp only [Act.put, sA, sB, sC])
     refine tk 9 ?_
     (try simp only [Act.put, sA, sB, sC])
     refine wpAnyH_ready (rs := [10]) (by kernel_rfl) (by simp) ?_
     refine AllReadyH.cons (o := ?o32) ?g32 (fun K hK => ?j32) AllReadyH.nil
     case g32 => (simp only [gA, gB, gC]; rfl)
     refine step_alloc rfl 46 rfl #[.int .i64 0, .int .i64 0, .int .i64 0, .int .i64 0, .int .i64 0, .string ⟨#[]⟩, .slice none 0 0, .int .i64 0, .int .i64 0, .slice none 0 0, .slice none 0 0, .slice none 0 0] 46 (fun W => by go_simp) ?_
     intro bk wk hz hbk hge
     have HZ := Lib.hid hz
     have HGE := Lib.hid (Nat.le_trans HBn.out.size hge)
     have HBn := Lib.hid (bel2M HBn.out hbk)
     refine hK.out _ _ ?_ (fun hHeld => ?_)
     · (try dsimp only); exact HK8.out _ (bel2M HBF.out HBn.out)
     clear hK K
     (try simp only [Act.put, sA, sB, sC])
     refine wpAnyH_ready (rs := [11]) (by kernel_rfl) (by simp) ?_
     refine AllReadyH.cons (o := ?o33) ?g33 (fun K hK => ?j33) AllReadyH.nil
     case g33 => (simp only [gA, gB, gC]; rfl)
     refine step_store rfl 46 (.tmp 9) (.tmp 65) rfl bk #[.int .i64 xz.k, .int .i64 xz.v, .int .i64 xz.s, .int .i64 xz.c, .int .i64 xz.t, .string (strB xz.d), .slice P.x.1 xz.x.length P.x.2, .int .i64 xz.r.1, .int .i64 xz.r.2, .slice P.b.1 xz.b.length P.b.2, .slice P.p.1 xz.p.length P.p.2, .slice P.q.1 xz.q.length P.q.2] #[.int .i64 0, .int .i64 0, .int .i64 0, .int .i64 0, .int .i64 0, .string ⟨#[]⟩, .slice none 0 0, .int .i64 0, .int .i64 0, .slice none 0 0, .slice none 0 0, .slice none 0 0] rfl rfl HZ.out rfl (by kernel_rfl) (by intro u hu; simp only [List.mem_cons, List.not_mem_nil, or_false] at hu; rcases hu with rfl | rfl | rfl | rfl | rfl | rfl | rfl | rfl | rfl | rfl | rfl | rfl <;> rfl) ?_
     intro w3 hz3 ho3
     have HZ3 := Lib.hid hz3
     have HBn := Lib.hid (onlyBelow HBn.out ho3 HGE.out (Nat.le_refl _))
     refine hK.out _ _ ?_ (fun hHeld => ?_)
     · (try dsimp only); exact HK8.out _ (bel2M HBF.out HBn.out)
     clear hK K
     (try simp only [Act.put, sA, sB, sC])
     refine wpAnyH_ready (rs := [12]) (by kernel_rfl) (by simp) ?_
     refine AllReadyH.cons (o := ?o34) ?g34 (fun K hK => ?j34) AllReadyH.nil
     case g34 => (simp only [gA, gB, gC]; rfl)
     go_simp
     refine hK.out _ _ ?_ (fun hHeld => ?_)
     · (try dsimp only); exact HK8.out _ (bel2M HBF.out HBn.out)
     clear hK K
     (try simp only [Act.put, sA, sB, sC])
     refine wpAnyH_done (by kernel_rfl) ?_ _
     go_wp2_with fail
     go_meet
     exact ⟨bk, P, rfl, rfl, HZ3.out, HBn.out⟩
    ·
     refine step_alloc rfl 46 rfl #[.int .i64 0, .int .i64 0, .int .i64 0, .int .i64 0, .int .i64 0, .string ⟨#[]⟩, .slice none 0 0, .int .i64 0, .int .i64 0, .slice none 0 0, .slice none 0 0, .slice none 0 0] 46 (fun W => by go_simp) ?_
     intro bk wk hz hbk hge
     have HZ := Lib.hid hz
     have HGE := Lib.hid (Nat.le_trans HBn.out.size hge)
     have HBn := Lib.hid (bel2M HBn.out hbk)
     refine hK.out _ _ ?_ (fun hHeld => ?_)
     · (try dsimp only); exact HK8.out _ (bel2M HBF.out HBn.out)
     clear hK K
     (try simp only [Act.put, sA, sB, sC])
     refine wpAnyH_ready (rs := [6]) (by kernel_rfl) (by simp) ?_
     refine AllReadyH.cons (o := ?o35) ?g35 (fun K hK => ?j35) AllReadyH.nil
     case g35 => (simp only [gA, gB, gC]; rfl)
     go_simp
     (go_at_call 19; refine (HP2.out _ (bel2M HBF.out HBn.out)).mono ?_)
     rintro e w2 ⟨P, rfl, hk, hb⟩
     have HBn := Lib.hid (bel2M HBn.out hb)
     have HZ := Lib.hid (heapB HZ.out hb)
     refine hK.out _ _ ?_ (fun hHeld => ?_)
     · (try dsimp only); exact HK8.out _ (bel2M HBF.out HBn.out)
     clear hK K
     (try simp only [Act.put, sA, sB, sC])
     refine tk 7 ?_
     (try simp only [Act.put, sA, sB, sC])
     refine tk 8 ?_
     (try simp only [Act.put, sA, sB, sC])
     refine tk 9 ?_
     (try simp only [Act.put, sA, sB, sC])
     refine wpAnyH_ready (rs := [11]) (by kernel_rfl) (by simp) ?_
     refine AllReadyH.cons (o := ?o39) ?g39 (fun K hK => ?j39) AllReadyH.nil
     case g39 => (simp only [gA, gB, gC]; rfl)
     refine step_store rfl 46 (.tmp 9) (.tmp 65) rfl bk #[.int .i64 xz.k, .int .i64 xz.v, .int .i64 xz.s, .int .i64 xz.c, .int .i64 xz.t, .string (strB xz.d), .slice P.x.1 xz.x.length P.x.2, .int .i64 xz.r.1, .int .i64 xz.r.2, .slice P.b.1 xz.b.length P.b.2, .slice P.p.1 xz.p.length P.p.2, .slice P.q.1 xz.q.length P.q.2] #[.int .i64 0, .int .i64 0, .int .i64 0, .int .i64 0, .int .i64 0, .string ⟨#[]⟩, .slice none 0 0, .int .i64 0, .int .i64 0, .slice none 0 0, .slice none 0 0, .slice none 0 0] rfl rfl HZ.out rfl (by kernel_rfl) (by intro u hu; simp only [List.mem_cons, List.not_mem_nil, or_false] at hu; rcases hu with rfl | rfl | rfl | rfl | rfl | rfl | rfl | rfl | rfl | rfl | rfl | rfl <;> rfl) ?_
     intro w3 hz3 ho3
     have HZ3 := Lib.hid hz3
     have HBn := Lib.hid (onlyBelow HBn.out ho3 HGE.out (Nat.le_refl _))
     refine hK.out _ _ ?_ (fun hHeld => ?_)
     · (try dsimp only); exact HK8.out _ (bel2M HBF.out HBn.out)
     clear hK K
     (try simp only [Act.put, sA, sB, sC])
     refine wpAnyH_ready (rs := [12]) (by kernel_rfl) (by simp) ?_
     refine AllReadyH.cons (o := ?o40) ?g40 (fun K hK => ?j40) AllReadyH.nil
     case g40 => (simp only [gA, gB, gC]; rfl)
     go_simp
     refine hK.out _ _ ?_ (fun hHeld => ?_)
     · (try dsimp only); exact HK8.out _ (bel2M HBF.out HBn.out)
     clear hK K
     (try simp only [Act.put, sA, sB, sC])
     refine wpAnyH_done (by kernel_rfl) ?_ _
     go_wp2_with fail
     go_meet
     exact ⟨bk, P, rfl, rfl, HZ3.out, HBn.out⟩
  case rest =>
  obtain ⟨b9, P9, rfl, rfl, -, hB9⟩ := hcut
  have HBF := Lib.hid (bel2M HBF.out hB9)
  have HQ7 := Lib.hid (heapB HQ7.out hB9)
  clear hB9 HP2
  generalize wc = wH at *
  go_upto_region 10 with fail
  go_cut [11, 12] from 68 to 81 (fun sb se wx => ∃ bb PP, sb = .pointer (some ⟨bb, 0, none⟩) ∧ se = .int .i64 33 ∧ wx.heap[bb]? = some (.cells (msC xz PP) 46 (0, 0)) ∧ Below wH.heap.size wH wx)
  case first =>
    have HBn := Lib.hid (show Below wH.heap.size wH wH.drew from (Below.refl _ _).drew)
    have HK10 := Lib.hid (show ∀ W, Below wF.heap.size wF W → (fun W => Below wF.heap.size wF W ∧ W.cell? ⟨w1.heap.size, 0, none⟩ = some (.pointer (some ⟨g, 0, none⟩)) ∧ W.cell? ⟨w6.heap.size, 0, none⟩ = some (.int .i64 0) ∧ W.cell? ⟨w6.heap.size, 1, none⟩ = some (.slice A2 n2 c2) ∧ W.cell? ⟨br, 2, none⟩ = some (.int .i64 1) ∧ W.cell? ⟨br, 3, none⟩ = some (.slice A4 n3 c4)) W from fun W h => ⟨h, cellB (rowCell HXF.out.at_ 0 _ rfl) h, cellB (rowCell HE2F.out.at_ 0 _ rfl) h, cellB (rowCell HE2F.out.at_ 1 _ rfl) h, cellB (rowCell HR5.out.at_ 2 _ rfl) h, cellB (rowCell HR5.out.at_ 3 _ rfl) h⟩)
    refine wp_region_held_drew (S := (fun W => Below wF.heap.size wF W ∧ W.cell? ⟨w1.heap.size, 0, none⟩ = some (.pointer (some ⟨g, 0, none⟩)) ∧ W.cell? ⟨w6.heap.size, 0, none⟩ = some (.int .i64 0) ∧ W.cell? ⟨w6.heap.size, 1, none⟩ = some (.slice A2 n2 c2) ∧ W.cell? ⟨br, 2, none⟩ = some (.int .i64 1) ∧ W.cell? ⟨br, 3, none⟩ = some (.slice A4 n3 c4))) (by kernel_rfl) (HK10.out _ (bel2M HBF.out HBn.out)) (fun hHeld => ?_)
    refine tk 0 ?_
    (try simp only [Act.put, sA, sB, sC])
    refine tk 1 ?_
    (try simp only [Act.put, sA, sB, sC])
    refine tk 2 ?_
    (try simp only [Act.put, sA, sB, sC])
    refine tk 3 ?_
    (try simp only [Act.put, sA, sB, sC])
    refine tk 4 ?_
    (try simp only [Act.put, sA, sB, sC])
    refine tk 5 ?_
    (try simp only [Act.put, sA, sB, sC])
    refine tk 6 ?_
    (try simp only [Act.put, sA, sB, sC])
    refine tk 7 ?_
    (try simp only [Act.put, sA, sB, sC])
    refine tk 8 ?_
    (try simp only [Act.put, sA, sB, sC])
    refine wpAnyH_ready (rs := [9, 15]) (by kernel_rfl) (by simp) ?_
    refine AllReadyH.cons (o := ?o50) ?g50 (fun K hK => ?j50) (AllReadyH.cons (o := ?o51) ?g51 (fun K hK => ?j51) AllReadyH.nil)
    case g50 => (simp only [gA, gB, gC]; rfl)
    case g51 => (simp only [gA, gB, gC]; rfl)
    ·
     go_simp
     refine hK.out _ _ ?_ (fun hHeld => ?_)
     · (try dsimp only); (have HBr := Lib.hid (bel2M HBn.out (alloc1B wH.drew (.cells #[.int .i64 1, .slice A4 n3 c4, .int .i64 1, .slice A4 n3 c4] 35)))); exact HK10.out _ (bel2M HBF.out HBr.out)
     clear hK K
     (try simp only [Act.put, sA, sB, sC])
     have HRW := Lib.hid (heap_alloc_new wH.drew (.cells #[.int .i64 1, .slice A4 n3 c4, .int .i64 1, .slice A4 n3 c4] 35))
     replace HBn := Lib.hid (bel2M HBn.out (alloc1B wH.drew (.cells #[.int .i64 1, .slice A4 n3 c4, .int .i64 1, .slice A4 n3 c4] 35)))
     refine tk 10 ?_
     (try simp only [Act.put, sA, sB, sC])
     refine wpAnyH_ready (rs := [11, 15]) (by kernel_rfl) (by simp) ?_
     refine AllReadyH.cons (o := ?o53) ?g53 (fun K hK => ?j53) (AllReadyH.cons (o := ?o54) ?g54 (fun K hK => ?j54) AllReadyH.nil)
     case g53 => (simp only [gA, gB, gC]; rfl)
     case g54 => (simp only [gA, gB, gC]; rfl)
     ·
      go_simp
      (go_at_call 19; refine (HP3.out _ _ (bel2M HBF.out HBn.out) HRW.out).mono ?_)
      rintro e w2 ⟨P, rfl, hk, hb⟩
      have HBn := Lib.hid (bel2M HBn.out hb)
      refine hK.out _ _ ?_ (fun hHeld => ?_)
      · (try dsimp only); exact HK10.out _ (bel2M HBF.out HBn.out)
      clear hK K
      (try simp only [Act.put, sA, sB, sC])
      refine tk 12 ?_
      (try simp only [Act.put, sA, sB, sC])
      refine tk 13 ?_
      (try simp only [Act.put, sA, sB, sC])
      refine tk 14 ?_
      (try simp only [Act.put, sA, sB, sC])
      refine wpAnyH_ready (rs := [15]) (by kernel_rfl) (by simp) ?_
      refine AllReadyH.cons (o := ?o58) ?g58 (fun K hK => ?j58) AllReadyH.nil
      case g58 => (simp only [gA, gB, gC]; rfl)
      refine step_alloc rfl 46 rfl #[.int .i64 0, .int .i64 0, .int .i64 0, .int .i64 0, .int .i64 0, .string ⟨#[]⟩, .slice none 0 0, .int .i64 0, .int .i64 0, .slice none 0 0, .slice none 0 0, .slice none 0 0] 46 (fun W => by go_simp) ?_
      intro bk wk hz hbk hge
      have HZ := Lib.hid hz
      have HGE := Lib.hid (Nat.le_trans HBn.out.size hge)
      have HBn := Lib.hid (bel2M HBn.out hbk)
      refine hK.out _ _ ?_ (fun hHeld => ?_)
      · (try dsimp only); exact HK10.out _ (bel2M HBF.out HBn.out)
      clear hK K
      (try simp only [Act.put, sA, sB, sC])
      refine wpAnyH_ready (rs := [16]) (by kernel_rfl) (by simp) ?_
      refine AllReadyH.cons (o := ?o59) ?g59 (fun K hK => ?j59) AllReadyH.nil
      case g59 => (simp only [gA, gB, gC]; rfl)
      refine step_store rfl 46 (.tmp 11) (.tmp 80) rfl bk #[.int .i64 xz.k, .int .i64 xz.v, .int .i64 xz.s, .int .i64 xz.c, .int .i64 xz.t, .string (strB xz.d), .slice P.x.1 xz.x.length P.x.2, .int .i64 xz.r.1, .int .i64 xz.r.2, .slice P.b.1 xz.b.length P.b.2, .slice P.p.1 xz.p.length P.p.2, .slice P.q.1 xz.q.length P.q.2] #[.int .i64 0, .int .i64 0, .int .i64 0, .int .i64 0, .int .i64 0, .string ⟨#[]⟩, .slice none 0 0, .int .i64 0, .int .i64 0, .slice none 0 0, .slice none 0 0, .slice none 0 0] rfl rfl HZ.out rfl (by kernel_rfl) (by intro u hu; simp only [List.mem_cons, List.not_mem_nil, or_false] at hu; rcases hu with rfl | rfl | rfl | rfl | rfl | rfl | rfl | rfl | rfl | rfl | rfl | rfl <;> rfl) ?_
      intro w3 hz3 ho3
      have HZ3 := Lib.hid hz3
      have HBn := Lib.hid (onlyBelow HBn.out ho3 HGE.out (Nat.le_refl _))
      refine hK.out _ _ ?_ (fun hHeld => ?_)
      · (try dsimp only); exact HK10.out _ (bel2M HBF.out HBn.out)
      clear hK K
      (try simp only [Act.put, sA, sB, sC])
      refine wpAnyH_ready (rs := [17]) (by kernel_rfl) (by simp) ?_
      refine AllReadyH.cons (o := ?o60) ?g60 (fun K hK => ?j60) AllReadyH.nil
      case g60 => (simp only [gA, gB, gC]; rfl)
      go_simp
      refine hK.out _ _ ?_ (fun hHeld => ?_)
      · (try dsimp only); exact HK10.out _ (bel2M HBF.out HBn.out)
      clear hK K
      (try simp only [Act.put, sA, sB, sC])
      refine wpAnyH_done (by kernel_rfl) ?_ _
      go_wp2_with fail
      go_meet
      exact ⟨bk, P, rfl, rfl, HZ3.out, HBn.out⟩
     ·
      refine step_alloc rfl 46 rfl #[.int .i64 0, .int .i64 0, .int .i64 0, .int .i64 0, .int .i64 0, .string ⟨#[]⟩, .slice none 0 0, .int .i64 0, .int .i64 0, .slice none 0 0, .slice none 0 0, .slice none 0 0] 46 (fun W => by go_simp) ?_
      intro bk wk hz hbk hge
      have HZ := Lib.hid hz
      have HGE := Lib.hid (Nat.le_trans HBn.out.size hge)
      have HBn := Lib.hid (bel2M HBn.out hbk)
      have HRW := Lib.hid (heapB HRW.out hbk)
      refine hK.out _ _ ?_ (fun hHeld => ?_)
      · (try dsimp only); exact HK10.out _ (bel2M HBF.out HBn.out)
      clear hK K
      (try simp only [Act.put, sA, sB, sC])
      refine wpAnyH_ready (rs := [11]) (by kernel_rfl) (by simp) ?_
      refine AllReadyH.cons (o := ?o61) ?g61 (fun K hK => ?j61) AllReadyH.nil
      case g61 => (simp only [gA, gB, gC]; rfl)
      go_simp
      (go_at_call 19; refine (HP3.out _ _ (bel2M HBF.out HBn.out) HRW.out).mono ?_)
      rintro e w2 ⟨P, rfl, hk, hb⟩
      have HBn := Lib.hid (bel2M HBn.out hb)
      have HZ := Lib.hid (heapB HZ.out hb)
      refine hK.out _ _ ?_ (fun hHeld => ?_)
      · (try dsimp only); exact HK10.out _ (bel2M HBF.out HBn.out)
      clear hK K
      (try simp only [Act.put, sA, sB, sC])
      refine tk 12 ?_
      (try simp only [Act.put, sA, sB, sC])
      refine tk 13 ?_
      (try simp only [Act.put, sA, sB, sC])
      refine tk 14 ?_
      (try simp only [Act.put, sA, sB, sC])
      refine wpAnyH_ready (rs := [16]) (by kernel_rfl) (by simp) ?_
      refine AllReadyH.cons (o := ?o65) ?g65 (fun K hK => ?j65) AllReadyH.nil
      case g65 => (simp only [gA, gB, gC]; rfl)
      refine step_store rfl 46 (.tmp 11) (.tmp 80) rfl bk #[.int .i64 xz.k, .int .i64 xz.v, .int .i64 xz.s, .int .i64 xz.c, .int .i64 xz.t, .string (strB xz.d), .slice P.x.1 xz.x.length P.x.2, .int .i64 xz.r.1, .int .i64 xz.r.2, .slice P.b.1 xz.b.length P.b.2, .slice P.p.1 xz.p.length P.p.2, .slice P.q.1 xz.q.length P.q.2] #[.int .i64 0, .int .i64 0, .int .i64 0, .int .i64 0, .int .i64 0, .string ⟨#[]⟩, .slice none 0 0, .int .i64 0, .int .i64 0, .slice none 0 0, .slice none 0 0, .slice none 0 0] rfl rfl HZ.out rfl (by kernel_rfl) (by intro u hu; simp only [List.mem_cons, List.not_mem_nil, or_false] at hu; rcases hu with rfl | rfl | rfl | rfl | rfl | rfl | rfl | rfl | rfl | rfl | rfl | rfl <;> rfl) ?_
      intro w3 hz3 ho3
      have HZ3 := Lib.hid hz3
      have HBn := Lib.hid (onlyBelow HBn.out ho3 HGE.out (Nat.le_refl _))
      refine hK.out _ _ ?_ (fun hHeld => ?_)
      · (try dsimp only); exact HK10.out _ (bel2M HBF.out HBn.out)
      clear hK K
      (try simp only [Act.put, sA, sB, sC])
      refine wpAnyH_ready (rs := [17]) (by kernel_rfl) (by simp) ?_
      refine AllReadyH.cons (o := ?o66) ?g66 (fun K hK => ?j66) AllReadyH.nil
      case g66 => (simp only [gA, gB, gC]; rfl)
      go_simp
      refine hK.out _ _ ?_ (fun hHeld => ?_)
      · (try dsimp only); exact HK10.out _ (bel2M HBF.out HBn.out)
      clear hK K
      (try simp only [Act.put, sA, sB, sC])
      refine wpAnyH_done (by kernel_rfl) ?_ _
      go_wp2_with fail
      go_meet
      exact ⟨bk, P, rfl, rfl, HZ3.out, HBn.out⟩
    ·
     refine step_alloc rfl 46 rfl #[.int .i64 0, .int .i64 0, .int .i64 0, .int .i64 0, .int .i64 0, .string ⟨#[]⟩, .slice none 0 0, .int .i64 0, .int .i64 0, .slice none 0 0, .slice none 0 0, .slice none 0 0] 46 (fun W => by go_simp) ?_
     intro bk wk hz hbk hge
     have HZ := Lib.hid hz
     have HGE := Lib.hid (Nat.le_trans HBn.out.size hge)
     have HBn := Lib.hid (bel2M HBn.out hbk)
     refine hK.out _ _ ?_ (fun hHeld => ?_)
     · (try dsimp only); exact HK10.out _ (bel2M HBF.out HBn.out)
     clear hK K
     (try simp only [Act.put, sA, sB, sC])
     refine wpAnyH_ready (rs := [9]) (by kernel_rfl) (by simp) ?_
     refine AllReadyH.cons (o := ?o67) ?g67 (fun K hK => ?j67) AllReadyH.nil
     case g67 => (simp only [gA, gB, gC]; rfl)
     go_simp
     refine hK.out _ _ ?_ (fun hHeld => ?_)
     · (try dsimp only); (have HBr := Lib.hid (bel2M HBn.out (alloc1B wk (.cells #[.int .i64 1, .slice A4 n3 c4, .int .i64 1, .slice A4 n3 c4] 35)))); exact HK10.out _ (bel2M HBF.out HBr.out)
     clear hK K
     (try simp only [Act.put, sA, sB, sC])
     have HRW := Lib.hid (heap_alloc_new wk (.cells #[.int .i64 1, .slice A4 n3 c4, .int .i64 1, .slice A4 n3 c4] 35))
     have HZ := Lib.hid (heapB HZ.out (alloc1B wk (.cells #[.int .i64 1, .slice A4 n3 c4, .int .i64 1, .slice A4 n3 c4] 35)))
     replace HBn := Lib.hid (bel2M HBn.out (alloc1B wk (.cells #[.int .i64 1, .slice A4 n3 c4, .int .i64 1, .slice A4 n3 c4] 35)))
     refine tk 10 ?_
     (try simp only [Act.put, sA, sB, sC])
     refine wpAnyH_ready (rs := [11]) (by kernel_rfl) (by simp) ?_
     refine AllReadyH.cons (o := ?o69) ?g69 (fun K hK => ?j69) AllReadyH.nil
     case g69 => (simp only [gA, gB, gC]; rfl)
     go_simp
     (go_at_call 19; refine (HP3.out _ _ (bel2M HBF.out HBn.out) HRW.out).mono ?_)
     rintro e w2 ⟨P, rfl, hk, hb⟩
     have HBn := Lib.hid (bel2M HBn.out hb)
     have HZ := Lib.hid (heapB HZ.out hb)
     refine hK.out _ _ ?_ (fun hHeld => ?_)
     · (try dsimp only); exact HK10.out _ (bel2M HBF.out HBn.out)
     clear hK K
     (try simp only [Act.put, sA, sB, sC])
     refine tk 12 ?_
     (try simp only [Act.put, sA, sB, sC])
     refine tk 13 ?_
     (try simp only [Act.put, sA, sB, sC])
     refine tk 14 ?_
     (try simp only [Act.put, sA, sB, sC])
     refine wpAnyH_ready (rs := [16]) (by kernel_rfl) (by simp) ?_
     refine AllReadyH.cons (o := ?o73) ?g73 (fun K hK => ?j73) AllReadyH.nil
     case g73 => (simp only [gA, gB, gC]; rfl)
     refine step_store rfl 46 (.tmp 11) (.tmp 80) rfl bk #[.int .i64 xz.k, .int .i64 xz.v, .int .i64 xz.s, .int .i64 xz.c, .int .i64 xz.t, .string (strB xz.d), .slice P.x.1 xz.x.length P.x.2, .int .i64 xz.r.1, .int .i64 xz.r.2, .slice P.b.1 xz.b.length P.b.2, .slice P.p.1 xz.p.length P.p.2, .slice P.q.1 xz.q.length P.q.2] #[.int .i64 0, .int .i64 0, .int .i64 0, .int .i64 0, .int .i64 0, .string ⟨#[]⟩, .slice none 0 0, .int .i64 0, .int .i64 0, .slice none 0 0, .slice none 0 0, .slice none 0 0] rfl rfl HZ.out rfl (by kernel_rfl) (by intro u hu; simp only [List.mem_cons, List.not_mem_nil, or_false] at hu; rcases hu with rfl | rfl | rfl | rfl | rfl | rfl | rfl | rfl | rfl | rfl | rfl | rfl <;> rfl) ?_
     intro w3 hz3 ho3
     have HZ3 := Lib.hid hz3
     have HBn := Lib.hid (onlyBelow HBn.out ho3 HGE.out (Nat.le_refl _))
     refine hK.out _ _ ?_ (fun hHeld => ?_)
     · (try dsimp only); exact HK10.out _ (bel2M HBF.out HBn.out)
     clear hK K
     (try simp only [Act.put, sA, sB, sC])
     refine wpAnyH_ready (rs := [17]) (by kernel_rfl) (by simp) ?_
     refine AllReadyH.cons (o := ?o74) ?g74 (fun K hK => ?j74) AllReadyH.nil
     case g74 => (simp only [gA, gB, gC]; rfl)
     go_simp
     refine hK.out _ _ ?_ (fun hHeld => ?_)
     · (try dsimp only); exact HK10.out _ (bel2M HBF.out HBn.out)
     clear hK K
     (try simp only [Act.put, sA, sB, sC])
     refine wpAnyH_done (by kernel_rfl) ?_ _
     go_wp2_with fail
     go_meet
     exact ⟨bk, P, rfl, rfl, HZ3.out, HBn.out⟩
  case rest =>
  obtain ⟨b11, P11, rfl, rfl, -, hB11⟩ := hcut
  have HBF := Lib.hid (bel2M HBF.out hB11)
  have HQ7 := Lib.hid (heapB HQ7.out hB11)
  clear hB11 HP3
  generalize wc = wI at *
  obtain ⟨-, k0, k1, k2⟩ := HK8.out _ HBF.out
  go_wp2_with (first
    | (go_at_call 19; go_loud (refine (HP4.out _ HBF.out).mono ?_; rintro e w11 ⟨P4, rfl, hk4, hb⟩; have HBN := Lib.hid (bel2M (bel2M HBF.out hb) (alloc1B w11 (.cells (msC xz P4) 46))); have HQ7 := Lib.hid (heapB (heapB HQ7.out hb) (alloc1B w11 (.cells (msC xz P4) 46))); obtain ⟨-, k0, -, -⟩ := HK8.out _ HBN.out; have j0 := cellB (rowCell HE1F.out.at_ 0 (.int .i64 1000) rfl) HBN.out; have j1 := cellB (rowCell HE1F.out.at_ 1 (.slice A1 n1 c1) rfl) HBN.out; clear hb hk4))
    | (go_at_call 50; go_loud (refine (HRQ.out _ HBN.out).mono ?_; rintro e w12 ⟨A6, c6, rfl, hk6, hb⟩; have HBO := Lib.hid (bel2M (bel2M HBN.out hb) (alloc1B w12 (.cells #[.int .i64 1000, .int .i64 1, .slice A6 2 c6] 102))); have HQ7 := Lib.hid (heapB (heapB HQ7.out hb) (alloc1B w12 (.cells #[.int .i64 1000, .int .i64 1, .slice A6 2 c6] 102))); have s7 := rowCell HQ7.out 2 (.int .i64 xm.s) rfl; rw [HXS.out] at s7; have i1 := rowCell (heap_alloc_new w12 (.cells #[.int .i64 1000, .int .i64 1, .slice A6 2 c6] 102)) 1 (.int .i64 1) rfl; have i2 := rowCell (heap_alloc_new w12 (.cells #[.int .i64 1000, .int .i64 1, .slice A6 2 c6] 102)) 2 (.slice A6 2 c6) rfl; have hst : (convert 33 9 (.slice A6 2 c6)).run Tryz.prog (w12.alloc (.cells #[.int .i64 1000, .int .i64 1, .slice A6 2 c6] 102)) = .ok (.string ⟨#[111, 112]⟩) (w12.alloc (.cells #[.int .i64 1000, .int .i64 1, .slice A6 2 c6] 102)) := run_str (hk6 _ (kpb_below (alloc1B w12 (.cells #[.int .i64 1000, .int .i64 1, .slice A6 2 c6] 102)))); clear hb hk6)))
  go_ret
  exact ⟨rfl, bel2M HBF0.out HBO.out⟩

end Go.Proofs.YticfnjihjpgneaaGreat
