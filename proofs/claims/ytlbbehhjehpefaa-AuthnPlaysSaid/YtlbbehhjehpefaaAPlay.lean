/- Layer 3: AuthnPlays: what stands in memory from deed to deed. -/
import Derived.Test.YtlbbehhjehpefaaALaw7
namespace Go.Proofs.Ytlbbehhjehpefaa
open Go.RowKit
set_option linter.unusedVariables false

theorem Tab.keep {w w' : World} {b : Nat} {L : List (Int × List UInt8)} (h : Tab w b L) (hb : w'.heap[b]? = w.heap[b]?) : Tab w' b L := by
  obtain ⟨D, ⟨es, clock, h1, r⟩, h2, h3⟩ := h
  exact ⟨D, ⟨es, clock, hb.trans h1, r⟩, h2, h3⟩
theorem Au.keep {w w' : World} {g bm : Nat} {f c : Int} {L : List (Int × List UInt8)} (h : Au w g bm f c L) (hg : w'.heap[g]? = w.heap[g]?) (hb : w'.heap[bm]? = w.heap[bm]?) : Au w' g bm f c L :=
  ⟨⟨hg.trans h.1.1, h.1.2⟩, h.2.keep hb⟩
theorem Ev.keep {w w' : World} {h : Nat} {x y : Value} (he : Ev w h x y) (hh : w'.heap[h]? = w.heap[h]?) : Ev w' h x y := hh.trans he

/-- between two deeds: both authorities know the same pairs -/
structure PI (w wr : World) (g bm g2 : Nat) (f c : Int) (v : Value) (E : List Tri) : Prop where
  au : Au wr g bm f c (pairsT E)
  dt : DT wr g2 f c v E (fun j => w.heap.size ≤ j ∧ j ≠ g ∧ j ≠ bm)
  below : Below w.heap.size w wr
  at_g : w.heap.size ≤ g
  at_bm : w.heap.size ≤ bm
theorem PI.step {w wr W : World} {g bm g2 : Nat} {f c : Int} {v : Value} {E : List Tri} (h : PI w wr g bm g2 f c v E) (hb : Below wr.heap.size wr W) : PI w W g bm g2 f c v E :=
  ⟨h.au.below hb (Nat.le_refl _), h.dt.below hb, h.below.trans (hb.mono h.below.size), h.at_g, h.at_bm⟩

/-- behind both signings: the program's envelope e lies at he, its bytes in a row of its own -/
structure Aft (w wx : World) (g bm g2 : Nat) (f c : Int) (v : Value) (E : List Tri) (bv : Value) (l : List UInt8) (he : Nat) (sS : Value) (ve : Value) (B n : Nat) (xs : List Value) : Prop where
  au : Au wx g bm f c (pairsT E)
  dt : DT wx g2 f c v E (fun j => w.heap.size ≤ j ∧ j ≠ g ∧ j ≠ bm ∧ ve.ownBlock ≠ some j)
  body : Bs wx bv l
  own : wx.ownsRow B 5 1 ve n xs
  ev : Ev wx he sS ve
  below : Below w.heap.size w wx
  at_g : w.heap.size ≤ g
  at_bm : w.heap.size ≤ bm
  g_lt : g < B
  bm_lt : bm < B
  w_le : w.heap.size ≤ B
  body_lt : l ≠ [] → ∀ k, bv.ownBlock = some k → k < B

section
variable {w wx W : World} {g bm g2 : Nat} {f c : Int} {v : Value} {E : List Tri} {bv : Value} {l : List UInt8} {he : Nat} {sS ve : Value} {B n : Nat} {xs : List Value}
theorem Aft.step (h : Aft w wx g bm g2 f c v E bv l he sS ve B n xs) (hb : Below wx.heap.size wx W) : Aft w W g bm g2 f c v E bv l he sS ve B n xs where
  au := h.au.below hb (Nat.le_refl _)
  dt := h.dt.below hb
  body := h.body.below hb (Nat.le_refl _)
  own := own_below h.own hb
  ev := h.ev.below hb
  below := h.below.trans (hb.mono h.below.size)
  at_g := h.at_g
  at_bm := h.at_bm
  g_lt := h.g_lt
  bm_lt := h.bm_lt
  w_le := h.w_le
  body_lt := h.body_lt

theorem Aft.he_ne (h : Aft w wx g bm g2 f c v E bv l he sS ve B n xs) : ve.ownBlock ≠ some he := fun e => by
  obtain ⟨cs, fr, hk⟩ := own_ty h.own he e
  have h1 : wx.heap[he]? = some (.cells #[sS, ve] 40 (0, 0)) := h.ev
  rw [h1] at hk
  injection hk with hk
  injection hk with _ hk
  exact absurd hk (by decide)

/-- its bytes turn: nothing else does -/
theorem Aft.write (h : Aft w wx g bm g2 f c v E bv l he sS ve B n xs) (hg : wx.grownBy W ve.ownBlock) : PI w W g bm g2 f c v E ∧ Bs W bv l ∧ Ev W he sS ve := by
  have hB : ∀ k, ve.ownBlock = some k → B ≤ k := fun k hk => (h.own.lt k hk).1
  refine ⟨⟨⟨h.au.1.kept hg (fun e => ?_), h.au.2.kept hg (fun e => ?_)⟩, (h.dt.grown hg (fun k hk hS => hS.2.2.2 hk)).mono (fun k _ hk => ⟨hk.1, hk.2.1, hk.2.2.1⟩), h.below.grown hg h.below.size (fun k hk => Nat.le_trans h.w_le (hB k hk)), h.at_g, h.at_bm⟩,
    h.body.grown hg (fun hne k hk e => ?_), h.ev.kept hg (fun e => h.he_ne e.symm)⟩
  · have := hB g e.symm
    have := h.g_lt
    omega
  · have := hB bm e.symm
    have := h.bm_lt
    omega
  · have := hB k e
    have := h.body_lt hne k hk
    omega
end

/-- where the document's Sign may write -/
def S1 (w wr : World) (g bm N : Nat) : Nat → Prop := fun j => w.heap.size ≤ j ∧ j ≠ g ∧ j ≠ bm ∧ (j < wr.heap.size ∨ N ≤ j)

/-- behind the program's signing, its envelope laid down -/
structure Mid (w wr w2 w3 w4 : World) (g bm g2 : Nat) (f c : Int) (v : Value) (E : List Tri) (L : List (Int × List UInt8)) (bv : Value) (l : List UInt8) (sS ve : Value) (n : Nat) (xs : List Value) : Prop where
  au : Au w4 g bm f c L
  dt : DT w4 g2 f c v E (fun j => w.heap.size ≤ j ∧ j ≠ g ∧ j ≠ bm ∧ j < wr.heap.size)
  body : Bs w4 bv l
  own : w4.ownsRow w2.heap.size 5 1 ve n xs
  ev : Ev w4 w3.heap.size sS ve
  below : Below w.heap.size w w4
  at_g : w.heap.size ≤ g
  at_bm : w.heap.size ≤ bm
  g_lt : g < wr.heap.size
  bm_lt : bm < wr.heap.size
  s1 : w.heap.size ≤ wr.heap.size
  s2 : wr.heap.size ≤ w2.heap.size
  s3 : w2.heap.size ≤ w3.heap.size
  s4 : w4.heap.size = w3.heap.size + 1
  body_in : l ≠ [] → ∀ k, bv.ownBlock = some k → wr.heap.size ≤ k ∧ k < w2.heap.size

theorem Mid.mk' {w wr w2 w3 : World} {g bm g2 : Nat} {f c : Int} {v : Value} {E : List Tri} {L : List (Int × List UInt8)} {bv : Value} {l : List UInt8} {ve : Value} {n : Nat} {xs : List Value} (hPI : PI w wr g bm g2 f c v E) (hb2 : Below wr.heap.size wr w2)
    (hbody : Bs w2 bv l) (hnb : New wr.heap.size bv) (ho3 : w3.ownsRow w2.heap.size 5 1 ve n xs) (hA3 : Au w3 g bm f c L) (hg3 : w2.grownBy w3 (some bm)) (sS : Value) :
    Mid w wr w2 w3 (w3.alloc (.cells #[sS, ve] 40)) g bm g2 f c v E L bv l sS ve n xs := by
  have ha : Below w3.heap.size w3 (w3.alloc (.cells #[sS, ve] 40)) := (Below.refl _ _).alloc (Nat.le_refl _) _
  have hb0 := hPI.below
  have s2 := hb2.size
  have s3 := hg3.size
  obtain ⟨es, clk, hm⟩ := (hPI.au.below hb2 (Nat.le_refl _)).map
  have hB3 : Below w.heap.size w w3 := (hb0.trans (hb2.mono hb0.size)).grown hg3 (Nat.le_trans hb0.size s2) (fun k hk => by injection hk with hk; subst hk; exact hPI.at_bm)
  refine ⟨hA3.below ha (Nat.le_refl _), ?_, (hbody.besideMap hm hg3).below ha (Nat.le_refl _), own_below ho3 ha, heap_alloc_new _ _, hB3.trans (ha.mono hB3.size), hPI.at_g, hPI.at_bm, hPI.au.1.lt, hPI.au.2.lt, hb0.size, s2, s3, by simp, fun hne k hk => ⟨hnb k hk, hbody.lt hne k hk⟩⟩
  exact (((hPI.dt.mono (S' := fun j => w.heap.size ≤ j ∧ j ≠ g ∧ j ≠ bm ∧ j < wr.heap.size) (fun k hk h => ⟨h.1, h.2.1, h.2.2, hk⟩)).below hb2).grown hg3 (fun k hk hS => hS.2.2.1 (by injection hk with hk; exact hk.symm))).below ha

section
variable {w wr w2 w3 w4 W w5 Wc : World} {g bm g2 : Nat} {f c : Int} {v : Value} {E : List Tri} {L : List (Int × List UInt8)} {bv : Value} {l : List UInt8} {sS ve : Value} {n : Nat} {xs : List Value}
theorem Mid.dtW (h : Mid w wr w2 w3 w4 g bm g2 f c v E L bv l sS ve n xs) (hb : Below w4.heap.size w4 W) : DT W g2 f c v E (S1 w wr g bm W.heap.size) :=
  (h.dt.below hb).mono fun k _ hk => ⟨hk.1, hk.2.1, hk.2.2.1, .inl hk.2.2.2⟩
theorem Mid.sW (h : Mid w wr w2 w3 w4 g bm g2 f c v E L bv l sS ve n xs) (hb : Below w4.heap.size w4 W) : ∀ k, W.heap.size ≤ k → S1 w wr g bm W.heap.size k := fun k hk => by
  have := hb.size
  have := h.g_lt
  have := h.bm_lt
  have := h.s1
  have := h.s2
  have := h.s3
  have := h.s4
  exact ⟨by omega, by omega, by omega, .inr hk⟩

/-- behind both signings -/
theorem Mid.aft {v' : Value} {E' : List Tri} {row : Option Nat} (h : Mid w wr w2 w3 w4 g bm g2 f c v E L bv l sS ve n xs) (hb : Below w4.heap.size w4 W) (hD : DT w5 g2 f c v' E' (S1 w wr g bm W.heap.size)) (hp : pairsT E' = L)
    (ho : Off (S1 w wr g bm W.heap.size) W w5) (hg : w5.grownBy Wc row) (hrow : ∀ k, row = some k → w4.heap.size ≤ k ∧ k < W.heap.size) : Aft w Wc g bm g2 f c v' E' bv l w3.heap.size sS ve w2.heap.size n xs := by
  have s1 := h.s1
  have s2 := h.s2
  have s3 := h.s3
  have s4 := h.s4
  have s5 := hb.size
  have s6 := ho.size
  have s7 := hg.size
  have g_lt := h.g_lt
  have bm_lt := h.bm_lt
  have hkeep : ∀ k, k < w4.heap.size → ¬ S1 w wr g bm W.heap.size k → Wc.heap[k]? = w4.heap[k]? := fun k hk hn =>
    ((hg.block k (by omega) (fun e => by have := hrow k e.symm; omega)).trans (ho.block k (by omega) hn)).trans (hb.block k hk)
  have hmid : ∀ k, wr.heap.size ≤ k → k < W.heap.size → ¬ S1 w wr g bm W.heap.size k := fun k h1 h2 hS => by
    rcases hS.2.2.2 with h | h <;> omega
  refine ⟨?_, ?_, ?_, ?_, ?_, ?_, h.at_g, h.at_bm, by omega, by omega, by omega, fun hne k hk => (h.body_in hne k hk).2⟩
  · rw [hp]
    exact h.au.keep (hkeep g (by omega) (fun hS => hS.2.1 rfl)) (hkeep bm (by omega) (fun hS => hS.2.2.1 rfl))
  · refine (hD.grown hg (fun k hk hS => ?_)).mono fun k _ hS => ⟨hS.1, hS.2.1, hS.2.2.1, fun e => ?_⟩
    · have := hrow k hk
      exact hmid k (by omega) this.2 hS
    · have := h.own.lt k e
      exact hmid k (by omega) (by omega) hS
  · refine h.body.keep (by omega) fun hne k hk => ?_
    have := h.body_in hne k hk
    exact hkeep k (by omega) (hmid k this.1 (by omega))
  · refine own_keep h.own fun k hk => ?_
    have := h.own.lt k hk
    exact hkeep k (by omega) (hmid k (by omega) (by omega))
  · exact h.ev.keep (hkeep _ (by omega) (hmid _ (by omega) (by omega)))
  · have hb4 := h.below
    exact ⟨((hg.os.trans ho.os).trans hb.os).trans hb4.os, ((hg.tape.trans ho.tape).trans hb.tape).trans hb4.tape, ((hg.output.trans ho.output).trans hb.output).trans hb4.output, by omega, fun k hk => (hkeep k (by omega) (fun hS => by have := hS.1; omega)).trans (hb4.block k hk)⟩
end

/-- a byte of the row is written -/
theorem row_write {wq : World} {ge k : Nat} {cur : Array Value} {t : TypeId} (h : wq.heap[ge]? = some (.cells cur t (0, 0))) (hk : k < cur.size) (u : Value) :
    (∃ x, wq.cell? ⟨ge, k, none⟩ = some x) ∧ wq.frozen? ⟨ge, k, none⟩ = false ∧ ∃ cur', (wq.setCell ⟨ge, k, none⟩ u).heap[ge]? = some (.cells cur' t (0, 0)) ∧ cur'.size = cur.size := by
  refine ⟨⟨cur[k], ?_⟩, by simp [World.frozen?, h], ?_⟩
  · rw [cell_of_row wq ge k cur t (0, 0) h]
    exact Array.getElem?_eq_getElem hk
  · simp [World.setCell, Array.getElem?_modify, h]

/-- an owned row's block has room for it -/
theorem own_room {w : World} {B n : Nat} {e : TypeId} {v : Value} {xs : List Value} (h : w.ownsRow B e 1 v n xs) : ∀ ge, v.ownBlock = some ge → ∃ cur, w.heap[ge]? = some (.cells cur e (0, 0)) ∧ n ≤ cur.size := by
  intro ge hge
  rcases h.2 with ⟨rfl, -⟩ | ⟨g, cap, cur, rfl, -, hg, hnc, -, hcs, -⟩
  · cases hge
  · simp [Value.ownBlock] at hge
    subst hge
    exact ⟨cur, hg, by omega⟩

theorem pairsT_length (E : List Tri) : (pairsT E).length = E.length := by simp [pairsT]
end Go.Proofs.Ytlbbehhjehpefaa
