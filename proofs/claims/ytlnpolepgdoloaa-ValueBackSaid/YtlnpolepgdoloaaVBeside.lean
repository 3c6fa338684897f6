/- Layer 4: two readers beside one another; Get by the document, any. -/
import Derived.Test.YtlnpolepgdoloaaVRGet
namespace Go.Proofs.Ytlnpolepgdoloaa
open Go.RowKit
set_option linter.unusedVariables false
set_option linter.unusedSimpArgs false
set_option maxRecDepth 20000

/-- bytes do not lie in a block without bytes -/
theorem Bs.not_in {w : World} {N : Nat} {v : Value} {l : List UInt8} {cs : Array Value} {t : TypeId} {fr : Nat × Nat} (h : Bs w v l) (hN : w.heap[N]? = some (.cells cs t fr)) (hy : ∀ (j : Nat) (b : UInt8), cs[j]? ≠ some (bc b)) (hl : l ≠ []) : ∀ k, v.ownBlock = some k → k ≠ N := by
  obtain ⟨A, c, hv, hc, hm, hn, hx⟩ := h
  have hl' : l.map bc ≠ [] := by simpa using hl
  obtain ⟨ad, ha, hb, hr⟩ := hx hl'
  intro k hk e
  have hown : v.ownBlock = some ad.block := by rw [hv, ha]; rfl
  rw [hown] at hk
  injection hk with hk
  obtain ⟨b, l', rfl⟩ := List.exists_cons_of_ne_nil hl
  have h0 := hr 0 (bc b) rfl
  rw [Addr.add_zero'] at h0
  simp only [World.cell?, hk, e, hN] at h0
  split at h0
  · cases h0
  · exact hy _ b h0
theorem Bs.offC {w w' : World} {N : Nat} {v : Value} {l : List UInt8} {cs : Array Value} {t : TypeId} {fr : Nat × Nat} (h : Bs w v l) (ho : Only N w w') (hN : w.heap[N]? = some (.cells cs t fr)) (hy : ∀ (j : Nat) (b : UInt8), cs[j]? ≠ some (bc b)) : Bs w' v l :=
  h.offN ho (fun hl => h.not_in hN hy hl)
theorem Ty.offC {w w' : World} {N : Nat} {v : Value} {l : List UInt8} (h : Ty w v l) (ho : Only N w w') (hN : l ≠ [] → ∀ k, v.ownBlock = some k → k ≠ N) : Ty w' v l := by
  intro hl k hk
  obtain ⟨cs, fr, hg⟩ := h hl k hk
  exact ⟨cs, fr, (ho.block k (Array.getElem?_eq_some_iff.1 hg).1 (by intro e; injection e with e; exact hN hl k hk e)).trans hg⟩
theorem RdR.cells {w : World} {g : Nat} {rest : List UInt8} {err : Int} (h : RdR w g rest err) : ∃ cs, w.heap[g]? = some (.cells cs 77 (0, 0)) ∧ ∀ (j : Nat) (b : UInt8), cs[j]? ≠ some (bc b) := by
  obtain ⟨rv, hh, hb⟩ := h
  obtain ⟨A, c, rfl, -⟩ := hb.1.open
  exact ⟨_, hh, no_bytes _ _ _ _⟩
theorem RfS.cells {w : World} {g : Nat} {rest : List UInt8} {e : Int} (h : RfS w g rest e) : ∃ cs, w.heap[g]? = some (.cells cs 47 (0, 0)) ∧ ∀ (j : Nat) (b : UInt8), cs[j]? ≠ some (bc b) := by
  obtain ⟨bs, i, ⟨bv, hh, hb, -⟩, -⟩ := h
  obtain ⟨A, c, rfl, -⟩ := hb.1.open
  exact ⟨_, hh, no_bytes3 _ _ _ _ _⟩
/-- the document's reader is as it was where the program's has gone on -/
theorem RfS.offP {w w' : World} {N g : Nat} {rest r2 : List UInt8} {e e2 : Int} (h : RfS w g rest e) (hp : RdR w N r2 e2) (ho : Only N w w') (hne : g ≠ N) : RfS w' g rest e := by
  obtain ⟨cs, hN, hy⟩ := hp.cells
  have hgl := h.lt
  obtain ⟨bs, i, ⟨bv, hh, hb, h1, h2⟩, h3⟩ := h
  refine ⟨bs, i, ⟨bv, (ho.block g hgl (by intro e; injection e with e; exact hne e)).trans hh, ⟨hb.1.offC ho hN hy, hb.2.imp (fun t => t.offC ho (fun hl => hb.1.not_in hN hy hl)) id⟩, h1, h2⟩, h3⟩
/-- .. and the other way round -/
theorem RdR.offR {w w' : World} {N g : Nat} {rest r2 : List UInt8} {e e2 : Int} (h : RdR w g rest e) (hp : RfS w N r2 e2) (ho : Only N w w') (hne : g ≠ N) : RdR w' g rest e := by
  obtain ⟨cs, hN, hy⟩ := hp.cells
  have hgl := h.lt
  obtain ⟨rv, hh, hb⟩ := h
  exact ⟨rv, (ho.block g hgl (by intro e; injection e with e; exact hne e)).trans hh, ⟨hb.1.offC ho hN hy, hb.2.offC ho (fun hl => hb.1.not_in hN hy hl)⟩⟩
theorem Bx.only {w w' : World} {b N : Nat} {v : Vl} (h : Bx w b v) (ho : Only N w w') (hne : b ≠ N) : Bx w' b v := by
  have hl : b < w.heap.size := World.block_lt_of_cell? w _ h.1
  have hh : ∀ j, w'.cell? ⟨b, j, none⟩ = w.cell? ⟨b, j, none⟩ := fun j => World.cell?_of_block (a := ⟨b, j, none⟩) (ho.block b hl (by intro e; injection e with e; exact hne e))
  exact ⟨(hh 0).trans h.1, (hh 1).trans h.2.1, (hh 2).trans h.2.2.1, (hh 3).trans h.2.2.2.1, (hh 4).trans h.2.2.2.2⟩

theorem stepF_no {size : Nat} {al : Int → Int} {rest r1 : List UInt8} {e e1 : Int} {n : Nat} (h : stepF size al rest e = (n, r1, e1)) (he : e1 ≠ 0) : n = 0 := by
  unfold stepF at h
  split at h
  · injection h with h; exact h.symm
  split at h
  · injection h with h; exact h.symm
  split at h
  · injection h with h; exact h.symm
  · injection h with h h2
    injection h2 with h2 h3
    exact absurd h3.symm he
theorem get_ok {rest r2 : List UInt8} {e : Int} {v : Vl} (h : readF rest e = (v, r2, 0)) (hk : v.k ≠ 0) : getV rest e = v ∧ getE rest e = 0 ∧ (readF rest e).2.1 = r2 ∧ (readF rest e).2.2 = 0 := by
  unfold getV getE
  rw [h]
  exact ⟨rfl, if_neg hk, rfl, rfl⟩
theorem get_no {rest r2 : List UInt8} {e e2 : Int} {v : Vl} (h : readF rest e = (v, r2, e2)) (he : e2 ≠ 0) : getV rest e = vZero ∧ getE rest e = e2 ∧ (readF rest e).2.1 = r2 ∧ (readF rest e).2.2 = e2 := by
  unfold getV getE
  rw [h]
  exact ⟨if_neg he, if_neg he, rfl, rfl⟩
theorem get_none {rest r2 : List UInt8} {e : Int} (h : readF rest e = (vZero, r2, 0)) : getV rest e = vZero ∧ getE rest e = 12 ∧ (readF rest e).2.1 = r2 ∧ (readF rest e).2.2 = 0 := by
  unfold getV getE
  rw [h]
  exact ⟨rfl, rfl, rfl, rfl⟩
theorem readF_1 {rest r1 r2 : List UInt8} {e e1 e2 : Int} {n m : Nat} (hst : stepF 8 alInt rest e = (n, r1, e1)) (hk : wrap64 (n : Int) = 1) (ht : stepF 8 alInt r1 e1 = (m, r2, e2)) : readF rest e = (vInt (wrap64 (m : Int)), r2, e2) := by
  unfold readF
  rw [hst]
  simp only
  rw [if_pos hk, ht]
theorem readF_2 {rest r1 r2 : List UInt8} {e e1 e2 : Int} {n m : Nat} (hst : stepF 8 alInt rest e = (n, r1, e1)) (hk : wrap64 (n : Int) = 2) (ht : stepF 1 alBool r1 e1 = (m, r2, e2)) : readF rest e = (vTruth (decide (m = 1)), r2, e2) := by
  unfold readF
  rw [hst]
  simp only
  rw [if_neg (by omega), if_pos hk, ht]
theorem readF_3 {rest r1 r2 : List UInt8} {e e1 e2 : Int} {n : Nat} {m : List UInt8} (hst : stepF 8 alInt rest e = (n, r1, e1)) (hk : wrap64 (n : Int) = 3) (ht : bytesF 32 r1 e1 = (m, r2, e2)) : readF rest e = (⟨3, 0, false, strB m, 0⟩, r2, e2) := by
  unfold readF
  rw [hst]
  simp only
  rw [if_neg (by omega), if_neg (by omega), if_pos hk, ht]
theorem readF_4 {rest r1 r2 : List UInt8} {e e1 e2 : Int} {n m : Nat} (hst : stepF 8 alInt rest e = (n, r1, e1)) (hk : wrap64 (n : Int) = 4) (ht : stepF 8 alNum r1 e1 = (m, r2, e2)) : readF rest e = (vNum m, r2, e2) := by
  unfold readF
  rw [hst]
  simp only
  rw [if_neg (by omega), if_neg (by omega), if_neg (by omega), if_pos hk, ht]
theorem readF_0 {rest r1 : List UInt8} {e e1 : Int} {n : Nat} (hst : stepF 8 alInt rest e = (n, r1, e1)) (h1 : wrap64 (n : Int) ≠ 1) (h2 : wrap64 (n : Int) ≠ 2) (h3 : wrap64 (n : Int) ≠ 3) (h4 : wrap64 (n : Int) ≠ 4) : readF rest e = (vZero, r1, e1) := by
  unfold readF
  rw [hst]
  simp only
  rw [if_neg h1, if_neg h2, if_neg h3, if_neg h4]

theorem GetR.cast {g : Nat} {v v' : Vl} {er er' : Int} {rest rest' : List UInt8} {err err' : Int} {w : World} {c : Prop} {e : Ending} {w' : World} (h : GetR g v er rest err w e w') (hh : v' = v ∧ er' = er ∧ rest' = rest ∧ err' = err) : GetR g v' er' rest' err' w e w' := by
  obtain ⟨rfl, rfl, rfl, rfl⟩ := hh
  exact h
theorem rGet_any (g : Nat) (rest : List UInt8) (e : Int) (w : World) (hr : RfS w g rest e) : Calls Try.prog 34 #[.pointer (some ⟨g, 0, none⟩)] w (GetR g (getV rest e) (getE rest e) (readF rest e).2.1 (readF rest e).2.2 w) := by
  rcases hst : stepF 8 alInt rest e with ⟨n, r1, e1⟩
  by_cases he : e1 = 0
  · by_cases h1 : wrap64 (n : Int) = 1
    · rcases ht : stepF 8 alInt r1 e1 with ⟨m, r2, e2⟩
      by_cases h5 : e2 = 0
      · exact (rGet_1ok g rest e n r1 e1 hst w hr he h1 m r2 e2 ht h5).mono fun e' w' h => GetR.cast (c := True) h (by have := get_ok (h5 ▸ readF_1 hst h1 ht) (by intro h; cases h); rwa [h5])
      · exact (rGet_1no g rest e n r1 e1 hst w hr he h1 m r2 e2 ht h5).mono fun e' w' h => GetR.cast (c := True) h (get_no (readF_1 hst h1 ht) h5)
    by_cases h2 : wrap64 (n : Int) = 2
    · rcases ht : stepF 1 alBool r1 e1 with ⟨m, r2, e2⟩
      by_cases h5 : e2 = 0
      · exact (rGet_2ok g rest e n r1 e1 hst w hr he h2 m r2 e2 ht h5).mono fun e' w' h => GetR.cast (c := True) h (by have := get_ok (h5 ▸ readF_2 hst h2 ht) (by intro h; cases h); rwa [h5])
      · exact (rGet_2no g rest e n r1 e1 hst w hr he h2 m r2 e2 ht h5).mono fun e' w' h => GetR.cast (c := True) h (get_no (readF_2 hst h2 ht) h5)
    by_cases h3 : wrap64 (n : Int) = 3
    · rcases ht : bytesF 32 r1 e1 with ⟨m, r2, e2⟩
      by_cases h5 : e2 = 0
      · exact (rGet_3ok g rest e n r1 e1 hst w hr he h3 m r2 e2 ht h5).mono fun e' w' h => GetR.cast (c := True) h (by have := get_ok (h5 ▸ readF_3 hst h3 ht) (by intro h; cases h); rwa [h5])
      · exact (rGet_3no g rest e n r1 e1 hst w hr he h3 m r2 e2 ht h5).mono fun e' w' h => GetR.cast (c := True) h (get_no (readF_3 hst h3 ht) h5)
    by_cases h4 : wrap64 (n : Int) = 4
    · rcases ht : stepF 8 alNum r1 e1 with ⟨m, r2, e2⟩
      by_cases h5 : e2 = 0
      · exact (rGet_4ok g rest e n r1 e1 hst w hr he h4 m r2 e2 ht h5).mono fun e' w' h => GetR.cast (c := True) h (by have := get_ok (h5 ▸ readF_4 hst h4 ht) (by intro h; cases h); rwa [h5])
      · exact (rGet_4no g rest e n r1 e1 hst w hr he h4 m r2 e2 ht h5).mono fun e' w' h => GetR.cast (c := True) h (get_no (readF_4 hst h4 ht) h5)
    · exact (rGet_none g rest e n r1 e1 hst w hr he h1 h2 h3 h4).mono fun e' w' h => GetR.cast (c := True) h (by have := get_none (he ▸ readF_0 hst h1 h2 h3 h4); rwa [he])
  · have hn := stepF_no hst he
    subst hn
    exact (rGet_err g rest e 0 r1 e1 hst w hr he).mono fun e' w' h => GetR.cast (c := True) h (get_no (readF_0 hst (by unfold wrap64; omega) (by unfold wrap64; omega) (by unfold wrap64; omega) (by unfold wrap64; omega)) he)
end Go.Proofs.Ytlnpolepgdoloaa
