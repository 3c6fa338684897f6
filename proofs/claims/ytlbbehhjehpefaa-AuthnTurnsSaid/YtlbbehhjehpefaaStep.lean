/- Package wire: a step of the reader. -/
import Derived.Test.YtlbbehhjehpefaaRead
namespace Go.Proofs.Ytlbbehhjehpefaa
open Go.RowKit
set_option linter.unusedVariables false

/-- all blocks but g are as they were; new ones may be there -/
abbrev Only (g : Nat) (w w' : World) : Prop := w.grownBy w' (some g)
theorem Only.refl (g : Nat) (w : World) : Only g w w := World.grownBy.refl w _
theorem Only.below {g : Nat} {a w w' : World} (h : Only g a w) (hb : Below w.heap.size w w') : Only g a w' :=
  h.trans ⟨hb.os, hb.tape, hb.output, hb.size, fun k hk _ => hb.block k hk⟩
theorem Only.set {g : Nat} {a w : World} (h : Only g a w) (j : Nat) (u : Value) : Only g a (w.setCell ⟨g, j, none⟩ u) :=
  h.trans ⟨rfl, rfl, rfl, by simp [World.setCell], fun k _ hk => Below.heap_setCell w _ u k (by intro e; apply hk; rw [e])⟩
theorem Only.to_below {g B : Nat} {w w' : World} (h : Only g w w') (hB : B ≤ w.heap.size) (hg : B ≤ g) : Below B w w' :=
  ⟨h.os, h.tape, h.output, h.size, fun k hk => h.block k (by omega) (by intro e; injection e with e; omega)⟩

/-- a row of bytes does not lie in a block that holds no byte -/
theorem Bs.set {w : World} {g : Nat} {v : Value} {l : List UInt8} {cs : Array Value} {t : TypeId} (h : Bs w v l) (hg : w.heap[g]? = some (.cells cs t (0, 0))) (hy : ∀ (j : Nat) (b : UInt8), cs[j]? ≠ some (bc b)) (j : Nat) (u : Value) : Bs (w.setCell ⟨g, j, none⟩ u) v l := by
  obtain ⟨A, c, hv, hc, hm, hn, hx⟩ := h
  refine ⟨A, c, hv, hc, hm, hn, fun he => ?_⟩
  obtain ⟨ad, ha, hl, hr⟩ := hx he
  refine ⟨ad, ha, by simpa [World.setCell] using hl, fun k y hk => ?_⟩
  have h0 := hr k y hk
  have hne : (ad.add k).block ≠ g := by
    intro e
    simp only [World.cell?, e, hg] at h0
    obtain ⟨b, -, rfl⟩ := List.mem_map.1 (List.mem_of_getElem? hk)
    split at h0
    · cases h0
    · exact hy _ b h0
  exact (World.cell?_of_block (w := w) (Below.heap_setCell w _ u _ hne)).trans h0

theorem no_bytes (A : Option Addr) (n c : Nat) (e : Int) (j : Nat) (b : UInt8) : #[Value.slice A n c, Value.int .i64 e][j]? ≠ some (bc b) := by
  match j with
  | 0 => simp [bc]
  | 1 => simp [bc]
  | j + 2 => simp

theorem Bt.set {w : World} {g : Nat} {v : Value} {l : List UInt8} {cs : Array Value} {t : TypeId} (h : Bt w v l) (hg : w.heap[g]? = some (.cells cs t (0, 0))) (ht : t ≠ 5) (hy : ∀ (j : Nat) (b : UInt8), cs[j]? ≠ some (bc b)) (j : Nat) (u : Value) : Bt (w.setCell ⟨g, j, none⟩ u) v l := by
  refine ⟨h.1.set hg hy j u, fun hne k hk => ?_⟩
  obtain ⟨cs', fr, hg'⟩ := h.2 hne k hk
  have hkg : k ≠ g := by
    rintro rfl
    rw [hg] at hg'
    injection hg' with hg'
    injection hg' with _ h2
    exact ht h2
  exact ⟨cs', fr, (Below.heap_setCell w _ u _ hkg).trans hg'⟩
theorem Bs.take {w : World} {A : Option Addr} {l : List UInt8} {n c k : Nat} (h : Bs w (.slice A n c) l) (hk : k ≤ l.length) : Bs w (.slice A k c) (l.take k) := by
  obtain ⟨A', c', e, hc, hm, hn, hx⟩ := h
  injection e with e1 e2 e3
  subst e1 e2 e3
  simp only [List.length_map] at hc
  refine ⟨A, c, by simp [Nat.min_eq_left hk], by simp; omega, hm, hn, fun hne => ?_⟩
  obtain ⟨ad, ha, hl, hr⟩ := hx (by rintro h0; apply hne; simp at h0; simp [h0])
  refine ⟨ad, ha, hl, fun j u hj => hr j u ?_⟩
  rw [List.map_take, List.getElem?_take] at hj
  split at hj
  · exact hj
  · cases hj
theorem Bs.drop {w : World} {ad : Addr} {l : List UInt8} {n c k : Nat} (h : Bs w (.slice (some ad) n c) l) (hk : k ≤ l.length) : Bs w (.slice (some (if c = k then ad else ad.add k)) (n - k) (c - k)) (l.drop k) := by
  obtain ⟨A', c', e, hc, hm, hn, hx⟩ := h
  injection e with e1 e2 e3
  subst e1 e2 e3
  simp only [List.length_map] at hc
  refine ⟨some (if c = k then ad else ad.add k), c - k, by simp, by simp; omega, by omega, (by intro h0; cases h0), fun hne => ?_⟩
  have hlt : k < l.length := by
    rcases Nat.lt_or_ge k l.length with h1 | h1
    · exact h1
    · exact absurd (by rw [List.drop_of_length_le h1]; rfl) hne
  obtain ⟨ad', ha, hl, hr⟩ := hx (by rintro h0; simp at h0; simp [h0] at hlt)
  injection ha with ha
  subst ha
  rw [if_neg (by omega)]
  refine ⟨_, rfl, by rw [block_add]; exact hl, fun j u hj => ?_⟩
  rw [add_add']
  refine hr _ u ?_
  rw [List.map_drop, List.getElem?_drop] at hj
  exact hj

theorem Bt.drop {w : World} {ad : Addr} {l : List UInt8} {n c k : Nat} (h : Bt w (.slice (some ad) n c) l) (hk : k ≤ l.length) : Bt w (.slice (some (if c = k then ad else ad.add k)) (n - k) (c - k)) (l.drop k) := by
  refine ⟨h.1.drop hk, fun hne j hj => ?_⟩
  refine h.2 (by rintro rfl; simp at hne) j ?_
  have e : (if c = k then ad else ad.add k).block = ad.block := by split; rfl; exact block_add _ _
  simp only [Value.ownBlock, e] at hj
  exact hj

/-- what a step does: the word, what is left, the error -/
def stepF (size : Nat) (al : Int → Int) (rest : List UInt8) (err : Int) : Nat × List UInt8 × Int :=
  if err ≠ 0 then (0, rest, err) else if rest.length < size then (0, rest, 10)
  else if al (wordN (rest.take size)) ≠ 0 then (0, rest, al (wordN (rest.take size))) else (wordN (rest.take size), rest.drop size, 0)

end Go.Proofs.Ytlbbehhjehpefaa
