/- Rows of rows of bytes. -/
import Derived.Test.YtlnpolepgdoloaaLaws
namespace Go.Proofs.Ytlnpolepgdoloaa
open Go.RowKit
set_option linter.unusedVariables false

theorem rowinfo : (Try.prog.info? 42).map (fun i => (i.zero, i.size, i.bytes)) = some (some (.slice none 0 0), 1, 24) := by kernel_rfl

/-- the slice value v reads as a row of rows of bytes -/
def Bss (w : World) (v : Value) (ls : List (List UInt8)) : Prop :=
  ∃ xs, Rd w v xs ∧ xs.length = ls.length ∧ ∀ (k : Nat) (x : Value) (l : List UInt8), xs[k]? = some x → ls[k]? = some l → Bs w x l

theorem Bss.nil (w : World) : Bss w (.slice none 0 0) [] := ⟨[], Rd.nil w, rfl, fun k x l h => by simp at h⟩
theorem Bss.below {w w' : World} {v : Value} {ls : List (List UInt8)} {B : Nat} (h : Bss w v ls) (hb : Below B w w') (hB : w.heap.size ≤ B) : Bss w' v ls := by
  obtain ⟨xs, h1, h2, h3⟩ := h
  exact ⟨xs, h1.below hb hB, h2, fun k x l hx hl => (h3 k x l hx hl).below hb hB⟩

theorem Bss.open {w : World} {v : Value} {ls : List (List UInt8)} (h : Bss w v ls) : ∃ A c, v = .slice A ls.length c ∧ ls.length ≤ c ∧ c ≤ maxLen ∧
    (∀ k (hk : k < ls.length), ∃ ad x, A = some ad ∧ ad.block < w.heap.size ∧ w.cell? (ad.add k) = some x ∧ Bs w x ls[k]) := by
  obtain ⟨xs, ⟨A, c, hv, hc, hm, hn, hx⟩, hlen, hin⟩ := h
  rw [hlen] at hv hc
  refine ⟨A, c, hv, hc, hm, fun k hk => ?_⟩
  obtain ⟨ad, ha, hb, hr⟩ := hx (by rintro rfl; simp at hlen; omega)
  have hkx : k < xs.length := by omega
  exact ⟨ad, xs[k], ha, hb, hr k _ (List.getElem?_eq_getElem hkx), hin k _ _ (List.getElem?_eq_getElem hkx) (List.getElem?_eq_getElem hk)⟩

theorem Bss.len {w : World} {v : Value} {ls : List (List UInt8)} (h : Bss w v ls) : ls.length ≤ maxLen := by
  obtain ⟨A, c, _, h1, h2, _⟩ := h.open
  omega

/-- a row of rows that grows: its own memory, in which none of its rows lies -/
def Grows (B : Nat) (w : World) (v : Value) (ls : List (List UInt8)) : Prop :=
  ∃ xs, w.ownsRow B 42 1 v ls.length xs ∧ ∀ (k : Nat) (x : Value) (l : List UInt8), xs[k]? = some x → ls[k]? = some l → Bs w x l ∧ (l ≠ [] → ∀ g, x.ownBlock = some g → v.ownBlock ≠ some g)

theorem Grows.start (B : Nat) (w : World) : Grows B w (.slice none 0 0) [] := ⟨[], World.ownsRow_nil w B _ 1, fun k x l h => by simp at h⟩
theorem Grows.bss {B : Nat} {w : World} {v : Value} {ls : List (List UInt8)} (h : Grows B w v ls) : Bss w v ls := by
  obtain ⟨xs, h1, h2⟩ := h
  exact ⟨xs, Rd.of_own h1, by have := h1.1; simpa using this, fun k x l hx hl => (h2 k x l hx hl).1⟩
theorem below_grown {w w' : World} (h : Below w.heap.size w w') (row : Option Nat) : w.grownBy w' row := ⟨h.os, h.tape, h.output, h.size, fun k hk _ => h.block k hk⟩
theorem own_below {B n : Nat} {e : TypeId} {w w' : World} {v : Value} {xs : List Value} (h : w.ownsRow B e 1 v n xs) (hb : Below w.heap.size w w') : w'.ownsRow B e 1 v n xs :=
  h.kept (below_grown hb none) (by cases h : v.ownBlock <;> simp)
theorem own_off {B n : Nat} {e : TypeId} {w : World} {v y : Value} {xs : List Value} (h : w.ownsRow B e 1 v n xs) (hn : New w.heap.size y) (g : Nat) (hg : y.ownBlock = some g) : v.ownBlock ≠ some g := by
  intro e
  have := (h.lt g e).2
  have := hn g hg
  omega
theorem Grows.below {B : Nat} {w w' : World} {v : Value} {ls : List (List UInt8)} (h : Grows B w v ls) (hb : Below w.heap.size w w') : Grows B w' v ls := by
  obtain ⟨xs, h1, h2⟩ := h
  refine ⟨xs, h1.kept (below_grown hb none) ?_, fun k x l hx hl => ⟨(h2 k x l hx hl).1.below hb (Nat.le_refl _), (h2 k x l hx hl).2⟩⟩
  cases h : v.ownBlock <;> simp

/-- what is read is as it was where one block has turned in which it does not lie -/
theorem Bs.grown {w w' : World} {v : Value} {l : List UInt8} {row : Option Nat} (h : Bs w v l) (hg : w.grownBy w' row) (hne : l ≠ [] → ∀ g, v.ownBlock = some g → row ≠ some g) : Bs w' v l := by
  obtain ⟨A, c, hv, hc, hm, hn, hx⟩ := h
  refine ⟨A, c, hv, hc, hm, hn, fun he => ?_⟩
  obtain ⟨ad, ha, hl, hr⟩ := hx he
  subst ha hv
  have hn' := hne (by rintro rfl; simp at he) ad.block rfl
  exact ⟨ad, rfl, Nat.lt_of_lt_of_le hl hg.size, fun j u hj => (World.cell?_of_block (hg.block _ (by rw [block_add]; exact hl) (by rw [block_add]; exact fun e => hn' e.symm))).trans (hr j u hj)⟩
theorem Bs.lt {w : World} {v : Value} {l : List UInt8} (h : Bs w v l) (hne : l ≠ []) (g : Nat) (hg : v.ownBlock = some g) : g < w.heap.size := by
  obtain ⟨A, c, hv, hc, hm, hn, hx⟩ := h
  obtain ⟨ad, ha, hl, hr⟩ := hx (by simpa using hne)
  subst ha hv
  simp [Value.ownBlock] at hg
  omega

/-- one row more -/
theorem Grows.push {B : Nat} {W w2 : World} {v v2 y : Value} {ls : List (List UInt8)} {l : List UInt8} {xs : List Value} {n : Nat}
    (hin : ∀ (k : Nat) (x : Value) (l : List UInt8), xs[k]? = some x → ls[k]? = some l → Bs W x l ∧ (l ≠ [] → ∀ g, x.ownBlock = some g → v.ownBlock ≠ some g))
    (hlen : xs.length = ls.length) (hy : Bs W y l) (hyo : l ≠ [] → ∀ g, y.ownBlock = some g → v.ownBlock ≠ some g)
    (hown : w2.ownsRow B 42 1 v2 n (xs ++ [y])) (hg : W.grownBy w2 v.ownBlock) (ho : v2.ownBlock = v.ownBlock ∨ v2.ownBlock = some W.heap.size) : Grows B w2 v2 (ls ++ [l]) := by
  have hn : n = (ls ++ [l]).length := by have := hown.1; simp at this; simp; omega
  subst hn
  refine ⟨xs ++ [y], hown, fun k x m hx hm => ?_⟩
  have hall : Bs W x m ∧ (m ≠ [] → ∀ g, x.ownBlock = some g → v.ownBlock ≠ some g) := by
    by_cases hk : k < xs.length
    · rw [List.getElem?_append_left hk] at hx
      rw [List.getElem?_append_left (by omega)] at hm
      exact hin k x m hx hm
    · have hk2 : k < (xs ++ [y]).length := (List.getElem?_eq_some_iff.1 hx).1
      simp at hk2
      obtain rfl : k = xs.length := by omega
      simp at hx
      rw [hlen] at hm
      simp at hm
      subst hx hm
      exact ⟨hy, hyo⟩
  refine ⟨hall.1.grown hg hall.2, fun hne g hgx => ?_⟩
  rcases ho with ho | ho
  · rw [ho]; exact hall.2 hne g hgx
  · have := hall.1.lt hne g hgx
    rw [ho]
    intro e
    injection e with e
    omega

/-- few rows of few bytes -/
def fewL (ls : List (List UInt8)) : Bool := decide (ls.length ≤ 100) && ls.all fun l => decide (l.length ≤ 2000)
theorem fewL_iff {ls : List (List UInt8)} : fewL ls = true ↔ ls.length ≤ 100 ∧ ∀ l ∈ ls, l.length ≤ 2000 := by simp [fewL]

end Go.Proofs.Ytlnpolepgdoloaa
