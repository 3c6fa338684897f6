/- Layer 3: rows of envelopes in memory; the document's table. -/
import Derived.Test.YtlbbehhjehpefaaACheck
namespace Go.Proofs.Ytlbbehhjehpefaa
open Go.RowKit
set_option linter.unusedVariables false

theorem envinfo : (Try.prog.info? 40).map (fun i => (i.zero, i.size, i.bytes)) = some (some (.agg #[.int .i64 0, .slice none 0 0]), 2, 32) := by kernel_rfl

/-- envelopes' cells -/
def flatE (xs : List (Int × Value)) : List Value := xs.flatMap fun p => [.int .i64 p.1, p.2]
theorem flatE_cons (p : Int × Value) (xs : List (Int × Value)) : flatE (p :: xs) = .int .i64 p.1 :: p.2 :: flatE xs := by simp [flatE]
theorem flatE_snoc (xs : List (Int × Value)) (p : Int × Value) : flatE (xs ++ [p]) = flatE xs ++ [.int .i64 p.1, p.2] := by simp [flatE]
theorem flatE_length (xs : List (Int × Value)) : (flatE xs).length = xs.length * 2 := by
  induction xs with
  | nil => rfl
  | cons p xs ih => rw [flatE_cons, List.length_cons, List.length_cons, List.length_cons, ih]; omega
theorem flatE_get (xs : List (Int × Value)) : ∀ (k : Nat) (hk : k < xs.length), (flatE xs)[k * 2]? = some (.int .i64 xs[k].1) ∧ (flatE xs)[k * 2 + 1]? = some xs[k].2 := by
  induction xs with
  | nil => intro k hk; simp at hk
  | cons p xs ih =>
    intro k hk
    rw [flatE_cons]
    match k with
    | 0 => simp
    | k + 1 =>
      have := ih k (by simpa using hk)
      rw [show (k + 1) * 2 = k * 2 + 1 + 1 by omega]
      simpa using this

/-- the slice value v reads as envelopes -/
def Es (w : World) (v : Value) (xs : List (Int × Value)) : Prop :=
  ∃ A c, v = .slice A xs.length c ∧ xs.length ≤ c ∧ c ≤ maxLen ∧ (A = none → c = 0) ∧ (xs ≠ [] → ∃ ad, A = some ad ∧ ad.block < w.heap.size ∧ ∀ k (hk : k < xs.length), w.cell? (ad.add (k * 2)) = some (.int .i64 xs[k].1) ∧ w.cell? ⟨(ad.add (k * 2)).block, (ad.add (k * 2)).off + 1, none⟩ = some xs[k].2)

theorem Es.of_own {w : World} {base : Nat} {v : Value} {n : Nat} {xs : List (Int × Value)} (h : w.ownsRow base 40 2 v n (flatE xs)) : Es w v xs := by
  have hl := h.1
  rw [flatE_length] at hl
  have hn : n = xs.length := by omega
  subst hn
  rcases h.2 with ⟨rfl, h0⟩ | ⟨g, cap, cur, rfl, _, hg, hc, hm, _⟩
  · have : xs = [] := List.eq_nil_of_length_eq_zero h0
    subst this
    exact ⟨none, 0, rfl, Nat.le_refl _, Nat.zero_le _, fun _ => rfl, fun h => absurd rfl h⟩
  · refine ⟨_, cap, rfl, hc, hm, (by intro h0; cases h0), fun _ => ⟨_, rfl, (Array.getElem?_eq_some_iff.1 hg).1, fun k hk => ?_⟩⟩
    obtain ⟨h1, h2⟩ := flatE_get xs k hk
    refine ⟨h.cells rfl _ _ h1, ?_⟩
    have h3 := h.cells rfl _ _ h2
    rwa [Addr.add_lit] at h3 ⊢

theorem own_keep {w w' : World} {B e sz n : Nat} {v : Value} {xs : List Value} (h : w.ownsRow B e sz v n xs) (hk : ∀ k, v.ownBlock = some k → w'.heap[k]? = w.heap[k]?) : w'.ownsRow B e sz v n xs := by
  obtain ⟨h1, h2⟩ := h
  refine ⟨h1, ?_⟩
  rcases h2 with h2 | ⟨g, cap, cur, rfl, hb, hg, hr⟩
  · exact .inl h2
  · exact .inr ⟨g, cap, cur, rfl, hb, (hk g rfl).trans hg, hr⟩
theorem Bs.keep {w w' : World} {v : Value} {l : List UInt8} (h : Bs w v l) (hs : w.heap.size ≤ w'.heap.size) (hk : l ≠ [] → ∀ k, v.ownBlock = some k → w'.heap[k]? = w.heap[k]?) : Bs w' v l := by
  obtain ⟨A, c, hv, hc, hm, hn, hx⟩ := h
  refine ⟨A, c, hv, hc, hm, hn, fun he => ?_⟩
  obtain ⟨ad, ha, hl, hr⟩ := hx he
  subst ha hv
  have hn' := hk (by rintro rfl; simp at he) ad.block rfl
  exact ⟨ad, rfl, Nat.lt_of_lt_of_le hl hs, fun j u hj => (World.cell?_of_block (by rw [block_add]; exact hn')).trans (hr j u hj)⟩
theorem Ty.keep {w w' : World} {v : Value} {l : List UInt8} (h : Ty w v l) (hk : l ≠ [] → ∀ k, v.ownBlock = some k → w'.heap[k]? = w.heap[k]?) : Ty w' v l := by
  intro hne k hk'
  obtain ⟨cs, fr, hg⟩ := h hne k hk'
  exact ⟨cs, fr, (hk hne k hk').trans hg⟩

/-- a pair of the document's table, as it lies -/
abbrev Tri := Int × List UInt8 × Value
def flatT (E : List Tri) : List Value := flatE (E.map fun p => (p.1, p.2.2))
def pairsT (E : List Tri) : List (Int × List UInt8) := E.map fun p => (p.1, p.2.1)
theorem flatT_snoc (E : List Tri) (p : Tri) : flatT (E ++ [p]) = flatT E ++ [.int .i64 p.1, p.2.2] := by simp [flatT, flatE_snoc]

/-- the document's authority that knows f and c, and to which L was signed; all of it lies in blocks of S -/
structure DT (w : World) (g : Nat) (f c : Int) (v : Value) (E : List Tri) (S : Nat → Prop) : Prop where
  head : RaH w g f c v
  row : w.ownsRow 0 40 2 v E.length (flatT E)
  body : ∀ p ∈ E, Bt w p.2.2 p.2.1 ∧ (p.2.1 ≠ [] → ∀ k, p.2.2.ownBlock = some k → S k)
  at_g : S g
  at_v : ∀ k, v.ownBlock = some k → S k

section
variable {w w' : World} {g : Nat} {f c : Int} {v : Value} {E : List Tri} {S : Nat → Prop}
theorem DT.keep (h : DT w g f c v E S) (hs : w.heap.size ≤ w'.heap.size) (hk : ∀ k, k < w.heap.size → S k → w'.heap[k]? = w.heap[k]?) : DT w' g f c v E S where
  head := ⟨(hk g (Array.getElem?_eq_some_iff.1 h.head.1).1 h.at_g).trans h.head.1, h.head.2⟩
  row := own_keep h.row fun k hv => hk k (h.row.lt k hv).2 (h.at_v k hv)
  body := fun p hp => by
    obtain ⟨⟨h1, h2⟩, h3⟩ := h.body p hp
    have hk' : p.2.1 ≠ [] → ∀ k, p.2.2.ownBlock = some k → w'.heap[k]? = w.heap[k]? := fun hne k he => hk k (h1.lt hne k he) (h3 hne k he)
    exact ⟨⟨h1.keep hs hk', h2.keep hk'⟩, h3⟩
  at_g := h.at_g
  at_v := h.at_v
theorem DT.below (h : DT w g f c v E S) (hb : Below w.heap.size w w') : DT w' g f c v E S := h.keep hb.size fun k hk _ => hb.block k hk
theorem DT.grown {row : Option Nat} (h : DT w g f c v E S) (hg : w.grownBy w' row) (hne : ∀ k, row = some k → ¬ S k) : DT w' g f c v E S :=
  h.keep hg.size fun k hk hS => hg.block k hk fun e => hne k e.symm hS
theorem DT.mono {S' : Nat → Prop} (h : DT w g f c v E S) (hS : ∀ k, k < w.heap.size → S k → S' k) : DT w g f c v E S' where
  head := h.head
  row := h.row
  body := fun p hp => ⟨(h.body p hp).1, fun hne k he => hS k ((h.body p hp).1.1.lt hne k he) ((h.body p hp).2 hne k he)⟩
  at_g := hS g (Array.getElem?_eq_some_iff.1 h.head.1).1 h.at_g
  at_v := fun k hk => hS k (h.row.lt k hk).2 (h.at_v k hk)
theorem DT.es (h : DT w g f c v E S) : Es w v (E.map fun p => (p.1, p.2.2)) := Es.of_own h.row

/-- a row of the table, as a walk reads it -/
theorem DT.open (h : DT w g f c v E S) : ∃ A cp, v = .slice A E.length cp ∧ E.length ≤ cp ∧ cp ≤ maxLen ∧
    (∀ k (hk : k < E.length), ∃ ad, A = some ad ∧ w.cell? (ad.add (k * 2)) = some (.int .i64 E[k].1) ∧ w.cell? ⟨(ad.add (k * 2)).block, (ad.add (k * 2)).off + 1, none⟩ = some E[k].2.2 ∧ Bs w E[k].2.2 E[k].2.1) := by
  obtain ⟨A, cp, hv, h1, h2, -, hx⟩ := h.es
  rw [List.length_map] at hv h1
  refine ⟨A, cp, hv, h1, h2, fun k hk => ?_⟩
  obtain ⟨ad, rfl, -, hc⟩ := hx (by intro e; have := congrArg List.length e; simp at this; subst this; simp at hk)
  have := hc k (by simpa using hk)
  simp only [List.getElem_map] at this
  exact ⟨ad, rfl, this.1, this.2, (h.body _ (List.getElem_mem hk)).1.1⟩
end
end Go.Proofs.Ytlbbehhjehpefaa
