/- Layer 3: the table of what was signed, as a map whose keys are structs. -/
import Derived.Test.YtlbbehhjehpefaaANum
import Derived.Maps.OwnSet
import Derived.DeepKeys4
namespace Go.Proofs.Ytlbbehhjehpefaa
open Go.RowKit Go.Maps
set_option linter.unusedVariables false

/-- a pair as the key's value; what it reads as -/
def kv (s : Int) (l : List UInt8) : Value := .agg #[.int .i64 s, .string (strB l)]
def klit (s : Int) (l : List UInt8) : Lit := .string (keyBytes [.int .i64 s, .string l])
def okP (s : Int) (l : List UInt8) : Prop := ok64 s ∧ l.length ≤ maxLen

theorem keyLaw : Keyed Try.prog 63 :=
  Keyed.of_law (deep_law_laid Try.laidOut (m := 3) (by omega) (of_decide_eq_true (by kernel_rfl)) (by kernel_rfl) (by kernel_rfl))
theorem keyT : Try.prog.keyType 63 = true := by kernel_rfl
theorem key_lits (s : Int) (l : List UInt8) : Try.prog.keyLits (Try.prog.types.size + 1) 63 [.int .i64 s, .string (strB l)] = (if (Lit.int .i64 s).wf = true ∧ l.length ≤ maxLen then some [.int .i64 s, .string l] else none) := by
  obtain ⟨n, hn⟩ : ∃ n, Try.prog.types.size = n + 1 := ⟨Try.prog.types.size - 1, by have : 0 < Try.prog.types.size := of_decide_eq_true (by kernel_rfl); omega⟩
  have hc1 : Try.prog.cellsOf 63 = 2 := by kernel_rfl
  have hc2 : Try.prog.cellsOf 3 = 1 := by kernel_rfl
  have hc3 : Try.prog.cellsOf 9 = 1 := by kernel_rfl
  have hss : (strB l).size = l.length := strB_size l
  have hsl : (strB l).data.toList = l := rfl
  rw [hn]
  by_cases h1 : (Lit.int .i64 s).wf = true <;> by_cases h2 : l.length ≤ maxLen <;>
    simp [Program.keyLits, Try.underlying63, Try.underlying3, Try.underlying9, hc1, hc2, hc3, hss, hsl, h1, h2]
theorem keyOf_kv {s : Int} {l : List UInt8} (h : okP s l) : keyOf Try.prog 63 (kv s l) = some (klit s l) := by
  have hw : (Lit.int .i64 s).wf = true := by
    have := h.1.1
    have := h.1.2
    simp [Lit.wf, IntKind.min, IntKind.max, IntKind.signed, IntKind.bits]
    omega
  have hf : (kv s l).formed Try.prog 63 = true := by
    have hc1 : Try.prog.cellsOf 63 = 2 := by kernel_rfl
    simp [Value.formed, kv, Try.underlying63, hc1]
  unfold keyOf
  rw [Try.underlying63]
  simp only [keyT, hf, Bool.and_self, if_true]
  show (Try.prog.keyLits (Try.prog.types.size + 1) 63 [.int .i64 s, .string (strB l)]).map _ = _
  rw [key_lits, if_pos ⟨hw, h.2⟩]
  rfl
theorem klit_inj {s t : Int} {l m : List UInt8} (h : okP s l) (h2 : okP t m) (e : klit s l = klit t m) : s = t ∧ l = m := by
  have h3 := keyLaw.inj (keyOf_kv h) (e ▸ keyOf_kv h2)
  simp [kv] at h3
  exact ⟨h3.1, strB_inj.1 h3.2⟩

/-- the block is a map that has just these pairs -/
def Tab (w : World) (b : Nat) (L : List (Int × List UInt8)) : Prop :=
  ∃ D : DataW Unit, w.ownsMap Try.prog 63 unitElem b L.length D ∧ size D = L.length ∧ ∀ s l, okP s l → Maps.has D (klit s l) = decide ((s, l) ∈ L)

theorem owns_tight {w : World} {b n : Nat} {D : DataW Unit} (h : w.ownsMap Try.prog 63 unitElem b n D) : w.ownsMap Try.prog 63 unitElem b (size D) D := by
  obtain ⟨es, clock, h1, h2, h3, rfl⟩ := h
  exact ⟨es, clock, h1, h2, by simp [Maps.size, length_sorted], rfl⟩

theorem Tab.made (w : World) : Tab (w.alloc (.map #[] 0)) w.heap.size [] :=
  ⟨_, World.ownsMap_made w _ _ _, rfl, fun s l _ => by simp [Maps.has]⟩
theorem Tab.kept {w w' : World} {b : Nat} {L : List (Int × List UInt8)} {row : Option Nat} (h : Tab w b L) (hg : w.grownBy w' row) (hne : some b ≠ row) : Tab w' b L := by
  obtain ⟨D, h1, h2, h3⟩ := h
  exact ⟨D, h1.kept hg hne, h2, h3⟩
theorem Tab.below {w w' : World} {b B : Nat} {L : List (Int × List UInt8)} (h : Tab w b L) (hb : Below B w w') (hB : w.heap.size ≤ B) : Tab w' b L :=
  h.kept (row := none) ⟨hb.os, hb.tape, hb.output, hb.size, fun k hk _ => hb.block k (by omega)⟩ (by simp)
theorem Tab.lt {w : World} {b : Nat} {L : List (Int × List UInt8)} (h : Tab w b L) : b < w.heap.size := by
  obtain ⟨D, h1, -⟩ := h
  exact h1.lt
theorem Tab.no_cell {w : World} {b : Nat} {L : List (Int × List UInt8)} (h : Tab w b L) (a : Addr) (u : Value) (hc : w.cell? a = some u) : a.block ≠ b := by
  obtain ⟨D, ⟨es, clock, hb, -⟩, -⟩ := h
  rintro rfl
  simp [World.cell?, hb] at hc

theorem Tab.look {w : World} {b : Nat} {L : List (Int × List UInt8)} (h : Tab w b L) {s : Int} {l : List UInt8} (hp : okP s l) :
    (Instr.lookup 56 (.map (some b)) (.agg #[.int .i64 s, .string ⟨l.toArray⟩]) true).run Try.prog w = .ok (.tuple #[.agg #[], .bool (decide ((s, l) ∈ L))]) w := by
  obtain ⟨D, h1, h2, h3⟩ := h
  obtain ⟨v, ps, hrun, hv⟩ := h1.look_ok keyLaw Try.underlying56 (z := .agg #[]) (by kernel_rfl) unitElem_mk (keyOf_kv hp)
  obtain ⟨rfl, -⟩ := unitElem_inv hv
  rw [← h3 s l hp]
  exact hrun
theorem Tab.len {w : World} {b : Nat} {L : List (Int × List UInt8)} (h : Tab w b L) (ty : TypeId) : (Builtin.len_ #[56] ty #[.map (some b)]).run Try.prog w = .ok (.int .i64 L.length) w := by
  obtain ⟨D, h1, h2, h3⟩ := h
  rw [← h2]
  exact h1.len Try.underlying56 ty

/-- one more, where it is not there -/
def addP (L : List (Int × List UInt8)) (s : Int) (l : List UInt8) : List (Int × List UInt8) := if (s, l) ∈ L then L else L ++ [(s, l)]

theorem Tab.put {w : World} {b : Nat} {L : List (Int × List UInt8)} (h : Tab w b L) (hlen : L.length < maxLen) {s : Int} {l : List UInt8} (hp : okP s l) :
    ∃ w', (Instr.mapUpdate 56 (.map (some b)) (.agg #[.int .i64 s, .string ⟨l.toArray⟩]) (.agg #[])).run Try.prog w = .ok () w' ∧ Tab w' b (addP L s l) ∧ w.grownBy w' (some b) ∧ w'.heap.size = w.heap.size := by
  obtain ⟨D, h1, h2, h3⟩ := h
  obtain ⟨w', hrun, h4, h5⟩ := h1.store keyLaw Try.underlying56 hlen (keyOf_kv hp) unitElem_mk
  have hk := keyLaw.key (keyOf_kv hp)
  have hsz : size (D.put (klit s l) (.agg [])) = (addP L s l).length := by
    rw [size_put (h1.tidy keyLaw), h3 s l hp, h2]
    unfold addP
    by_cases hm : (s, l) ∈ L
    · rw [if_pos hm, if_pos (by simpa using hm)]
    · rw [if_neg hm, if_neg (by simpa using hm), List.length_append, List.length_singleton]
  refine ⟨w', hrun, ⟨_, hsz ▸ owns_tight h4, hsz, fun t m hq => ?_⟩, h5.grown, ?_⟩
  · by_cases e : klit t m = klit s l
    · obtain ⟨rfl, rfl⟩ := klit_inj hq hp e
      rw [has_put_same h1.isMap hk]
      unfold addP
      by_cases hm : (t, m) ∈ L
      · rw [if_pos hm]; simpa using hm
      · rw [if_neg hm]; simp
    · rw [has_put_other e, h3 t m hq]
      have hne : (t, m) ≠ (s, l) := by
        intro e2
        injection e2 with e3 e4
        subst e3 e4
        exact e rfl
      unfold addP
      by_cases hm : (s, l) ∈ L
      · rw [if_pos hm]
      · rw [if_neg hm]
        simp [hne]
  · obtain ⟨es, clock, es', clock', _, rfl⟩ := h5
    simp [Go.ChangeMaps.setBlock]
end Go.Proofs.Ytlbbehhjehpefaa
