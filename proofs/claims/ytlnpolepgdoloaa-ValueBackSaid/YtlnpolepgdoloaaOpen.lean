/- An argument that is a row of items, opened. -/
import Derived.Test.YtlnpolepgdoloaaRow
namespace Go.Proofs.Ytlnpolepgdoloaa
open Go.RowKit Go.ChangeShapes Go.WideShapes Go.ChangeAt
set_option linter.unusedVariables false

section
variable {H : Type} {enc : TypeId × Value → H} {W : World} {sp : Nat → Bool} {hd : Bool}

theorem cell_lt {w : World} {a : Addr} {v : Value} (h : w.cell? a = some v) : a.block < w.heap.size := World.block_lt_of_cell? w a h

theorem open_bytes {fuel : Nat} {v : Value} {x : DataW H × List MemPlace} (h : DataW.trod enc Try.prog W 0 sp hd fuel 42 [v] = some x) : ∃ l, Bs W v l := by
  rcases DataW.trod_slice Try.underlying42 h with ⟨hc, -⟩ | ⟨a, len, cap, elems, rest, n, -, hc, -, -, hl, hm, hel, hx, -, -⟩
  · injection hc with hc
    subst hc
    exact ⟨[], Bs.nil W⟩
  · injection hc with hc
    subst hc
    have hone : Try.prog.cellsOf 5 = 1 := by kernel_rfl
    have each : ∀ i, i < len → ∃ b : UInt8, W.cell? (a.add i) = some (bc b) := by
      intro i hi
      have h1 := hx i hi
      rw [hone, Nat.mul_one, List.getElem?_eq_getElem (by omega)] at h1
      obtain ⟨cs, hcs, ht⟩ := Option.bind_eq_some_iff.1 h1
      obtain ⟨z, hz, -, hw⟩ := DataW.trod_int Try.underlying5 ht
      subst hz
      obtain ⟨-, -, hat⟩ := World.cells?_some hcs
      have h0 := hat 0 (by omega)
      rw [Addr.add_zero'] at h0
      simp [Lit.wf, IntKind.min, IntKind.max, IntKind.signed, IntKind.bits] at hw
      refine ⟨UInt8.ofNat z.toNat, h0.trans ?_⟩
      unfold bc
      simp
      omega
    obtain ⟨f, hf⟩ := Deep.choose_lt each
    refine ⟨(List.range len).map f, some a, cap, by simp, by simpa using hl, hm, (by intro h; cases h), fun hne => ⟨a, rfl, ?_, ?_⟩⟩
    · have hpos : 0 < len := by
        rcases Nat.eq_zero_or_pos len with h0 | h0
        · subst h0; exact absurd rfl hne
        · exact h0
      have := cell_lt (hf 0 hpos)
      rwa [block_add] at this
    · intro j u hj
      have hjl : j < len := by
        have := (List.getElem?_eq_some_iff.1 hj).1
        simpa using this
      rw [hf j hjl]
      simp [hjl] at hj
      rw [hj]

theorem trod_float {t : TypeId} {k : FloatKind} {fuel : Nat} {cs : List Value} {x : DataW H × List MemPlace} (ht : Try.prog.underlying t = some (.float k)) (h : DataW.trod enc Try.prog W 0 sp hd fuel t cs = some x) : ∃ b, cs = [.float k b] ∧ (Lit.float k b).wf = true := by
  cases fuel with
  | zero => simp [DataW.trod] at h
  | succ n =>
    unfold DataW.trod at h
    rw [ht] at h
    split at h <;> simp_all

end

end Go.Proofs.Ytlnpolepgdoloaa
