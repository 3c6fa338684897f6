/- An argument that is a row of items, opened. -/
import Derived.Test.YtdhpklbdajcfoaaRow
namespace Go.Proofs.Ytdhpklbdajcfoaa
open Go.RowKit Go.ChangeShapes Go.WideShapes Go.ChangeAt
set_option linter.unusedVariables false

section
variable {H : Type} {enc : TypeId × Value → H} {W : World} {sp : Nat → Bool} {hd : Bool}

theorem cell_lt {w : World} {a : Addr} {v : Value} (h : w.cell? a = some v) : a.block < w.heap.size := World.block_lt_of_cell? w a h

theorem open_bytes {fuel : Nat} {v : Value} {x : DataW H × List MemPlace} (h : DataW.trod enc Try.prog W 0 sp hd fuel 24 [v] = some x) : ∃ l, Bs W v l := by
  rcases DataW.trod_slice Try.underlying24 h with ⟨hc, -⟩ | ⟨a, len, cap, elems, rest, n, -, hc, -, -, hl, hm, hel, hx, -, -⟩
  · injection hc with hc
    subst hc
    exact ⟨[], Bs.nil W⟩
  · injection hc with hc
    subst hc
    have hone : Try.prog.cellsOf 5 = 1 := by kernel_rfl
    have each : ∀ i, i < len → ∃ b : UInt8, W.cell? (a.add i) = some (bc b) := by
      intro i hi
      have h1 := hx i hi
      rw [hone, Nat.mul_one, List.getElem?_eq_getElem (by omega)] at h1
      obtain ⟨cs, hcs, ht⟩ := Option.bind_eq_some_iff.1 h1
      obtain ⟨z, hz, -, hw⟩ := DataW.trod_int Try.underlying5 ht
      subst hz
      obtain ⟨-, -, hat⟩ := World.cells?_some hcs
      have h0 := hat 0 (by omega)
      rw [Addr.add_zero'] at h0
      simp [Lit.wf, IntKind.min, IntKind.max, IntKind.signed, IntKind.bits] at hw
      refine ⟨UInt8.ofNat z.toNat, h0.trans ?_⟩
      unfold bc
      simp
      omega
    obtain ⟨f, hf⟩ := Deep.choose_lt each
    refine ⟨(List.range len).map f, some a, cap, by simp, by simpa using hl, hm, (by intro h; cases h), fun hne => ⟨a, rfl, ?_, ?_⟩⟩
    · have hpos : 0 < len := by
        rcases Nat.eq_zero_or_pos len with h0 | h0
        · subst h0; exact absurd rfl hne
        · exact h0
      have := cell_lt (hf 0 hpos)
      rwa [block_add] at this
    · intro j u hj
      have hjl : j < len := by
        have := (List.getElem?_eq_some_iff.1 hj).1
        simpa using this
      rw [hf j hjl]
      simp [hjl] at hj
      rw [hj]

theorem trod_float {t : TypeId} {k : FloatKind} {fuel : Nat} {cs : List Value} {x : DataW H × List MemPlace} (ht : Try.prog.underlying t = some (.float k)) (h : DataW.trod enc Try.prog W 0 sp hd fuel t cs = some x) : ∃ b, cs = [.float k b] ∧ (Lit.float k b).wf = true := by
  cases fuel with
  | zero => simp [DataW.trod] at h
  | succ n =>
    unfold DataW.trod at h
    rw [ht] at h
    split at h <;> simp_all

theorem open_items {v : Value} {d : DataW H} {ps : List MemPlace} {base : Nat} (hv : Value.okWide Try.prog W .any base 22 v) (h : DataW.Trod enc Try.prog W 0 sp hd 22 v d ps) : ∃ its, Itms W v its := by
  obtain ⟨A, len, cap, rfl⟩ := okWide_slice Try.underlying22 hv
  obtain ⟨fuel, hf⟩ := h
  rcases DataW.trod_slice Try.underlying22 hf with ⟨hc, -⟩ | ⟨a, len', cap', elems, rest, n, -, hc, -, -, hl, hm, hel, hx, -, -⟩
  · simp [Value.cells] at hc
    obtain ⟨rfl, rfl, rfl⟩ := hc
    exact ⟨[], none, 0, rfl, Nat.le_refl _, Nat.zero_le _, fun _ => rfl, fun h => absurd rfl h⟩
  · simp [Value.cells] at hc
    obtain ⟨rfl, rfl, rfl⟩ := hc
    have hfour : Try.prog.cellsOf 32 = 4 := by kernel_rfl
    have each : ∀ i, i < len → ∃ it : Itm, ItmAt W (a.add (i * 4)) it := by
      intro i hi
      have h1 := hx i hi
      rw [hfour, List.getElem?_eq_getElem (by omega)] at h1
      obtain ⟨cs, hcs, ht⟩ := Option.bind_eq_some_iff.1 h1
      obtain ⟨-, hlen, hat⟩ := World.cells?_some hcs
      obtain ⟨ys, m, -, -, -, hys, hfs⟩ := DataW.trod_struct Try.underlying32 ht
      match cs, hlen with
      | [c0, c1, c2, c3], _ =>
        match ys, hys with
        | [y0, y1, y2, y3], _ =>
          have e0 := hat 0 (by omega)
          have e1 := hat 1 (by omega)
          have e2 := hat 2 (by omega)
          have e3 := hat 3 (by omega)
          have k1 : Try.prog.cellsOf 3 = 1 := by kernel_rfl
          have k2 : Try.prog.cellsOf 2 = 1 := by kernel_rfl
          have k3 : Try.prog.cellsOf 24 = 1 := by kernel_rfl
          have k4 : Try.prog.cellsOf 30 = 1 := by kernel_rfl
          have g0 := hfs 0 _ rfl
          have g1 := hfs 1 _ rfl
          have g2 := hfs 2 _ rfl
          have g3 := hfs 3 _ rfl
          simp [k1, k2, k3, k4] at g0 g1 g2 g3
          obtain ⟨z0, hz0, -, w0⟩ := DataW.trod_int Try.underlying3 g0
          obtain ⟨z1, hz1, -, w1⟩ := DataW.trod_int Try.underlying2 g1
          obtain ⟨l, hb⟩ := open_bytes g2
          obtain ⟨z3, hz3, w3⟩ := trod_float Try.underlying30 g3
          simp at hz0 hz1 hz3
          subst hz0 hz1 hz3
          simp [Lit.wf, IntKind.min, IntKind.max, IntKind.signed, IntKind.bits] at w0 w1
          have w3' : z3 < 18446744073709551616 := by simpa [Lit.wf, FloatKind.format, Ieee.double, Ieee.Format.width] using w3
          refine ⟨⟨z0, z1, l, z3⟩, (by unfold Itm.ok; simp only; omega), c2, ?_, ?_, ?_, hb, ?_⟩
          · simpa [Addr.add_zero'] using e0
          · simpa [Addr.add_succ'] using e1
          · simpa [Addr.add_succ'] using e2
          · simpa [Addr.add_succ'] using e3
    have inst : Inhabited Itm := ⟨⟨0, 0, [], 0⟩⟩
    obtain ⟨f, hf'⟩ := Deep.choose_lt each
    refine ⟨(List.range len).map f, some a, cap, by simp, by simpa using hl, hm, (by intro h; cases h), fun hne => ⟨a, rfl, ?_, ?_⟩⟩
    · have hpos : 0 < len := by
        rcases Nat.eq_zero_or_pos len with h0 | h0
        · subst h0; exact absurd rfl hne
        · exact h0
      have := cell_lt (hf' 0 hpos).2.choose_spec.1
      rwa [block_add] at this
    · intro j u hj
      have hjl : j < len := by
        have := (List.getElem?_eq_some_iff.1 hj).1
        simpa using this
      simp [hjl] at hj
      rw [← hj]
      exact hf' j hjl
end

end Go.Proofs.Ytdhpklbdajcfoaa
