/- Arguments, opened. -/
import Derived.Test.YtlnpolepgdoloaaOpen
import Derived.Test.YtlnpolepgdoloaaTParts
import Derived.OpenShut
import Derived.ChangeMaps5
namespace Go.Proofs.Ytlnpolepgdoloaa
open Go.RowKit Go.ChangeShapes Go.WideShapes Go.ChangeAt
set_option linter.unusedVariables false
set_option maxRecDepth 20000

section
variable {H : Type} {enc : TypeId × Value → H} {W : World} {sp : Nat → Bool} {hd : Bool} {base : Nat} {v : Value} {d : DataW H} {ps : List MemPlace}

theorem byte_of {n : Int} (h : (Lit.int .u8 n).wf = true) : ∃ t : UInt8, n = (t.toNat : Int) := by
  simp [Lit.wf, IntKind.min, IntKind.max, IntKind.signed, IntKind.bits] at h
  refine ⟨UInt8.ofNat n.toNat, ?_⟩
  rw [UInt8.toNat_ofNat']
  omega

theorem open_byte (hv : Value.okWide Try.prog W .any base 5 v) (h : DataW.Trod enc Try.prog W 0 sp hd 5 v d ps) : ∃ t : UInt8, v = .int .u8 (t.toNat : Int) := by
  obtain ⟨n, rfl, -, -, hw⟩ := open_int Try.underlying5 hv h
  obtain ⟨t, rfl⟩ := byte_of hw
  exact ⟨t, rfl⟩

theorem open_row (hv : Value.okWide Try.prog W .any base 42 v) (h : DataW.Trod enc Try.prog W 0 sp hd 42 v d ps) : ∃ l, Bs W v l := by
  obtain ⟨A, len, cap, rfl⟩ := okWide_slice Try.underlying42 hv
  obtain ⟨fuel, hf⟩ := h
  exact open_bytes (by simpa [Value.cells] using hf)

theorem okWide_two {t e : TypeId} (ht : Try.prog.underlying t = some (.array 2 e)) (hc : Try.prog.cellsOf t = 2) (h : Value.okWide Try.prog W .any base t v) : ∃ c0 c1, v = .agg #[c0, c1] := by
  simp only [Value.okWide, ht] at h
  obtain ⟨cs, h1, h2, _⟩ := h
  rw [hc] at h2
  obtain ⟨l⟩ := cs
  match l, h2 with
  | [c0, c1], _ => exact ⟨c0, c1, h1⟩

theorem open_two {t e : TypeId} (ht : Try.prog.underlying t = some (.array 2 e)) (hc : Try.prog.cellsOf t = 2) (hce : Try.prog.cellsOf e = 1) (hv : Value.okWide Try.prog W .any base t v) (h : DataW.Trod enc Try.prog W 0 sp hd t v d ps) :
    ∃ c0 c1 m x0 x1, v = .agg #[c0, c1] ∧ DataW.trod enc Try.prog W 0 sp hd m e [c0] = some x0 ∧ DataW.trod enc Try.prog W 0 sp hd m e [c1] = some x1 := by
  obtain ⟨c0, c1, rfl⟩ := okWide_two ht hc hv
  obtain ⟨fuel, hf⟩ := h
  obtain ⟨xs, m, -, -, -, hl, hx⟩ := DataW.trod_array ht hf
  match xs, hl with
  | [x0, x1], _ =>
    have g0 := hx 0 (by omega)
    have g1 := hx 1 (by omega)
    simp [hce, Value.cells] at g0 g1
    exact ⟨c0, c1, m, x0, x1, rfl, g0, g1⟩

end
end Go.Proofs.Ytlnpolepgdoloaa
