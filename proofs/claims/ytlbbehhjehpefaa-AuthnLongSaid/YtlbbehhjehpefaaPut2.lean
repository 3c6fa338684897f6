/- Contracts of package wire's and the reference's encoders, continued. -/
import Derived.Test.YtlbbehhjehpefaaPut
namespace Go.Proofs.Ytlbbehhjehpefaa
open Go.RowKit
set_option linter.unusedVariables false

/-- what an encoder leaves: new memory alone, that reads as the bytes -/
def Puts (w : World) (l : List UInt8) (e : Ending) (w' : World) : Prop := ∃ v', e = .returned v' ∧ w'.ownsRow w.heap.size 5 1 v' l.length (l.map bc) ∧ Below w.heap.size w w'

theorem Puts.mk_own {w w' : World} {l : List UInt8} {v' : Value} {n : Nat} (h : w'.ownsRow w.heap.size 5 1 v' n (l.map bc)) (hb : Below w.heap.size w w') : Puts w l (.returned v') w' := ⟨v', rfl, by have := h.1; simp at this; subst this; exact h, hb⟩
theorem Puts.bs {w w' : World} {l : List UInt8} {e : Ending} (h : Puts w l e w') : ∃ v', e = .returned v' ∧ Bs w' v' l ∧ Below w.heap.size w w' := by
  obtain ⟨v', rfl, h, hb⟩ := h
  exact ⟨v', rfl, Rd.of_own h, hb⟩

theorem u64_0 (n : Int) : 0 ≤ IntKind.u64.wrap n := by rw [IntKind.wrap_u64]; omega
theorem u64_1 (n : Int) : IntKind.u64.wrap n < 18446744073709551616 := by rw [IntKind.wrap_u64]; omega

/-- an int as a word -/
def w64 (n : Int) : Nat := (IntKind.u64.wrap n).toNat
/-- a float that is no number -/
def nanB (b : Nat) : Bool := FloatKind.f64.format.order b b != some .eq
/-- the bits that are put of a float -/
def numW (b : Nat) : Nat := if nanB b then 9221120237041090561 else b

end Go.Proofs.Ytlbbehhjehpefaa
