/- Layer 2: digests of parts, by the program and by the document. -/
import Derived.Test.YtlnpolepgdoloaaTParts
namespace Go.Proofs.Ytlnpolepgdoloaa
open Go.RowKit
set_option linter.unusedVariables false

/-- a part's bytes; parts' bytes; a digest's bytes -/
def partB (l : List UInt8) : List UInt8 := be 4 l.length ++ l
def partsB (ls : List (List UInt8)) : List UInt8 := ls.flatMap partB
def headT (tag : UInt8) (n : Nat) : List UInt8 := [tag] ++ be 4 (capC n).toNat
def encT (tag : UInt8) (ls : List (List UInt8)) : List UInt8 := headT tag ls.length ++ partsB ls

theorem partB_length (l : List UInt8) : (partB l).length = 4 + l.length := by simp [partB, be_length]
theorem headT_length (tag : UInt8) (n : Nat) : (headT tag n).length = 5 := by simp [headT, be_length]
theorem partsB_take (ls : List (List UInt8)) (k : Nat) (h : k < ls.length) : partsB (ls.take (k + 1)) = partsB (ls.take k) ++ partB ls[k] := by
  unfold partsB
  rw [List.take_succ_eq_append_getElem h, List.flatMap_append, List.flatMap_singleton]
theorem partsB_take_le (ls : List (List UInt8)) (k : Nat) : (partsB (ls.take k)).length ≤ (partsB ls).length := by
  have h : partsB ls = partsB (ls.take k) ++ partsB (ls.drop k) := by unfold partsB; rw [← List.flatMap_append, List.take_append_drop]
  rw [h, List.length_append]
  omega
theorem partsB_few (ls : List (List UInt8)) (h : ∀ l ∈ ls, l.length ≤ 20000) : (partsB ls).length ≤ 20004 * ls.length := by
  induction ls with
  | nil => simp [partsB]
  | cons l ls ih =>
    have h1 := h l (by simp)
    have h2 := ih (fun j hj => h j (by simp [hj]))
    have h3 : partsB (l :: ls) = partB l ++ partsB ls := by simp [partsB]
    rw [h3, List.length_append, partB_length, List.length_cons]
    omega
theorem encT_length (tag : UInt8) (ls : List (List UInt8)) : (encT tag ls).length = 5 + (partsB ls).length := by simp [encT, headT_length]

theorem own_mono {w : World} {B B' n : Nat} {e : TypeId} {v : Value} {xs : List Value} (h : w.ownsRow B' e 1 v n xs) (hB : B ≤ B') : w.ownsRow B e 1 v n xs := by
  obtain ⟨h1, h2⟩ := h
  refine ⟨h1, ?_⟩
  rcases h2 with h2 | ⟨g, cap, cur, h3, h4, h5⟩
  · exact .inl h2
  · exact .inr ⟨g, cap, cur, h3, Nat.le_trans hB h4, h5⟩

/-- what makes a digest: the string of its bytes; new memory alone -/
def Tells (s : List UInt8) (w : World) (e : Ending) (w' : World) : Prop := e = .returned (.string (strB s)) ∧ Below w.heap.size w w'

end Go.Proofs.Ytlnpolepgdoloaa
