/- The laws' own walks: awake, WireWrites, WireApart. -/
import Derived.Test.YtlnpolepgdoloaaLawPut
import Derived.Test.YtlnpolepgdoloaaMeth
import Derived.Lib.SlBytesConst
namespace Go.Proofs.Ytlnpolepgdoloaa
open Go.RowKit
set_option linter.unusedVariables false

/-- an item as a value -/
def Itm.val (i : Itm) (bv : Value) : Value := .agg #[.int .i64 i.kind, .int .i64 i.n, bv, .float .f64 i.x]

/-- a literal row of bytes -/
theorem Bs.lit (w : World) (l : List UInt8) (hl : l ≠ []) (hl2 : l.length ≤ 1000000) (cs : Array Value) (n : Nat) (hcs : cs = (l.map bc).toArray) (hn : n = l.length) (b : Nat) (hb : b = w.heap.size) (fr : Nat × Nat := (0, 0)) : Bs (w.alloc (.cells cs 5 fr)) (.slice (some ⟨b, 0, none⟩) n n) l := by
  subst hcs hn hb
  refine ⟨some ⟨w.heap.size, 0, none⟩, l.length, by simp, by simp, by unfold maxLen; omega, (by intro h; cases h), fun _ => ⟨⟨w.heap.size, 0, none⟩, rfl, by simp, fun j u hj => ?_⟩⟩
  rw [Addr.add_lit, Nat.zero_add, cell_of_row _ _ j _ 5 fr (heap_alloc_new w _)]
  simpa using hj

end Go.Proofs.Ytlnpolepgdoloaa
