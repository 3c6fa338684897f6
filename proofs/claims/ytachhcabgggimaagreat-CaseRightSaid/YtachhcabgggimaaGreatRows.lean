/-
  NARROWER THAN 'FOR EVERY INPUT', by the rows' own cells (each row's printed sentence says how): CaseRight: loops · CaseDoes: loops · CasePlays: loops · CaseStays: loops · CaseQuorum: loops · CaseShut: loops.
  DERIVED. THE GIVEN ROWS OF THIS SEAT. 7 by the template 'for every input the law returns true; each argument reads behind the call as it read before'; 0 by the template 'total and deterministic' (their statements: YtachhcabgggimaaGreatTotals.lean).
  GIVEN WITH THE SEED: the statements are not yours to turn. If you find one false, say at which input.
  Laid BY PROGRAM, IN A SANDBOX (cutbox-rows.mjs): the forced cells as the released guide's own fill.sh prints them over the translation dffcf75c2c830a57… (all of the seat's roots in one cut). By AI agents, Wed Nov 11 2026. No macro, syntax, notation, axiom, sorry.
-/
import Derived.Test.YtachhcabgggimaaGreatChecked
import GoSem.Claim
import GoSem.ClaimJoined
import GoSem.ClaimMapViews
import Derived.JoinedTies
import Derived.KernelRfl
namespace Go.Proofs.YtachhcabgggimaaGreat
/- THE CELL 'sum', in the pinned program and in every row, IS THE sha256 OF THE DUMP (.gsa) THAT YtachhcabgggimaaGreatProg.lean LOADS. Nothing in Lean hashes anything: it is a label: what it is worth is what the hold of that sum in a sandbox is worth. -/
noncomputable def Tryz.pinned : Pinned := { name := "ytachhcabgggimaagreat", sum := "dffcf75c2c830a579980190b1cfe98d7cdefcd8a87301526cc36071cfdbcdf9c", checked := Tryz.checked }
namespace Rows
def none {H : Type} : Left H := { results := [], args := [] }

/-- 'quaestorlaw06.ContractReads': WHATEVER THE INPUT: true; the input reads as it did. -/
def contractReadsSpec : ChangeSpec := { name := "contractReads", fn := fun _ => fun
  | [d] => { results := [.lit (.bool true)], args := [d] }
  | _ => none }
def contractReadsRow : OpenClaim := { program := "ytachhcabgggimaagreat", sum := "dffcf75c2c830a579980190b1cfe98d7cdefcd8a87301526cc36071cfdbcdf9c", func := "quaestor/quaestorlaw06.ContractReads", spec := "contractReads", inPlace := ["math.Float64frombits", "math.Float64bits"], unfollowed := true, recurses := true, apart := false }
def ContractReadsSaid : Prop := contractReadsRow.holds Tryz.pinned (OpenSpec.ofChange contractReadsSpec)

/-- ITS FALSE NEIGHBOUR: 'it returns false'. Refute it at one input. -/
def contractReadsWrong : ChangeSpec := { name := "contractReads", fn := fun _ => fun
  | [d] => { results := [.lit (.bool false)], args := [d] }
  | _ => none }
def ContractReadsWrongFalsely : Prop := contractReadsRow.holds Tryz.pinned (OpenSpec.ofChange contractReadsWrong)

/-- 'quaestorlaw07.CaseRight': WHATEVER THE INPUT: true; the input reads as it did. -/
def caseRightSpec : ChangeSpec := { name := "caseRight", fn := fun _ => fun
  | [d1, d2, d3] => { results := [.lit (.bool true)], args := [d1, d2, d3] }
  | _ => none }
def caseRightRow : OpenClaim := { program := "ytachhcabgggimaagreat", sum := "dffcf75c2c830a579980190b1cfe98d7cdefcd8a87301526cc36071cfdbcdf9c", func := "quaestor/quaestorlaw07.CaseRight", spec := "caseRight", inPlace := ["math.Float64bits", "slices.overlaps[int]", "math.Float64frombits"], unfollowed := true, recurses := true, loops := true, apart := false }
def CaseRightSaid : Prop := caseRightRow.holds Tryz.pinned (OpenSpec.ofChange caseRightSpec)

/-- ITS FALSE NEIGHBOUR: 'it returns false'. Refute it at one input. -/
def caseRightWrong : ChangeSpec := { name := "caseRight", fn := fun _ => fun
  | [d1, d2, d3] => { results := [.lit (.bool false)], args := [d1, d2, d3] }
  | _ => none }
def CaseRightWrongFalsely : Prop := caseRightRow.holds Tryz.pinned (OpenSpec.ofChange caseRightWrong)

/-- 'quaestorlaw07.CaseDoes': WHATEVER THE INPUT: true; the input reads as it did. -/
def caseDoesSpec : ChangeSpec := { name := "caseDoes", fn := fun _ => fun
  | [d1, d2, d3] => { results := [.lit (.bool true)], args := [d1, d2, d3] }
  | _ => none }
def caseDoesRow : OpenClaim := { program := "ytachhcabgggimaagreat", sum := "dffcf75c2c830a579980190b1cfe98d7cdefcd8a87301526cc36071cfdbcdf9c", func := "quaestor/quaestorlaw07.CaseDoes", spec := "caseDoes", inPlace := ["math.Float64bits", "slices.overlaps[int]", "math.Float64frombits"], unfollowed := true, recurses := true, loops := true, apart := false }
def CaseDoesSaid : Prop := caseDoesRow.holds Tryz.pinned (OpenSpec.ofChange caseDoesSpec)

/-- ITS FALSE NEIGHBOUR: 'it returns false'. Refute it at one input. -/
def caseDoesWrong : ChangeSpec := { name := "caseDoes", fn := fun _ => fun
  | [d1, d2, d3] => { results := [.lit (.bool false)], args := [d1, d2, d3] }
  | _ => none }
def CaseDoesWrongFalsely : Prop := caseDoesRow.holds Tryz.pinned (OpenSpec.ofChange caseDoesWrong)

/-- 'quaestorlaw07.CasePlays': WHATEVER THE INPUT: true; the input reads as it did. -/
def casePlaysSpec : ChangeSpec := { name := "casePlays", fn := fun _ => fun
  | [d1, d2] => { results := [.lit (.bool true)], args := [d1, d2] }
  | _ => none }
def casePlaysRow : OpenClaim := { program := "ytachhcabgggimaagreat", sum := "dffcf75c2c830a579980190b1cfe98d7cdefcd8a87301526cc36071cfdbcdf9c", func := "quaestor/quaestorlaw07.CasePlays", spec := "casePlays", inPlace := ["math.Float64bits", "slices.overlaps[int]", "math.Float64frombits"], unfollowed := true, recurses := true, loops := true, apart := false }
def CasePlaysSaid : Prop := casePlaysRow.holds Tryz.pinned (OpenSpec.ofChange casePlaysSpec)

/-- ITS FALSE NEIGHBOUR: 'it returns false'. Refute it at one input. -/
def casePlaysWrong : ChangeSpec := { name := "casePlays", fn := fun _ => fun
  | [d1, d2] => { results := [.lit (.bool false)], args := [d1, d2] }
  | _ => none }
def CasePlaysWrongFalsely : Prop := casePlaysRow.holds Tryz.pinned (OpenSpec.ofChange casePlaysWrong)

/-- 'quaestorlaw07.CaseStays': WHATEVER THE INPUT: true; the input reads as it did. -/
def caseStaysSpec : ChangeSpec := { name := "caseStays", fn := fun _ => fun
  | [d1, d2] => { results := [.lit (.bool true)], args := [d1, d2] }
  | _ => none }
def caseStaysRow : OpenClaim := { program := "ytachhcabgggimaagreat", sum := "dffcf75c2c830a579980190b1cfe98d7cdefcd8a87301526cc36071cfdbcdf9c", func := "quaestor/quaestorlaw07.CaseStays", spec := "caseStays", inPlace := ["math.Float64bits", "slices.overlaps[int]", "math.Float64frombits"], unfollowed := true, recurses := true, loops := true, apart := false }
def CaseStaysSaid : Prop := caseStaysRow.holds Tryz.pinned (OpenSpec.ofChange caseStaysSpec)

/-- ITS FALSE NEIGHBOUR: 'it returns false'. Refute it at one input. -/
def caseStaysWrong : ChangeSpec := { name := "caseStays", fn := fun _ => fun
  | [d1, d2] => { results := [.lit (.bool false)], args := [d1, d2] }
  | _ => none }
def CaseStaysWrongFalsely : Prop := caseStaysRow.holds Tryz.pinned (OpenSpec.ofChange caseStaysWrong)

/-- 'quaestorlaw07.CaseQuorum': WHATEVER THE INPUT: true; the input reads as it did. -/
def caseQuorumSpec : ChangeSpec := { name := "caseQuorum", fn := fun _ => fun
  | [d1, d2] => { results := [.lit (.bool true)], args := [d1, d2] }
  | _ => none }
def caseQuorumRow : OpenClaim := { program := "ytachhcabgggimaagreat", sum := "dffcf75c2c830a579980190b1cfe98d7cdefcd8a87301526cc36071cfdbcdf9c", func := "quaestor/quaestorlaw07.CaseQuorum", spec := "caseQuorum", inPlace := ["math.Float64bits", "slices.overlaps[int]", "math.Float64frombits"], unfollowed := true, recurses := true, loops := true, apart := false }
def CaseQuorumSaid : Prop := caseQuorumRow.holds Tryz.pinned (OpenSpec.ofChange caseQuorumSpec)

/-- ITS FALSE NEIGHBOUR: 'it returns false'. Refute it at one input. -/
def caseQuorumWrong : ChangeSpec := { name := "caseQuorum", fn := fun _ => fun
  | [d1, d2] => { results := [.lit (.bool false)], args := [d1, d2] }
  | _ => none }
def CaseQuorumWrongFalsely : Prop := caseQuorumRow.holds Tryz.pinned (OpenSpec.ofChange caseQuorumWrong)

/-- 'quaestorlaw07.CaseShut': WHATEVER THE INPUT: true; the input reads as it did. -/
def caseShutSpec : ChangeSpec := { name := "caseShut", fn := fun _ => fun
  | [d1, d2, d3] => { results := [.lit (.bool true)], args := [d1, d2, d3] }
  | _ => none }
def caseShutRow : OpenClaim := { program := "ytachhcabgggimaagreat", sum := "dffcf75c2c830a579980190b1cfe98d7cdefcd8a87301526cc36071cfdbcdf9c", func := "quaestor/quaestorlaw07.CaseShut", spec := "caseShut", inPlace := ["math.Float64bits", "slices.overlaps[int]", "math.Float64frombits"], unfollowed := true, recurses := true, loops := true, apart := false }
def CaseShutSaid : Prop := caseShutRow.holds Tryz.pinned (OpenSpec.ofChange caseShutSpec)

/-- ITS FALSE NEIGHBOUR: 'it returns false'. Refute it at one input. -/
def caseShutWrong : ChangeSpec := { name := "caseShut", fn := fun _ => fun
  | [d1, d2, d3] => { results := [.lit (.bool false)], args := [d1, d2, d3] }
  | _ => none }
def CaseShutWrongFalsely : Prop := caseShutRow.holds Tryz.pinned (OpenSpec.ofChange caseShutWrong)

/- THE SECOND FORM. 'bulk': how many values and letters a reading holds, each counted each time it is reached (what is shared counts as often as it is met; a slice's spare places count too). A statement '..UptoSaid' is the law's where the arguments, and the package variables that the reading takes, are together of bulk at most 1048576: NARROWER than '..Said'. Prove '..Said' where nothing that the law and all that it calls make is longer than what came in: it says more and counts as full. Else prove '..UptoSaid'. A law counts once. -/
mutual
def uptoBulk {H : Type} : DataW H → Nat
  | .lit (.string bytes) => bytes.length + 1
  | .lit _ => 1
  | .nil => 1
  | .ptr d => uptoBulk d + 1
  | .slice elems spare => uptoBulkAll elems + uptoBulkAll spare + 1
  | .agg parts => uptoBulkAll parts + 1
  | .iface _ d => uptoBulk d + 1
  | .map entries => uptoBulkEntries entries + 1
  | .held _ => 1
def uptoBulkAll {H : Type} : List (DataW H) → Nat
  | [] => 0
  | d :: r => uptoBulk d + uptoBulkAll r
def uptoBulkEntries {H : Type} : List (Lit × DataW H) → Nat
  | [] => 0
  | x :: r => uptoBulkEntry x + uptoBulkEntries r
def uptoBulkEntry {H : Type} : Lit × DataW H → Nat
  | (.string bytes, d) => bytes.length + uptoBulk d + 1
  | (_, d) => uptoBulk d + 1
 end
def uptoSmall : (H : Type) → List (DataW H) → Bool := fun _ ds => decide (uptoBulkAll ds ≤ 1048576)
def OpenSpec.upto (s : _root_.Go.ChangeSpec) : _root_.Go.OpenSpec := { _root_.Go.OpenSpec.ofChange s with cond := some uptoSmall }

/-- 'quaestorlaw06.ContractReads', WHERE WHAT IT READS IS OF BULK AT MOST 1048576: true; the input reads as it did. -/
def contractReadsUptoRow : OpenClaim := { program := "ytachhcabgggimaagreat", sum := "dffcf75c2c830a579980190b1cfe98d7cdefcd8a87301526cc36071cfdbcdf9c", func := "quaestor/quaestorlaw06.ContractReads", spec := "contractReads", inPlace := ["math.Float64frombits", "math.Float64bits"], unfollowed := true, recurses := true, apart := false, narrowed := true }
def ContractReadsUptoSaid : Prop := contractReadsUptoRow.holds Tryz.pinned (OpenSpec.upto contractReadsSpec)

/-- 'quaestorlaw07.CaseRight', WHERE WHAT IT READS IS OF BULK AT MOST 1048576: true; the input reads as it did. -/
def caseRightUptoRow : OpenClaim := { program := "ytachhcabgggimaagreat", sum := "dffcf75c2c830a579980190b1cfe98d7cdefcd8a87301526cc36071cfdbcdf9c", func := "quaestor/quaestorlaw07.CaseRight", spec := "caseRight", inPlace := ["math.Float64bits", "slices.overlaps[int]", "math.Float64frombits"], unfollowed := true, recurses := true, loops := true, apart := false, narrowed := true }
def CaseRightUptoSaid : Prop := caseRightUptoRow.holds Tryz.pinned (OpenSpec.upto caseRightSpec)

/-- 'quaestorlaw07.CaseDoes', WHERE WHAT IT READS IS OF BULK AT MOST 1048576: true; the input reads as it did. -/
def caseDoesUptoRow : OpenClaim := { program := "ytachhcabgggimaagreat", sum := "dffcf75c2c830a579980190b1cfe98d7cdefcd8a87301526cc36071cfdbcdf9c", func := "quaestor/quaestorlaw07.CaseDoes", spec := "caseDoes", inPlace := ["math.Float64bits", "slices.overlaps[int]", "math.Float64frombits"], unfollowed := true, recurses := true, loops := true, apart := false, narrowed := true }
def CaseDoesUptoSaid : Prop := caseDoesUptoRow.holds Tryz.pinned (OpenSpec.upto caseDoesSpec)

/-- 'quaestorlaw07.CasePlays', WHERE WHAT IT READS IS OF BULK AT MOST 1048576: true; the input reads as it did. -/
def casePlaysUptoRow : OpenClaim := { program := "ytachhcabgggimaagreat", sum := "dffcf75c2c830a579980190b1cfe98d7cdefcd8a87301526cc36071cfdbcdf9c", func := "quaestor/quaestorlaw07.CasePlays", spec := "casePlays", inPlace := ["math.Float64bits", "slices.overlaps[int]", "math.Float64frombits"], unfollowed := true, recurses := true, loops := true, apart := false, narrowed := true }
def CasePlaysUptoSaid : Prop := casePlaysUptoRow.holds Tryz.pinned (OpenSpec.upto casePlaysSpec)

/-- 'quaestorlaw07.CaseStays', WHERE WHAT IT READS IS OF BULK AT MOST 1048576: true; the input reads as it did. -/
def caseStaysUptoRow : OpenClaim := { program := "ytachhcabgggimaagreat", sum := "dffcf75c2c830a579980190b1cfe98d7cdefcd8a87301526cc36071cfdbcdf9c", func := "quaestor/quaestorlaw07.CaseStays", spec := "caseStays", inPlace := ["math.Float64bits", "slices.overlaps[int]", "math.Float64frombits"], unfollowed := true, recurses := true, loops := true, apart := false, narrowed := true }
def CaseStaysUptoSaid : Prop := caseStaysUptoRow.holds Tryz.pinned (OpenSpec.upto caseStaysSpec)

/-- 'quaestorlaw07.CaseQuorum', WHERE WHAT IT READS IS OF BULK AT MOST 1048576: true; the input reads as it did. -/
def caseQuorumUptoRow : OpenClaim := { program := "ytachhcabgggimaagreat", sum := "dffcf75c2c830a579980190b1cfe98d7cdefcd8a87301526cc36071cfdbcdf9c", func := "quaestor/quaestorlaw07.CaseQuorum", spec := "caseQuorum", inPlace := ["math.Float64bits", "slices.overlaps[int]", "math.Float64frombits"], unfollowed := true, recurses := true, loops := true, apart := false, narrowed := true }
def CaseQuorumUptoSaid : Prop := caseQuorumUptoRow.holds Tryz.pinned (OpenSpec.upto caseQuorumSpec)

/-- 'quaestorlaw07.CaseShut', WHERE WHAT IT READS IS OF BULK AT MOST 1048576: true; the input reads as it did. -/
def caseShutUptoRow : OpenClaim := { program := "ytachhcabgggimaagreat", sum := "dffcf75c2c830a579980190b1cfe98d7cdefcd8a87301526cc36071cfdbcdf9c", func := "quaestor/quaestorlaw07.CaseShut", spec := "caseShut", inPlace := ["math.Float64bits", "slices.overlaps[int]", "math.Float64frombits"], unfollowed := true, recurses := true, loops := true, apart := false, narrowed := true }
def CaseShutUptoSaid : Prop := caseShutUptoRow.holds Tryz.pinned (OpenSpec.upto caseShutSpec)

end Rows
end Go.Proofs.YtachhcabgggimaaGreat
