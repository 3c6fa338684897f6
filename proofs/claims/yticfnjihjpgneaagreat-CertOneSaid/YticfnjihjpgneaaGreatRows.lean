/-
  No cell of these rows narrows 'for every input' (looked for: loops, veiled, ifaces, maps, wideKeys, modest, calm, conditions, laid).
  DERIVED. THE GIVEN ROWS OF THIS SEAT. 9 by the template 'for every input the law returns true; each argument reads behind the call as it read before'; 0 by the template 'total and deterministic' (their statements: YticfnjihjpgneaaGreatTotals.lean).
  GIVEN WITH THE SEED: the statements are not yours to turn. If you find one false, say at which input.
  Laid BY PROGRAM, IN A SANDBOX (cutbox-rows.mjs): the forced cells as the released guide's own fill.sh prints them over the translation f8b28c46b9cc4ba3… (all of the seat's roots in one cut). By AI agents, Wed Nov 11 2026. No macro, syntax, notation, axiom, sorry.
-/
import Derived.Test.YticfnjihjpgneaaGreatChecked
import GoSem.Claim
import GoSem.ClaimJoined
import GoSem.ClaimMapViews
import Derived.JoinedTies
import Derived.KernelRfl
namespace Go.Proofs.YticfnjihjpgneaaGreat
/- THE CELL 'sum', in the pinned program and in every row, IS THE sha256 OF THE DUMP (.gsa) THAT YticfnjihjpgneaaGreatProg.lean LOADS. Nothing in Lean hashes anything: it is a label: what it is worth is what the hold of that sum in a sandbox is worth. -/
noncomputable def Tryz.pinned : Pinned := { name := "yticfnjihjpgneaagreat", sum := "f8b28c46b9cc4ba368ab9eb03170b7eb9cca0ee1e0a94eb793cfa07724352947", checked := Tryz.checked }
namespace Rows
def none {H : Type} : Left H := { results := [], args := [] }

/-- 'quaestorlaw13.CertOne': WHATEVER THE INPUT: true; the input reads as it did. -/
def certOneSpec : ChangeSpec := { name := "certOne", fn := fun _ => fun
  | [d1, d2, d3] => { results := [.lit (.bool true)], args := [d1, d2, d3] }
  | _ => none }
def certOneRow : OpenClaim := { program := "yticfnjihjpgneaagreat", sum := "f8b28c46b9cc4ba368ab9eb03170b7eb9cca0ee1e0a94eb793cfa07724352947", func := "quaestor/quaestorlaw13.CertOne", spec := "certOne", unfollowed := true, recurses := true, plainKeys := false, apart := false }
def CertOneSaid : Prop := certOneRow.holds Tryz.pinned (OpenSpec.ofChange certOneSpec)

/-- ITS FALSE NEIGHBOUR: 'it returns false'. Refute it at one input. -/
def certOneWrong : ChangeSpec := { name := "certOne", fn := fun _ => fun
  | [d1, d2, d3] => { results := [.lit (.bool false)], args := [d1, d2, d3] }
  | _ => none }
def CertOneWrongFalsely : Prop := certOneRow.holds Tryz.pinned (OpenSpec.ofChange certOneWrong)

/-- 'quaestorlaw14.SlotsRoom': WHATEVER THE INPUT: true; the input reads as it did. -/
def slotsRoomSpec : ChangeSpec := { name := "slotsRoom", fn := fun _ => fun
  | [d1, d2] => { results := [.lit (.bool true)], args := [d1, d2] }
  | _ => none }
def slotsRoomRow : OpenClaim := { program := "yticfnjihjpgneaagreat", sum := "f8b28c46b9cc4ba368ab9eb03170b7eb9cca0ee1e0a94eb793cfa07724352947", func := "quaestor/quaestorlaw14.SlotsRoom", spec := "slotsRoom", unfollowed := true, recurses := true, plainKeys := false, apart := false }
def SlotsRoomSaid : Prop := slotsRoomRow.holds Tryz.pinned (OpenSpec.ofChange slotsRoomSpec)

/-- ITS FALSE NEIGHBOUR: 'it returns false'. Refute it at one input. -/
def slotsRoomWrong : ChangeSpec := { name := "slotsRoom", fn := fun _ => fun
  | [d1, d2] => { results := [.lit (.bool false)], args := [d1, d2] }
  | _ => none }
def SlotsRoomWrongFalsely : Prop := slotsRoomRow.holds Tryz.pinned (OpenSpec.ofChange slotsRoomWrong)

/-- 'quaestorlaw14.SlotsProves': WHATEVER THE INPUT: true; the input reads as it did. -/
def slotsProvesSpec : ChangeSpec := { name := "slotsProves", fn := fun _ => fun
  | [d1, d2] => { results := [.lit (.bool true)], args := [d1, d2] }
  | _ => none }
def slotsProvesRow : OpenClaim := { program := "yticfnjihjpgneaagreat", sum := "f8b28c46b9cc4ba368ab9eb03170b7eb9cca0ee1e0a94eb793cfa07724352947", func := "quaestor/quaestorlaw14.SlotsProves", spec := "slotsProves", unfollowed := true, recurses := true, plainKeys := false, apart := false }
def SlotsProvesSaid : Prop := slotsProvesRow.holds Tryz.pinned (OpenSpec.ofChange slotsProvesSpec)

/-- ITS FALSE NEIGHBOUR: 'it returns false'. Refute it at one input. -/
def slotsProvesWrong : ChangeSpec := { name := "slotsProves", fn := fun _ => fun
  | [d1, d2] => { results := [.lit (.bool false)], args := [d1, d2] }
  | _ => none }
def SlotsProvesWrongFalsely : Prop := slotsProvesRow.holds Tryz.pinned (OpenSpec.ofChange slotsProvesWrong)

/-- 'quaestorlaw14.SlotsOne': WHATEVER THE INPUT: true; the input reads as it did. -/
def slotsOneSpec : ChangeSpec := { name := "slotsOne", fn := fun _ => fun
  | [d1, d2, d3] => { results := [.lit (.bool true)], args := [d1, d2, d3] }
  | _ => none }
def slotsOneRow : OpenClaim := { program := "yticfnjihjpgneaagreat", sum := "f8b28c46b9cc4ba368ab9eb03170b7eb9cca0ee1e0a94eb793cfa07724352947", func := "quaestor/quaestorlaw14.SlotsOne", spec := "slotsOne", unfollowed := true, recurses := true, plainKeys := false, apart := false }
def SlotsOneSaid : Prop := slotsOneRow.holds Tryz.pinned (OpenSpec.ofChange slotsOneSpec)

/-- ITS FALSE NEIGHBOUR: 'it returns false'. Refute it at one input. -/
def slotsOneWrong : ChangeSpec := { name := "slotsOne", fn := fun _ => fun
  | [d1, d2, d3] => { results := [.lit (.bool false)], args := [d1, d2, d3] }
  | _ => none }
def SlotsOneWrongFalsely : Prop := slotsOneRow.holds Tryz.pinned (OpenSpec.ofChange slotsOneWrong)

/-- 'quaestorlaw14.SlotsOrder': WHATEVER THE INPUT: true; the input reads as it did. -/
def slotsOrderSpec : ChangeSpec := { name := "slotsOrder", fn := fun _ => fun
  | [d1, d2, d3] => { results := [.lit (.bool true)], args := [d1, d2, d3] }
  | _ => none }
def slotsOrderRow : OpenClaim := { program := "yticfnjihjpgneaagreat", sum := "f8b28c46b9cc4ba368ab9eb03170b7eb9cca0ee1e0a94eb793cfa07724352947", func := "quaestor/quaestorlaw14.SlotsOrder", spec := "slotsOrder", unfollowed := true, recurses := true, plainKeys := false, apart := false }
def SlotsOrderSaid : Prop := slotsOrderRow.holds Tryz.pinned (OpenSpec.ofChange slotsOrderSpec)

/-- ITS FALSE NEIGHBOUR: 'it returns false'. Refute it at one input. -/
def slotsOrderWrong : ChangeSpec := { name := "slotsOrder", fn := fun _ => fun
  | [d1, d2, d3] => { results := [.lit (.bool false)], args := [d1, d2, d3] }
  | _ => none }
def SlotsOrderWrongFalsely : Prop := slotsOrderRow.holds Tryz.pinned (OpenSpec.ofChange slotsOrderWrong)

/-- 'quaestorlaw15.ChangeReads': WHATEVER THE INPUT: true; the input reads as it did. -/
def changeReadsSpec : ChangeSpec := { name := "changeReads", fn := fun _ => fun
  | [d1, d2] => { results := [.lit (.bool true)], args := [d1, d2] }
  | _ => none }
def changeReadsRow : OpenClaim := { program := "yticfnjihjpgneaagreat", sum := "f8b28c46b9cc4ba368ab9eb03170b7eb9cca0ee1e0a94eb793cfa07724352947", func := "quaestor/quaestorlaw15.ChangeReads", spec := "changeReads", unfollowed := true, recurses := true, plainKeys := false, apart := false }
def ChangeReadsSaid : Prop := changeReadsRow.holds Tryz.pinned (OpenSpec.ofChange changeReadsSpec)

/-- ITS FALSE NEIGHBOUR: 'it returns false'. Refute it at one input. -/
def changeReadsWrong : ChangeSpec := { name := "changeReads", fn := fun _ => fun
  | [d1, d2] => { results := [.lit (.bool false)], args := [d1, d2] }
  | _ => none }
def ChangeReadsWrongFalsely : Prop := changeReadsRow.holds Tryz.pinned (OpenSpec.ofChange changeReadsWrong)

/-- 'quaestorlaw15.ChangePlans': WHATEVER THE INPUT: true; the input reads as it did. -/
def changePlansSpec : ChangeSpec := { name := "changePlans", fn := fun _ => fun
  | [d1, d2, d3] => { results := [.lit (.bool true)], args := [d1, d2, d3] }
  | _ => none }
def changePlansRow : OpenClaim := { program := "yticfnjihjpgneaagreat", sum := "f8b28c46b9cc4ba368ab9eb03170b7eb9cca0ee1e0a94eb793cfa07724352947", func := "quaestor/quaestorlaw15.ChangePlans", spec := "changePlans", unfollowed := true, recurses := true, plainKeys := false, apart := false }
def ChangePlansSaid : Prop := changePlansRow.holds Tryz.pinned (OpenSpec.ofChange changePlansSpec)

/-- ITS FALSE NEIGHBOUR: 'it returns false'. Refute it at one input. -/
def changePlansWrong : ChangeSpec := { name := "changePlans", fn := fun _ => fun
  | [d1, d2, d3] => { results := [.lit (.bool false)], args := [d1, d2, d3] }
  | _ => none }
def ChangePlansWrongFalsely : Prop := changePlansRow.holds Tryz.pinned (OpenSpec.ofChange changePlansWrong)

/-- 'quaestorlaw15.ChangeKeeps': WHATEVER THE INPUT: true; the input reads as it did. -/
def changeKeepsSpec : ChangeSpec := { name := "changeKeeps", fn := fun _ => fun
  | [d1, d2, d3] => { results := [.lit (.bool true)], args := [d1, d2, d3] }
  | _ => none }
def changeKeepsRow : OpenClaim := { program := "yticfnjihjpgneaagreat", sum := "f8b28c46b9cc4ba368ab9eb03170b7eb9cca0ee1e0a94eb793cfa07724352947", func := "quaestor/quaestorlaw15.ChangeKeeps", spec := "changeKeeps", unfollowed := true, recurses := true, plainKeys := false, apart := false }
def ChangeKeepsSaid : Prop := changeKeepsRow.holds Tryz.pinned (OpenSpec.ofChange changeKeepsSpec)

/-- ITS FALSE NEIGHBOUR: 'it returns false'. Refute it at one input. -/
def changeKeepsWrong : ChangeSpec := { name := "changeKeeps", fn := fun _ => fun
  | [d1, d2, d3] => { results := [.lit (.bool false)], args := [d1, d2, d3] }
  | _ => none }
def ChangeKeepsWrongFalsely : Prop := changeKeepsRow.holds Tryz.pinned (OpenSpec.ofChange changeKeepsWrong)

/-- 'quaestorlaw15.ChangeLow': WHATEVER THE INPUT: true; the input reads as it did. -/
def changeLowSpec : ChangeSpec := { name := "changeLow", fn := fun _ => fun
  | [d1, d2, d3] => { results := [.lit (.bool true)], args := [d1, d2, d3] }
  | _ => none }
def changeLowRow : OpenClaim := { program := "yticfnjihjpgneaagreat", sum := "f8b28c46b9cc4ba368ab9eb03170b7eb9cca0ee1e0a94eb793cfa07724352947", func := "quaestor/quaestorlaw15.ChangeLow", spec := "changeLow", unfollowed := true, recurses := true, plainKeys := false, apart := false }
def ChangeLowSaid : Prop := changeLowRow.holds Tryz.pinned (OpenSpec.ofChange changeLowSpec)

/-- ITS FALSE NEIGHBOUR: 'it returns false'. Refute it at one input. -/
def changeLowWrong : ChangeSpec := { name := "changeLow", fn := fun _ => fun
  | [d1, d2, d3] => { results := [.lit (.bool false)], args := [d1, d2, d3] }
  | _ => none }
def ChangeLowWrongFalsely : Prop := changeLowRow.holds Tryz.pinned (OpenSpec.ofChange changeLowWrong)

/- THE SECOND FORM. 'bulk': how many values and letters a reading holds, each counted each time it is reached (what is shared counts as often as it is met; a slice's spare places count too). A statement '..UptoSaid' is the law's where the arguments, and the package variables that the reading takes, are together of bulk at most 1048576: NARROWER than '..Said'. Prove '..Said' where nothing that the law and all that it calls make is longer than what came in: it says more and counts as full. Else prove '..UptoSaid'. A law counts once. -/
mutual
def uptoBulk {H : Type} : DataW H → Nat
  | .lit (.string bytes) => bytes.length + 1
  | .lit _ => 1
  | .nil => 1
  | .ptr d => uptoBulk d + 1
  | .slice elems spare => uptoBulkAll elems + uptoBulkAll spare + 1
  | .agg parts => uptoBulkAll parts + 1
  | .iface _ d => uptoBulk d + 1
  | .map entries => uptoBulkEntries entries + 1
  | .held _ => 1
def uptoBulkAll {H : Type} : List (DataW H) → Nat
  | [] => 0
  | d :: r => uptoBulk d + uptoBulkAll r
def uptoBulkEntries {H : Type} : List (Lit × DataW H) → Nat
  | [] => 0
  | x :: r => uptoBulkEntry x + uptoBulkEntries r
def uptoBulkEntry {H : Type} : Lit × DataW H → Nat
  | (.string bytes, d) => bytes.length + uptoBulk d + 1
  | (_, d) => uptoBulk d + 1
 end
def uptoSmall : (H : Type) → List (DataW H) → Bool := fun _ ds => decide (uptoBulkAll ds ≤ 1048576)
def OpenSpec.upto (s : _root_.Go.ChangeSpec) : _root_.Go.OpenSpec := { _root_.Go.OpenSpec.ofChange s with cond := some uptoSmall }

/-- 'quaestorlaw13.CertOne', WHERE WHAT IT READS IS OF BULK AT MOST 1048576: true; the input reads as it did. -/
def certOneUptoRow : OpenClaim := { program := "yticfnjihjpgneaagreat", sum := "f8b28c46b9cc4ba368ab9eb03170b7eb9cca0ee1e0a94eb793cfa07724352947", func := "quaestor/quaestorlaw13.CertOne", spec := "certOne", unfollowed := true, recurses := true, plainKeys := false, apart := false, narrowed := true }
def CertOneUptoSaid : Prop := certOneUptoRow.holds Tryz.pinned (OpenSpec.upto certOneSpec)

/-- 'quaestorlaw14.SlotsRoom', WHERE WHAT IT READS IS OF BULK AT MOST 1048576: true; the input reads as it did. -/
def slotsRoomUptoRow : OpenClaim := { program := "yticfnjihjpgneaagreat", sum := "f8b28c46b9cc4ba368ab9eb03170b7eb9cca0ee1e0a94eb793cfa07724352947", func := "quaestor/quaestorlaw14.SlotsRoom", spec := "slotsRoom", unfollowed := true, recurses := true, plainKeys := false, apart := false, narrowed := true }
def SlotsRoomUptoSaid : Prop := slotsRoomUptoRow.holds Tryz.pinned (OpenSpec.upto slotsRoomSpec)

/-- 'quaestorlaw14.SlotsProves', WHERE WHAT IT READS IS OF BULK AT MOST 1048576: true; the input reads as it did. -/
def slotsProvesUptoRow : OpenClaim := { program := "yticfnjihjpgneaagreat", sum := "f8b28c46b9cc4ba368ab9eb03170b7eb9cca0ee1e0a94eb793cfa07724352947", func := "quaestor/quaestorlaw14.SlotsProves", spec := "slotsProves", unfollowed := true, recurses := true, plainKeys := false, apart := false, narrowed := true }
def SlotsProvesUptoSaid : Prop := slotsProvesUptoRow.holds Tryz.pinned (OpenSpec.upto slotsProvesSpec)

/-- 'quaestorlaw14.SlotsOne', WHERE WHAT IT READS IS OF BULK AT MOST 1048576: true; the input reads as it did. -/
def slotsOneUptoRow : OpenClaim := { program := "yticfnjihjpgneaagreat", sum := "f8b28c46b9cc4ba368ab9eb03170b7eb9cca0ee1e0a94eb793cfa07724352947", func := "quaestor/quaestorlaw14.SlotsOne", spec := "slotsOne", unfollowed := true, recurses := true, plainKeys := false, apart := false, narrowed := true }
def SlotsOneUptoSaid : Prop := slotsOneUptoRow.holds Tryz.pinned (OpenSpec.upto slotsOneSpec)

/-- 'quaestorlaw14.SlotsOrder', WHERE WHAT IT READS IS OF BULK AT MOST 1048576: true; the input reads as it did. -/
def slotsOrderUptoRow : OpenClaim := { program := "yticfnjihjpgneaagreat", sum := "f8b28c46b9cc4ba368ab9eb03170b7eb9cca0ee1e0a94eb793cfa07724352947", func := "quaestor/quaestorlaw14.SlotsOrder", spec := "slotsOrder", unfollowed := true, recurses := true, plainKeys := false, apart := false, narrowed := true }
def SlotsOrderUptoSaid : Prop := slotsOrderUptoRow.holds Tryz.pinned (OpenSpec.upto slotsOrderSpec)

/-- 'quaestorlaw15.ChangeReads', WHERE WHAT IT READS IS OF BULK AT MOST 1048576: true; the input reads as it did. -/
def changeReadsUptoRow : OpenClaim := { program := "yticfnjihjpgneaagreat", sum := "f8b28c46b9cc4ba368ab9eb03170b7eb9cca0ee1e0a94eb793cfa07724352947", func := "quaestor/quaestorlaw15.ChangeReads", spec := "changeReads", unfollowed := true, recurses := true, plainKeys := false, apart := false, narrowed := true }
def ChangeReadsUptoSaid : Prop := changeReadsUptoRow.holds Tryz.pinned (OpenSpec.upto changeReadsSpec)

/-- 'quaestorlaw15.ChangePlans', WHERE WHAT IT READS IS OF BULK AT MOST 1048576: true; the input reads as it did. -/
def changePlansUptoRow : OpenClaim := { program := "yticfnjihjpgneaagreat", sum := "f8b28c46b9cc4ba368ab9eb03170b7eb9cca0ee1e0a94eb793cfa07724352947", func := "quaestor/quaestorlaw15.ChangePlans", spec := "changePlans", unfollowed := true, recurses := true, plainKeys := false, apart := false, narrowed := true }
def ChangePlansUptoSaid : Prop := changePlansUptoRow.holds Tryz.pinned (OpenSpec.upto changePlansSpec)

/-- 'quaestorlaw15.ChangeKeeps', WHERE WHAT IT READS IS OF BULK AT MOST 1048576: true; the input reads as it did. -/
def changeKeepsUptoRow : OpenClaim := { program := "yticfnjihjpgneaagreat", sum := "f8b28c46b9cc4ba368ab9eb03170b7eb9cca0ee1e0a94eb793cfa07724352947", func := "quaestor/quaestorlaw15.ChangeKeeps", spec := "changeKeeps", unfollowed := true, recurses := true, plainKeys := false, apart := false, narrowed := true }
def ChangeKeepsUptoSaid : Prop := changeKeepsUptoRow.holds Tryz.pinned (OpenSpec.upto changeKeepsSpec)

/-- 'quaestorlaw15.ChangeLow', WHERE WHAT IT READS IS OF BULK AT MOST 1048576: true; the input reads as it did. -/
def changeLowUptoRow : OpenClaim := { program := "yticfnjihjpgneaagreat", sum := "f8b28c46b9cc4ba368ab9eb03170b7eb9cca0ee1e0a94eb793cfa07724352947", func := "quaestor/quaestorlaw15.ChangeLow", spec := "changeLow", unfollowed := true, recurses := true, plainKeys := false, apart := false, narrowed := true }
def ChangeLowUptoSaid : Prop := changeLowUptoRow.holds Tryz.pinned (OpenSpec.upto changeLowSpec)

end Rows
end Go.Proofs.YticfnjihjpgneaaGreat
