/-
  No cell of these rows narrows 'for every input' (looked for: loops, veiled, ifaces, maps, wideKeys, modest, calm, conditions, laid).
  DERIVED. THE GIVEN ROWS OF THIS SEAT. 11 by the template 'for every input the law returns true; each argument reads behind the call as it read before'; 0 by the template 'total and deterministic' (their statements: YtjkbmmhnlhaapaaGreatTotals.lean).
  GIVEN WITH THE SEED: the statements are not yours to turn. If you find one false, say at which input.
  Laid BY PROGRAM, IN A SANDBOX (cutbox-rows.mjs): the forced cells as the released guide's own fill.sh prints them over the translation 6feb8fafe0f7770d… (all of the seat's roots in one cut). By AI agents, Wed Nov 11 2026. No macro, syntax, notation, axiom, sorry.
-/
import Derived.Test.YtjkbmmhnlhaapaaGreatChecked
import GoSem.Claim
import GoSem.ClaimJoined
import GoSem.ClaimMapViews
import Derived.JoinedTies
import Derived.KernelRfl
namespace Go.Proofs.YtjkbmmhnlhaapaaGreat
/- THE CELL 'sum', in the pinned program and in every row, IS THE sha256 OF THE DUMP (.gsa) THAT YtjkbmmhnlhaapaaGreatProg.lean LOADS. Nothing in Lean hashes anything: it is a label: what it is worth is what the hold of that sum in a sandbox is worth. -/
noncomputable def Tryz.pinned : Pinned := { name := "ytjkbmmhnlhaapaagreat", sum := "6feb8fafe0f7770dd0548150b8b2f013f22cdc59f3ede15b0abf8a3489433597", checked := Tryz.checked }
namespace Rows
def none {H : Type} : Left H := { results := [], args := [] }

/-- 'quaestorlaw13.CertRequests': WHATEVER THE INPUT: true; the input reads as it did. -/
def certRequestsSpec : ChangeSpec := { name := "certRequests", fn := fun _ => fun
  | [d1, d2] => { results := [.lit (.bool true)], args := [d1, d2] }
  | _ => none }
def certRequestsRow : OpenClaim := { program := "ytjkbmmhnlhaapaagreat", sum := "6feb8fafe0f7770dd0548150b8b2f013f22cdc59f3ede15b0abf8a3489433597", func := "quaestor/quaestorlaw13.CertRequests", spec := "certRequests", unfollowed := true, recurses := true, plainKeys := false, apart := false }
def CertRequestsSaid : Prop := certRequestsRow.holds Tryz.pinned (OpenSpec.ofChange certRequestsSpec)

/-- ITS FALSE NEIGHBOUR: 'it returns false'. Refute it at one input. -/
def certRequestsWrong : ChangeSpec := { name := "certRequests", fn := fun _ => fun
  | [d1, d2] => { results := [.lit (.bool false)], args := [d1, d2] }
  | _ => none }
def CertRequestsWrongFalsely : Prop := certRequestsRow.holds Tryz.pinned (OpenSpec.ofChange certRequestsWrong)

/-- 'quaestorlaw13.CertCounts': WHATEVER THE INPUT: true; the input reads as it did. -/
def certCountsSpec : ChangeSpec := { name := "certCounts", fn := fun _ => fun
  | [d1, d2] => { results := [.lit (.bool true)], args := [d1, d2] }
  | _ => none }
def certCountsRow : OpenClaim := { program := "ytjkbmmhnlhaapaagreat", sum := "6feb8fafe0f7770dd0548150b8b2f013f22cdc59f3ede15b0abf8a3489433597", func := "quaestor/quaestorlaw13.CertCounts", spec := "certCounts", unfollowed := true, recurses := true, plainKeys := false, apart := false }
def CertCountsSaid : Prop := certCountsRow.holds Tryz.pinned (OpenSpec.ofChange certCountsSpec)

/-- ITS FALSE NEIGHBOUR: 'it returns false'. Refute it at one input. -/
def certCountsWrong : ChangeSpec := { name := "certCounts", fn := fun _ => fun
  | [d1, d2] => { results := [.lit (.bool false)], args := [d1, d2] }
  | _ => none }
def CertCountsWrongFalsely : Prop := certCountsRow.holds Tryz.pinned (OpenSpec.ofChange certCountsWrong)

/-- 'quaestorlaw13.CertStable': WHATEVER THE INPUT: true; the input reads as it did. -/
def certStableSpec : ChangeSpec := { name := "certStable", fn := fun _ => fun
  | [d1, d2, d3] => { results := [.lit (.bool true)], args := [d1, d2, d3] }
  | _ => none }
def certStableRow : OpenClaim := { program := "ytjkbmmhnlhaapaagreat", sum := "6feb8fafe0f7770dd0548150b8b2f013f22cdc59f3ede15b0abf8a3489433597", func := "quaestor/quaestorlaw13.CertStable", spec := "certStable", unfollowed := true, recurses := true, plainKeys := false, apart := false }
def CertStableSaid : Prop := certStableRow.holds Tryz.pinned (OpenSpec.ofChange certStableSpec)

/-- ITS FALSE NEIGHBOUR: 'it returns false'. Refute it at one input. -/
def certStableWrong : ChangeSpec := { name := "certStable", fn := fun _ => fun
  | [d1, d2, d3] => { results := [.lit (.bool false)], args := [d1, d2, d3] }
  | _ => none }
def CertStableWrongFalsely : Prop := certStableRow.holds Tryz.pinned (OpenSpec.ofChange certStableWrong)

/-- 'quaestorlaw13.CertMany': WHATEVER THE INPUT: true; the input reads as it did. -/
def certManySpec : ChangeSpec := { name := "certMany", fn := fun _ => fun
  | [d1, d2] => { results := [.lit (.bool true)], args := [d1, d2] }
  | _ => none }
def certManyRow : OpenClaim := { program := "ytjkbmmhnlhaapaagreat", sum := "6feb8fafe0f7770dd0548150b8b2f013f22cdc59f3ede15b0abf8a3489433597", func := "quaestor/quaestorlaw13.CertMany", spec := "certMany", unfollowed := true, recurses := true, plainKeys := false, apart := false }
def CertManySaid : Prop := certManyRow.holds Tryz.pinned (OpenSpec.ofChange certManySpec)

/-- ITS FALSE NEIGHBOUR: 'it returns false'. Refute it at one input. -/
def certManyWrong : ChangeSpec := { name := "certMany", fn := fun _ => fun
  | [d1, d2] => { results := [.lit (.bool false)], args := [d1, d2] }
  | _ => none }
def CertManyWrongFalsely : Prop := certManyRow.holds Tryz.pinned (OpenSpec.ofChange certManyWrong)

/-- 'quaestorlaw13.CertForged': WHATEVER THE INPUT: true; the input reads as it did. -/
def certForgedSpec : ChangeSpec := { name := "certForged", fn := fun _ => fun
  | [d1, d2] => { results := [.lit (.bool true)], args := [d1, d2] }
  | _ => none }
def certForgedRow : OpenClaim := { program := "ytjkbmmhnlhaapaagreat", sum := "6feb8fafe0f7770dd0548150b8b2f013f22cdc59f3ede15b0abf8a3489433597", func := "quaestor/quaestorlaw13.CertForged", spec := "certForged", unfollowed := true, recurses := true, plainKeys := false, apart := false }
def CertForgedSaid : Prop := certForgedRow.holds Tryz.pinned (OpenSpec.ofChange certForgedSpec)

/-- ITS FALSE NEIGHBOUR: 'it returns false'. Refute it at one input. -/
def certForgedWrong : ChangeSpec := { name := "certForged", fn := fun _ => fun
  | [d1, d2] => { results := [.lit (.bool false)], args := [d1, d2] }
  | _ => none }
def CertForgedWrongFalsely : Prop := certForgedRow.holds Tryz.pinned (OpenSpec.ofChange certForgedWrong)

/-- 'quaestorlaw13.CertOne': WHATEVER THE INPUT: true; the input reads as it did. -/
def certOneSpec : ChangeSpec := { name := "certOne", fn := fun _ => fun
  | [d1, d2, d3] => { results := [.lit (.bool true)], args := [d1, d2, d3] }
  | _ => none }
def certOneRow : OpenClaim := { program := "ytjkbmmhnlhaapaagreat", sum := "6feb8fafe0f7770dd0548150b8b2f013f22cdc59f3ede15b0abf8a3489433597", func := "quaestor/quaestorlaw13.CertOne", spec := "certOne", unfollowed := true, recurses := true, plainKeys := false, apart := false }
def CertOneSaid : Prop := certOneRow.holds Tryz.pinned (OpenSpec.ofChange certOneSpec)

/-- ITS FALSE NEIGHBOUR: 'it returns false'. Refute it at one input. -/
def certOneWrong : ChangeSpec := { name := "certOne", fn := fun _ => fun
  | [d1, d2, d3] => { results := [.lit (.bool false)], args := [d1, d2, d3] }
  | _ => none }
def CertOneWrongFalsely : Prop := certOneRow.holds Tryz.pinned (OpenSpec.ofChange certOneWrong)

/-- 'quaestorlaw13.CertBinds': WHATEVER THE INPUT: true; the input reads as it did. -/
def certBindsSpec : ChangeSpec := { name := "certBinds", fn := fun _ => fun
  | [d1, d2, d3] => { results := [.lit (.bool true)], args := [d1, d2, d3] }
  | _ => none }
def certBindsRow : OpenClaim := { program := "ytjkbmmhnlhaapaagreat", sum := "6feb8fafe0f7770dd0548150b8b2f013f22cdc59f3ede15b0abf8a3489433597", func := "quaestor/quaestorlaw13.CertBinds", spec := "certBinds", unfollowed := true, recurses := true, plainKeys := false, apart := false }
def CertBindsSaid : Prop := certBindsRow.holds Tryz.pinned (OpenSpec.ofChange certBindsSpec)

/-- ITS FALSE NEIGHBOUR: 'it returns false'. Refute it at one input. -/
def certBindsWrong : ChangeSpec := { name := "certBinds", fn := fun _ => fun
  | [d1, d2, d3] => { results := [.lit (.bool false)], args := [d1, d2, d3] }
  | _ => none }
def CertBindsWrongFalsely : Prop := certBindsRow.holds Tryz.pinned (OpenSpec.ofChange certBindsWrong)

/-- 'quaestorlaw14.SlotsRoom': WHATEVER THE INPUT: true; the input reads as it did. -/
def slotsRoomSpec : ChangeSpec := { name := "slotsRoom", fn := fun _ => fun
  | [d1, d2] => { results := [.lit (.bool true)], args := [d1, d2] }
  | _ => none }
def slotsRoomRow : OpenClaim := { program := "ytjkbmmhnlhaapaagreat", sum := "6feb8fafe0f7770dd0548150b8b2f013f22cdc59f3ede15b0abf8a3489433597", func := "quaestor/quaestorlaw14.SlotsRoom", spec := "slotsRoom", unfollowed := true, recurses := true, plainKeys := false, apart := false }
def SlotsRoomSaid : Prop := slotsRoomRow.holds Tryz.pinned (OpenSpec.ofChange slotsRoomSpec)

/-- ITS FALSE NEIGHBOUR: 'it returns false'. Refute it at one input. -/
def slotsRoomWrong : ChangeSpec := { name := "slotsRoom", fn := fun _ => fun
  | [d1, d2] => { results := [.lit (.bool false)], args := [d1, d2] }
  | _ => none }
def SlotsRoomWrongFalsely : Prop := slotsRoomRow.holds Tryz.pinned (OpenSpec.ofChange slotsRoomWrong)

/-- 'quaestorlaw14.SlotsProves': WHATEVER THE INPUT: true; the input reads as it did. -/
def slotsProvesSpec : ChangeSpec := { name := "slotsProves", fn := fun _ => fun
  | [d1, d2] => { results := [.lit (.bool true)], args := [d1, d2] }
  | _ => none }
def slotsProvesRow : OpenClaim := { program := "ytjkbmmhnlhaapaagreat", sum := "6feb8fafe0f7770dd0548150b8b2f013f22cdc59f3ede15b0abf8a3489433597", func := "quaestor/quaestorlaw14.SlotsProves", spec := "slotsProves", unfollowed := true, recurses := true, plainKeys := false, apart := false }
def SlotsProvesSaid : Prop := slotsProvesRow.holds Tryz.pinned (OpenSpec.ofChange slotsProvesSpec)

/-- ITS FALSE NEIGHBOUR: 'it returns false'. Refute it at one input. -/
def slotsProvesWrong : ChangeSpec := { name := "slotsProves", fn := fun _ => fun
  | [d1, d2] => { results := [.lit (.bool false)], args := [d1, d2] }
  | _ => none }
def SlotsProvesWrongFalsely : Prop := slotsProvesRow.holds Tryz.pinned (OpenSpec.ofChange slotsProvesWrong)

/-- 'quaestorlaw14.SlotsOne': WHATEVER THE INPUT: true; the input reads as it did. -/
def slotsOneSpec : ChangeSpec := { name := "slotsOne", fn := fun _ => fun
  | [d1, d2, d3] => { results := [.lit (.bool true)], args := [d1, d2, d3] }
  | _ => none }
def slotsOneRow : OpenClaim := { program := "ytjkbmmhnlhaapaagreat", sum := "6feb8fafe0f7770dd0548150b8b2f013f22cdc59f3ede15b0abf8a3489433597", func := "quaestor/quaestorlaw14.SlotsOne", spec := "slotsOne", unfollowed := true, recurses := true, plainKeys := false, apart := false }
def SlotsOneSaid : Prop := slotsOneRow.holds Tryz.pinned (OpenSpec.ofChange slotsOneSpec)

/-- ITS FALSE NEIGHBOUR: 'it returns false'. Refute it at one input. -/
def slotsOneWrong : ChangeSpec := { name := "slotsOne", fn := fun _ => fun
  | [d1, d2, d3] => { results := [.lit (.bool false)], args := [d1, d2, d3] }
  | _ => none }
def SlotsOneWrongFalsely : Prop := slotsOneRow.holds Tryz.pinned (OpenSpec.ofChange slotsOneWrong)

/-- 'quaestorlaw14.SlotsOrder': WHATEVER THE INPUT: true; the input reads as it did. -/
def slotsOrderSpec : ChangeSpec := { name := "slotsOrder", fn := fun _ => fun
  | [d1, d2, d3] => { results := [.lit (.bool true)], args := [d1, d2, d3] }
  | _ => none }
def slotsOrderRow : OpenClaim := { program := "ytjkbmmhnlhaapaagreat", sum := "6feb8fafe0f7770dd0548150b8b2f013f22cdc59f3ede15b0abf8a3489433597", func := "quaestor/quaestorlaw14.SlotsOrder", spec := "slotsOrder", unfollowed := true, recurses := true, plainKeys := false, apart := false }
def SlotsOrderSaid : Prop := slotsOrderRow.holds Tryz.pinned (OpenSpec.ofChange slotsOrderSpec)

/-- ITS FALSE NEIGHBOUR: 'it returns false'. Refute it at one input. -/
def slotsOrderWrong : ChangeSpec := { name := "slotsOrder", fn := fun _ => fun
  | [d1, d2, d3] => { results := [.lit (.bool false)], args := [d1, d2, d3] }
  | _ => none }
def SlotsOrderWrongFalsely : Prop := slotsOrderRow.holds Tryz.pinned (OpenSpec.ofChange slotsOrderWrong)

/- THE SECOND FORM. 'bulk': how many values and letters a reading holds, each counted each time it is reached (what is shared counts as often as it is met; a slice's spare places count too). A statement '..UptoSaid' is the law's where the arguments, and the package variables that the reading takes, are together of bulk at most 1048576: NARROWER than '..Said'. Prove '..Said' where nothing that the law and all that it calls make is longer than what came in: it says more and counts as full. Else prove '..UptoSaid'. A law counts once. -/
mutual
def uptoBulk {H : Type} : DataW H → Nat
  | .lit (.string bytes) => bytes.length + 1
  | .lit _ => 1
  | .nil => 1
  | .ptr d => uptoBulk d + 1
  | .slice elems spare => uptoBulkAll elems + uptoBulkAll spare + 1
  | .agg parts => uptoBulkAll parts + 1
  | .iface _ d => uptoBulk d + 1
  | .map entries => uptoBulkEntries entries + 1
  | .held _ => 1
def uptoBulkAll {H : Type} : List (DataW H) → Nat
  | [] => 0
  | d :: r => uptoBulk d + uptoBulkAll r
def uptoBulkEntries {H : Type} : List (Lit × DataW H) → Nat
  | [] => 0
  | x :: r => uptoBulkEntry x + uptoBulkEntries r
def uptoBulkEntry {H : Type} : Lit × DataW H → Nat
  | (.string bytes, d) => bytes.length + uptoBulk d + 1
  | (_, d) => uptoBulk d + 1
 end
def uptoSmall : (H : Type) → List (DataW H) → Bool := fun _ ds => decide (uptoBulkAll ds ≤ 1048576)
def OpenSpec.upto (s : _root_.Go.ChangeSpec) : _root_.Go.OpenSpec := { _root_.Go.OpenSpec.ofChange s with cond := some uptoSmall }

/-- 'quaestorlaw13.CertRequests', WHERE WHAT IT READS IS OF BULK AT MOST 1048576: true; the input reads as it did. -/
def certRequestsUptoRow : OpenClaim := { program := "ytjkbmmhnlhaapaagreat", sum := "6feb8fafe0f7770dd0548150b8b2f013f22cdc59f3ede15b0abf8a3489433597", func := "quaestor/quaestorlaw13.CertRequests", spec := "certRequests", unfollowed := true, recurses := true, plainKeys := false, apart := false, narrowed := true }
def CertRequestsUptoSaid : Prop := certRequestsUptoRow.holds Tryz.pinned (OpenSpec.upto certRequestsSpec)

/-- 'quaestorlaw13.CertCounts', WHERE WHAT IT READS IS OF BULK AT MOST 1048576: true; the input reads as it did. -/
def certCountsUptoRow : OpenClaim := { program := "ytjkbmmhnlhaapaagreat", sum := "6feb8fafe0f7770dd0548150b8b2f013f22cdc59f3ede15b0abf8a3489433597", func := "quaestor/quaestorlaw13.CertCounts", spec := "certCounts", unfollowed := true, recurses := true, plainKeys := false, apart := false, narrowed := true }
def CertCountsUptoSaid : Prop := certCountsUptoRow.holds Tryz.pinned (OpenSpec.upto certCountsSpec)

/-- 'quaestorlaw13.CertStable', WHERE WHAT IT READS IS OF BULK AT MOST 1048576: true; the input reads as it did. -/
def certStableUptoRow : OpenClaim := { program := "ytjkbmmhnlhaapaagreat", sum := "6feb8fafe0f7770dd0548150b8b2f013f22cdc59f3ede15b0abf8a3489433597", func := "quaestor/quaestorlaw13.CertStable", spec := "certStable", unfollowed := true, recurses := true, plainKeys := false, apart := false, narrowed := true }
def CertStableUptoSaid : Prop := certStableUptoRow.holds Tryz.pinned (OpenSpec.upto certStableSpec)

/-- 'quaestorlaw13.CertMany', WHERE WHAT IT READS IS OF BULK AT MOST 1048576: true; the input reads as it did. -/
def certManyUptoRow : OpenClaim := { program := "ytjkbmmhnlhaapaagreat", sum := "6feb8fafe0f7770dd0548150b8b2f013f22cdc59f3ede15b0abf8a3489433597", func := "quaestor/quaestorlaw13.CertMany", spec := "certMany", unfollowed := true, recurses := true, plainKeys := false, apart := false, narrowed := true }
def CertManyUptoSaid : Prop := certManyUptoRow.holds Tryz.pinned (OpenSpec.upto certManySpec)

/-- 'quaestorlaw13.CertForged', WHERE WHAT IT READS IS OF BULK AT MOST 1048576: true; the input reads as it did. -/
def certForgedUptoRow : OpenClaim := { program := "ytjkbmmhnlhaapaagreat", sum := "6feb8fafe0f7770dd0548150b8b2f013f22cdc59f3ede15b0abf8a3489433597", func := "quaestor/quaestorlaw13.CertForged", spec := "certForged", unfollowed := true, recurses := true, plainKeys := false, apart := false, narrowed := true }
def CertForgedUptoSaid : Prop := certForgedUptoRow.holds Tryz.pinned (OpenSpec.upto certForgedSpec)

/-- 'quaestorlaw13.CertOne', WHERE WHAT IT READS IS OF BULK AT MOST 1048576: true; the input reads as it did. -/
def certOneUptoRow : OpenClaim := { program := "ytjkbmmhnlhaapaagreat", sum := "6feb8fafe0f7770dd0548150b8b2f013f22cdc59f3ede15b0abf8a3489433597", func := "quaestor/quaestorlaw13.CertOne", spec := "certOne", unfollowed := true, recurses := true, plainKeys := false, apart := false, narrowed := true }
def CertOneUptoSaid : Prop := certOneUptoRow.holds Tryz.pinned (OpenSpec.upto certOneSpec)

/-- 'quaestorlaw13.CertBinds', WHERE WHAT IT READS IS OF BULK AT MOST 1048576: true; the input reads as it did. -/
def certBindsUptoRow : OpenClaim := { program := "ytjkbmmhnlhaapaagreat", sum := "6feb8fafe0f7770dd0548150b8b2f013f22cdc59f3ede15b0abf8a3489433597", func := "quaestor/quaestorlaw13.CertBinds", spec := "certBinds", unfollowed := true, recurses := true, plainKeys := false, apart := false, narrowed := true }
def CertBindsUptoSaid : Prop := certBindsUptoRow.holds Tryz.pinned (OpenSpec.upto certBindsSpec)

/-- 'quaestorlaw14.SlotsRoom', WHERE WHAT IT READS IS OF BULK AT MOST 1048576: true; the input reads as it did. -/
def slotsRoomUptoRow : OpenClaim := { program := "ytjkbmmhnlhaapaagreat", sum := "6feb8fafe0f7770dd0548150b8b2f013f22cdc59f3ede15b0abf8a3489433597", func := "quaestor/quaestorlaw14.SlotsRoom", spec := "slotsRoom", unfollowed := true, recurses := true, plainKeys := false, apart := false, narrowed := true }
def SlotsRoomUptoSaid : Prop := slotsRoomUptoRow.holds Tryz.pinned (OpenSpec.upto slotsRoomSpec)

/-- 'quaestorlaw14.SlotsProves', WHERE WHAT IT READS IS OF BULK AT MOST 1048576: true; the input reads as it did. -/
def slotsProvesUptoRow : OpenClaim := { program := "ytjkbmmhnlhaapaagreat", sum := "6feb8fafe0f7770dd0548150b8b2f013f22cdc59f3ede15b0abf8a3489433597", func := "quaestor/quaestorlaw14.SlotsProves", spec := "slotsProves", unfollowed := true, recurses := true, plainKeys := false, apart := false, narrowed := true }
def SlotsProvesUptoSaid : Prop := slotsProvesUptoRow.holds Tryz.pinned (OpenSpec.upto slotsProvesSpec)

/-- 'quaestorlaw14.SlotsOne', WHERE WHAT IT READS IS OF BULK AT MOST 1048576: true; the input reads as it did. -/
def slotsOneUptoRow : OpenClaim := { program := "ytjkbmmhnlhaapaagreat", sum := "6feb8fafe0f7770dd0548150b8b2f013f22cdc59f3ede15b0abf8a3489433597", func := "quaestor/quaestorlaw14.SlotsOne", spec := "slotsOne", unfollowed := true, recurses := true, plainKeys := false, apart := false, narrowed := true }
def SlotsOneUptoSaid : Prop := slotsOneUptoRow.holds Tryz.pinned (OpenSpec.upto slotsOneSpec)

/-- 'quaestorlaw14.SlotsOrder', WHERE WHAT IT READS IS OF BULK AT MOST 1048576: true; the input reads as it did. -/
def slotsOrderUptoRow : OpenClaim := { program := "ytjkbmmhnlhaapaagreat", sum := "6feb8fafe0f7770dd0548150b8b2f013f22cdc59f3ede15b0abf8a3489433597", func := "quaestor/quaestorlaw14.SlotsOrder", spec := "slotsOrder", unfollowed := true, recurses := true, plainKeys := false, apart := false, narrowed := true }
def SlotsOrderUptoSaid : Prop := slotsOrderUptoRow.holds Tryz.pinned (OpenSpec.upto slotsOrderSpec)

end Rows
end Go.Proofs.YtjkbmmhnlhaapaaGreat
