/-
  No cell of these rows narrows 'for every input' (looked for: loops, veiled, ifaces, maps, wideKeys, modest, calm, conditions, laid).
  DERIVED. THE GIVEN ROWS OF THIS SEAT. 5 by the template 'for every input the law returns true; each argument reads behind the call as it read before'; 0 by the template 'total and deterministic' (their statements: YticjfhagpmlieaaTotals.lean).
  GIVEN WITH THE SEED: the statements are not yours to turn. If you find one false, say at which input.
  Laid BY PROGRAM, IN A SANDBOX (cutbox-rows.mjs): the forced cells as the released guide's own fill.sh prints them over the translation c2dcd190c30fdebf… (all of the seat's roots in one cut). By AI agents, Wed Nov 11 2026. No macro, syntax, notation, axiom, sorry.
-/
import Derived.Test.YticjfhagpmlieaaChecked
import GoSem.Claim
import GoSem.ClaimJoined
import GoSem.ClaimMapViews
import Derived.JoinedTies
import Derived.KernelRfl
namespace Go.Proofs.Yticjfhagpmlieaa
/- THE CELL 'sum', in the pinned program and in every row, IS THE sha256 OF THE DUMP (.gsa) THAT YticjfhagpmlieaaProg.lean LOADS. Nothing in Lean hashes anything: it is a label: what it is worth is what the hold of that sum in a sandbox is worth. -/
noncomputable def Try.pinned : Pinned := { name := "yticjfhagpmlieaa", sum := "c2dcd190c30fdebf1cdc5185a43278e5db944e5cef2dcff2f20d1054b5448767", checked := Try.checked }
namespace Rows
def none {H : Type} : Left H := { results := [], args := [] }

/-- 'marshallinglaw14.HoldTells': WHATEVER THE INPUT: true; the input reads as it did. -/
def holdTellsSpec : ChangeSpec := { name := "holdTells", fn := fun _ => fun
  | [d] => { results := [.lit (.bool true)], args := [d] }
  | _ => none }
def holdTellsRow : OpenClaim := { program := "yticjfhagpmlieaa", sum := "c2dcd190c30fdebf1cdc5185a43278e5db944e5cef2dcff2f20d1054b5448767", func := "marshalling/marshallinglaw14.HoldTells", spec := "holdTells", inPlace := ["slices.overlaps[marshalling/hold.Wait[int]]"], unfollowed := true, recurses := true, apart := false }
def HoldTellsSaid : Prop := holdTellsRow.holds Try.pinned (OpenSpec.ofChange holdTellsSpec)

/-- ITS FALSE NEIGHBOUR: 'it returns false'. Refute it at one input. -/
def holdTellsWrong : ChangeSpec := { name := "holdTells", fn := fun _ => fun
  | [d] => { results := [.lit (.bool false)], args := [d] }
  | _ => none }
def HoldTellsWrongFalsely : Prop := holdTellsRow.holds Try.pinned (OpenSpec.ofChange holdTellsWrong)

/-- 'marshallinglaw14.HoldSorted': WHATEVER THE INPUT: true; the input reads as it did. -/
def holdSortedSpec : ChangeSpec := { name := "holdSorted", fn := fun _ => fun
  | [d] => { results := [.lit (.bool true)], args := [d] }
  | _ => none }
def holdSortedRow : OpenClaim := { program := "yticjfhagpmlieaa", sum := "c2dcd190c30fdebf1cdc5185a43278e5db944e5cef2dcff2f20d1054b5448767", func := "marshalling/marshallinglaw14.HoldSorted", spec := "holdSorted", inPlace := ["slices.overlaps[marshalling/hold.Wait[int]]"], unfollowed := true, recurses := true, apart := false }
def HoldSortedSaid : Prop := holdSortedRow.holds Try.pinned (OpenSpec.ofChange holdSortedSpec)

/-- ITS FALSE NEIGHBOUR: 'it returns false'. Refute it at one input. -/
def holdSortedWrong : ChangeSpec := { name := "holdSorted", fn := fun _ => fun
  | [d] => { results := [.lit (.bool false)], args := [d] }
  | _ => none }
def HoldSortedWrongFalsely : Prop := holdSortedRow.holds Try.pinned (OpenSpec.ofChange holdSortedWrong)

/-- 'marshallinglaw14.HoldDue': WHATEVER THE INPUT: true; the input reads as it did. -/
def holdDueSpec : ChangeSpec := { name := "holdDue", fn := fun _ => fun
  | [d1, d2, d3] => { results := [.lit (.bool true)], args := [d1, d2, d3] }
  | _ => none }
def holdDueRow : OpenClaim := { program := "yticjfhagpmlieaa", sum := "c2dcd190c30fdebf1cdc5185a43278e5db944e5cef2dcff2f20d1054b5448767", func := "marshalling/marshallinglaw14.HoldDue", spec := "holdDue", inPlace := ["slices.overlaps[marshalling/hold.Wait[int]]"], unfollowed := true, recurses := true, apart := false }
def HoldDueSaid : Prop := holdDueRow.holds Try.pinned (OpenSpec.ofChange holdDueSpec)

/-- ITS FALSE NEIGHBOUR: 'it returns false'. Refute it at one input. -/
def holdDueWrong : ChangeSpec := { name := "holdDue", fn := fun _ => fun
  | [d1, d2, d3] => { results := [.lit (.bool false)], args := [d1, d2, d3] }
  | _ => none }
def HoldDueWrongFalsely : Prop := holdDueRow.holds Try.pinned (OpenSpec.ofChange holdDueWrong)

/-- 'marshallinglaw14.HoldCut': WHATEVER THE INPUT: true; the input reads as it did. -/
def holdCutSpec : ChangeSpec := { name := "holdCut", fn := fun _ => fun
  | [d1, d2, d3] => { results := [.lit (.bool true)], args := [d1, d2, d3] }
  | _ => none }
def holdCutRow : OpenClaim := { program := "yticjfhagpmlieaa", sum := "c2dcd190c30fdebf1cdc5185a43278e5db944e5cef2dcff2f20d1054b5448767", func := "marshalling/marshallinglaw14.HoldCut", spec := "holdCut", inPlace := ["slices.overlaps[marshalling/hold.Wait[int]]"], unfollowed := true, recurses := true, apart := false }
def HoldCutSaid : Prop := holdCutRow.holds Try.pinned (OpenSpec.ofChange holdCutSpec)

/-- ITS FALSE NEIGHBOUR: 'it returns false'. Refute it at one input. -/
def holdCutWrong : ChangeSpec := { name := "holdCut", fn := fun _ => fun
  | [d1, d2, d3] => { results := [.lit (.bool false)], args := [d1, d2, d3] }
  | _ => none }
def HoldCutWrongFalsely : Prop := holdCutRow.holds Try.pinned (OpenSpec.ofChange holdCutWrong)

/-- 'marshallinglaw14.HoldApart': WHATEVER THE INPUT: true; the input reads as it did. -/
def holdApartSpec : ChangeSpec := { name := "holdApart", fn := fun _ => fun
  | [d] => { results := [.lit (.bool true)], args := [d] }
  | _ => none }
def holdApartRow : OpenClaim := { program := "yticjfhagpmlieaa", sum := "c2dcd190c30fdebf1cdc5185a43278e5db944e5cef2dcff2f20d1054b5448767", func := "marshalling/marshallinglaw14.HoldApart", spec := "holdApart", inPlace := ["slices.overlaps[marshalling/hold.Wait[int]]"], unfollowed := true, recurses := true, apart := false }
def HoldApartSaid : Prop := holdApartRow.holds Try.pinned (OpenSpec.ofChange holdApartSpec)

/-- ITS FALSE NEIGHBOUR: 'it returns false'. Refute it at one input. -/
def holdApartWrong : ChangeSpec := { name := "holdApart", fn := fun _ => fun
  | [d] => { results := [.lit (.bool false)], args := [d] }
  | _ => none }
def HoldApartWrongFalsely : Prop := holdApartRow.holds Try.pinned (OpenSpec.ofChange holdApartWrong)

/- THE SECOND FORM. 'bulk': how many values and letters a reading holds, each counted each time it is reached (what is shared counts as often as it is met; a slice's spare places count too). A statement '..UptoSaid' is the law's where the arguments, and the package variables that the reading takes, are together of bulk at most 1048576: NARROWER than '..Said'. Prove '..Said' where nothing that the law and all that it calls make is longer than what came in: it says more and counts as full. Else prove '..UptoSaid'. A law counts once. -/
mutual
def uptoBulk {H : Type} : DataW H → Nat
  | .lit (.string bytes) => bytes.length + 1
  | .lit _ => 1
  | .nil => 1
  | .ptr d => uptoBulk d + 1
  | .slice elems spare => uptoBulkAll elems + uptoBulkAll spare + 1
  | .agg parts => uptoBulkAll parts + 1
  | .iface _ d => uptoBulk d + 1
  | .map entries => uptoBulkEntries entries + 1
  | .held _ => 1
def uptoBulkAll {H : Type} : List (DataW H) → Nat
  | [] => 0
  | d :: r => uptoBulk d + uptoBulkAll r
def uptoBulkEntries {H : Type} : List (Lit × DataW H) → Nat
  | [] => 0
  | x :: r => uptoBulkEntry x + uptoBulkEntries r
def uptoBulkEntry {H : Type} : Lit × DataW H → Nat
  | (.string bytes, d) => bytes.length + uptoBulk d + 1
  | (_, d) => uptoBulk d + 1
 end
def uptoSmall : (H : Type) → List (DataW H) → Bool := fun _ ds => decide (uptoBulkAll ds ≤ 1048576)
def OpenSpec.upto (s : _root_.Go.ChangeSpec) : _root_.Go.OpenSpec := { _root_.Go.OpenSpec.ofChange s with cond := some uptoSmall }

/-- 'marshallinglaw14.HoldTells', WHERE WHAT IT READS IS OF BULK AT MOST 1048576: true; the input reads as it did. -/
def holdTellsUptoRow : OpenClaim := { program := "yticjfhagpmlieaa", sum := "c2dcd190c30fdebf1cdc5185a43278e5db944e5cef2dcff2f20d1054b5448767", func := "marshalling/marshallinglaw14.HoldTells", spec := "holdTells", inPlace := ["slices.overlaps[marshalling/hold.Wait[int]]"], unfollowed := true, recurses := true, apart := false, narrowed := true }
def HoldTellsUptoSaid : Prop := holdTellsUptoRow.holds Try.pinned (OpenSpec.upto holdTellsSpec)

/-- 'marshallinglaw14.HoldSorted', WHERE WHAT IT READS IS OF BULK AT MOST 1048576: true; the input reads as it did. -/
def holdSortedUptoRow : OpenClaim := { program := "yticjfhagpmlieaa", sum := "c2dcd190c30fdebf1cdc5185a43278e5db944e5cef2dcff2f20d1054b5448767", func := "marshalling/marshallinglaw14.HoldSorted", spec := "holdSorted", inPlace := ["slices.overlaps[marshalling/hold.Wait[int]]"], unfollowed := true, recurses := true, apart := false, narrowed := true }
def HoldSortedUptoSaid : Prop := holdSortedUptoRow.holds Try.pinned (OpenSpec.upto holdSortedSpec)

/-- 'marshallinglaw14.HoldDue', WHERE WHAT IT READS IS OF BULK AT MOST 1048576: true; the input reads as it did. -/
def holdDueUptoRow : OpenClaim := { program := "yticjfhagpmlieaa", sum := "c2dcd190c30fdebf1cdc5185a43278e5db944e5cef2dcff2f20d1054b5448767", func := "marshalling/marshallinglaw14.HoldDue", spec := "holdDue", inPlace := ["slices.overlaps[marshalling/hold.Wait[int]]"], unfollowed := true, recurses := true, apart := false, narrowed := true }
def HoldDueUptoSaid : Prop := holdDueUptoRow.holds Try.pinned (OpenSpec.upto holdDueSpec)

/-- 'marshallinglaw14.HoldCut', WHERE WHAT IT READS IS OF BULK AT MOST 1048576: true; the input reads as it did. -/
def holdCutUptoRow : OpenClaim := { program := "yticjfhagpmlieaa", sum := "c2dcd190c30fdebf1cdc5185a43278e5db944e5cef2dcff2f20d1054b5448767", func := "marshalling/marshallinglaw14.HoldCut", spec := "holdCut", inPlace := ["slices.overlaps[marshalling/hold.Wait[int]]"], unfollowed := true, recurses := true, apart := false, narrowed := true }
def HoldCutUptoSaid : Prop := holdCutUptoRow.holds Try.pinned (OpenSpec.upto holdCutSpec)

/-- 'marshallinglaw14.HoldApart', WHERE WHAT IT READS IS OF BULK AT MOST 1048576: true; the input reads as it did. -/
def holdApartUptoRow : OpenClaim := { program := "yticjfhagpmlieaa", sum := "c2dcd190c30fdebf1cdc5185a43278e5db944e5cef2dcff2f20d1054b5448767", func := "marshalling/marshallinglaw14.HoldApart", spec := "holdApart", inPlace := ["slices.overlaps[marshalling/hold.Wait[int]]"], unfollowed := true, recurses := true, apart := false, narrowed := true }
def HoldApartUptoSaid : Prop := holdApartUptoRow.holds Try.pinned (OpenSpec.upto holdApartSpec)

end Rows
end Go.Proofs.Yticjfhagpmlieaa
