/-
  No cell of these rows narrows 'for every input' (looked for: loops, veiled, ifaces, maps, wideKeys, modest, calm, conditions, laid).
  DERIVED. THE GIVEN ROWS OF THIS SEAT. 5 by the template 'for every input the law returns true; each argument reads behind the call as it read before'; 0 by the template 'total and deterministic' (their statements: YtcggkbopipnnoaaTotals.lean).
  GIVEN WITH THE SEED: the statements are not yours to turn. If you find one false, say at which input.
  Laid BY PROGRAM, IN A SANDBOX (cutbox-rows.mjs): the forced cells as the released guide's own fill.sh prints them over the translation c5d5edaca7946f4b… (all of the seat's roots in one cut). By AI agents, Wed Nov 11 2026. No macro, syntax, notation, axiom, sorry.
-/
import Derived.Test.YtcggkbopipnnoaaChecked
import GoSem.Claim
import GoSem.ClaimJoined
import GoSem.ClaimMapViews
import Derived.JoinedTies
import Derived.KernelRfl
namespace Go.Proofs.Ytcggkbopipnnoaa
/- THE CELL 'sum', in the pinned program and in every row, IS THE sha256 OF THE DUMP (.gsa) THAT YtcggkbopipnnoaaProg.lean LOADS. Nothing in Lean hashes anything: it is a label: what it is worth is what the hold of that sum in a sandbox is worth. -/
noncomputable def Try.pinned : Pinned := { name := "ytcggkbopipnnoaa", sum := "c5d5edaca7946f4bc60b19a5897f55922ee2f8d61f3b486c2ef1b28104be60c3", checked := Try.checked }
namespace Rows
def none {H : Type} : Left H := { results := [], args := [] }

/-- 'marshallinglaw16.MergeTells': WHATEVER THE INPUT: true; the input reads as it did. -/
def mergeTellsSpec : ChangeSpec := { name := "mergeTells", fn := fun _ => fun
  | [d1, d2, d3, d4, d5] => { results := [.lit (.bool true)], args := [d1, d2, d3, d4, d5] }
  | _ => none }
def mergeTellsRow : OpenClaim := { program := "ytcggkbopipnnoaa", sum := "c5d5edaca7946f4bc60b19a5897f55922ee2f8d61f3b486c2ef1b28104be60c3", func := "marshalling/marshallinglaw16.MergeTells", spec := "mergeTells", unfollowed := true, recurses := true, apart := false }
def MergeTellsSaid : Prop := mergeTellsRow.holds Try.pinned (OpenSpec.ofChange mergeTellsSpec)

/-- ITS FALSE NEIGHBOUR: 'it returns false'. Refute it at one input. -/
def mergeTellsWrong : ChangeSpec := { name := "mergeTells", fn := fun _ => fun
  | [d1, d2, d3, d4, d5] => { results := [.lit (.bool false)], args := [d1, d2, d3, d4, d5] }
  | _ => none }
def MergeTellsWrongFalsely : Prop := mergeTellsRow.holds Try.pinned (OpenSpec.ofChange mergeTellsWrong)

/-- 'marshallinglaw16.MergeSorted': WHATEVER THE INPUT: true; the input reads as it did. -/
def mergeSortedSpec : ChangeSpec := { name := "mergeSorted", fn := fun _ => fun
  | [d1, d2] => { results := [.lit (.bool true)], args := [d1, d2] }
  | _ => none }
def mergeSortedRow : OpenClaim := { program := "ytcggkbopipnnoaa", sum := "c5d5edaca7946f4bc60b19a5897f55922ee2f8d61f3b486c2ef1b28104be60c3", func := "marshalling/marshallinglaw16.MergeSorted", spec := "mergeSorted", unfollowed := true, recurses := true, apart := false }
def MergeSortedSaid : Prop := mergeSortedRow.holds Try.pinned (OpenSpec.ofChange mergeSortedSpec)

/-- ITS FALSE NEIGHBOUR: 'it returns false'. Refute it at one input. -/
def mergeSortedWrong : ChangeSpec := { name := "mergeSorted", fn := fun _ => fun
  | [d1, d2] => { results := [.lit (.bool false)], args := [d1, d2] }
  | _ => none }
def MergeSortedWrongFalsely : Prop := mergeSortedRow.holds Try.pinned (OpenSpec.ofChange mergeSortedWrong)

/-- 'marshallinglaw16.MergePicks': WHATEVER THE INPUT: true; the input reads as it did. -/
def mergePicksSpec : ChangeSpec := { name := "mergePicks", fn := fun _ => fun
  | [d1, d2] => { results := [.lit (.bool true)], args := [d1, d2] }
  | _ => none }
def mergePicksRow : OpenClaim := { program := "ytcggkbopipnnoaa", sum := "c5d5edaca7946f4bc60b19a5897f55922ee2f8d61f3b486c2ef1b28104be60c3", func := "marshalling/marshallinglaw16.MergePicks", spec := "mergePicks", unfollowed := true, recurses := true, apart := false }
def MergePicksSaid : Prop := mergePicksRow.holds Try.pinned (OpenSpec.ofChange mergePicksSpec)

/-- ITS FALSE NEIGHBOUR: 'it returns false'. Refute it at one input. -/
def mergePicksWrong : ChangeSpec := { name := "mergePicks", fn := fun _ => fun
  | [d1, d2] => { results := [.lit (.bool false)], args := [d1, d2] }
  | _ => none }
def MergePicksWrongFalsely : Prop := mergePicksRow.holds Try.pinned (OpenSpec.ofChange mergePicksWrong)

/-- 'marshallinglaw16.MergeLow': WHATEVER THE INPUT: true; the input reads as it did. -/
def mergeLowSpec : ChangeSpec := { name := "mergeLow", fn := fun _ => fun
  | [d1, d2] => { results := [.lit (.bool true)], args := [d1, d2] }
  | _ => none }
def mergeLowRow : OpenClaim := { program := "ytcggkbopipnnoaa", sum := "c5d5edaca7946f4bc60b19a5897f55922ee2f8d61f3b486c2ef1b28104be60c3", func := "marshalling/marshallinglaw16.MergeLow", spec := "mergeLow", unfollowed := true, recurses := true, apart := false }
def MergeLowSaid : Prop := mergeLowRow.holds Try.pinned (OpenSpec.ofChange mergeLowSpec)

/-- ITS FALSE NEIGHBOUR: 'it returns false'. Refute it at one input. -/
def mergeLowWrong : ChangeSpec := { name := "mergeLow", fn := fun _ => fun
  | [d1, d2] => { results := [.lit (.bool false)], args := [d1, d2] }
  | _ => none }
def MergeLowWrongFalsely : Prop := mergeLowRow.holds Try.pinned (OpenSpec.ofChange mergeLowWrong)

/-- 'marshallinglaw16.MergeKnows': WHATEVER THE INPUT: true; the input reads as it did. -/
def mergeKnowsSpec : ChangeSpec := { name := "mergeKnows", fn := fun _ => fun
  | [d1, d2, d3] => { results := [.lit (.bool true)], args := [d1, d2, d3] }
  | _ => none }
def mergeKnowsRow : OpenClaim := { program := "ytcggkbopipnnoaa", sum := "c5d5edaca7946f4bc60b19a5897f55922ee2f8d61f3b486c2ef1b28104be60c3", func := "marshalling/marshallinglaw16.MergeKnows", spec := "mergeKnows", unfollowed := true, recurses := true, apart := false }
def MergeKnowsSaid : Prop := mergeKnowsRow.holds Try.pinned (OpenSpec.ofChange mergeKnowsSpec)

/-- ITS FALSE NEIGHBOUR: 'it returns false'. Refute it at one input. -/
def mergeKnowsWrong : ChangeSpec := { name := "mergeKnows", fn := fun _ => fun
  | [d1, d2, d3] => { results := [.lit (.bool false)], args := [d1, d2, d3] }
  | _ => none }
def MergeKnowsWrongFalsely : Prop := mergeKnowsRow.holds Try.pinned (OpenSpec.ofChange mergeKnowsWrong)

/- THE SECOND FORM. 'bulk': how many values and letters a reading holds, each counted each time it is reached (what is shared counts as often as it is met; a slice's spare places count too). A statement '..UptoSaid' is the law's where the arguments, and the package variables that the reading takes, are together of bulk at most 1048576: NARROWER than '..Said'. Prove '..Said' where nothing that the law and all that it calls make is longer than what came in: it says more and counts as full. Else prove '..UptoSaid'. A law counts once. -/
mutual
def uptoBulk {H : Type} : DataW H → Nat
  | .lit (.string bytes) => bytes.length + 1
  | .lit _ => 1
  | .nil => 1
  | .ptr d => uptoBulk d + 1
  | .slice elems spare => uptoBulkAll elems + uptoBulkAll spare + 1
  | .agg parts => uptoBulkAll parts + 1
  | .iface _ d => uptoBulk d + 1
  | .map entries => uptoBulkEntries entries + 1
  | .held _ => 1
def uptoBulkAll {H : Type} : List (DataW H) → Nat
  | [] => 0
  | d :: r => uptoBulk d + uptoBulkAll r
def uptoBulkEntries {H : Type} : List (Lit × DataW H) → Nat
  | [] => 0
  | x :: r => uptoBulkEntry x + uptoBulkEntries r
def uptoBulkEntry {H : Type} : Lit × DataW H → Nat
  | (.string bytes, d) => bytes.length + uptoBulk d + 1
  | (_, d) => uptoBulk d + 1
 end
def uptoSmall : (H : Type) → List (DataW H) → Bool := fun _ ds => decide (uptoBulkAll ds ≤ 1048576)
def OpenSpec.upto (s : _root_.Go.ChangeSpec) : _root_.Go.OpenSpec := { _root_.Go.OpenSpec.ofChange s with cond := some uptoSmall }

/-- 'marshallinglaw16.MergeTells', WHERE WHAT IT READS IS OF BULK AT MOST 1048576: true; the input reads as it did. -/
def mergeTellsUptoRow : OpenClaim := { program := "ytcggkbopipnnoaa", sum := "c5d5edaca7946f4bc60b19a5897f55922ee2f8d61f3b486c2ef1b28104be60c3", func := "marshalling/marshallinglaw16.MergeTells", spec := "mergeTells", unfollowed := true, recurses := true, apart := false, narrowed := true }
def MergeTellsUptoSaid : Prop := mergeTellsUptoRow.holds Try.pinned (OpenSpec.upto mergeTellsSpec)

/-- 'marshallinglaw16.MergeSorted', WHERE WHAT IT READS IS OF BULK AT MOST 1048576: true; the input reads as it did. -/
def mergeSortedUptoRow : OpenClaim := { program := "ytcggkbopipnnoaa", sum := "c5d5edaca7946f4bc60b19a5897f55922ee2f8d61f3b486c2ef1b28104be60c3", func := "marshalling/marshallinglaw16.MergeSorted", spec := "mergeSorted", unfollowed := true, recurses := true, apart := false, narrowed := true }
def MergeSortedUptoSaid : Prop := mergeSortedUptoRow.holds Try.pinned (OpenSpec.upto mergeSortedSpec)

/-- 'marshallinglaw16.MergePicks', WHERE WHAT IT READS IS OF BULK AT MOST 1048576: true; the input reads as it did. -/
def mergePicksUptoRow : OpenClaim := { program := "ytcggkbopipnnoaa", sum := "c5d5edaca7946f4bc60b19a5897f55922ee2f8d61f3b486c2ef1b28104be60c3", func := "marshalling/marshallinglaw16.MergePicks", spec := "mergePicks", unfollowed := true, recurses := true, apart := false, narrowed := true }
def MergePicksUptoSaid : Prop := mergePicksUptoRow.holds Try.pinned (OpenSpec.upto mergePicksSpec)

/-- 'marshallinglaw16.MergeLow', WHERE WHAT IT READS IS OF BULK AT MOST 1048576: true; the input reads as it did. -/
def mergeLowUptoRow : OpenClaim := { program := "ytcggkbopipnnoaa", sum := "c5d5edaca7946f4bc60b19a5897f55922ee2f8d61f3b486c2ef1b28104be60c3", func := "marshalling/marshallinglaw16.MergeLow", spec := "mergeLow", unfollowed := true, recurses := true, apart := false, narrowed := true }
def MergeLowUptoSaid : Prop := mergeLowUptoRow.holds Try.pinned (OpenSpec.upto mergeLowSpec)

/-- 'marshallinglaw16.MergeKnows', WHERE WHAT IT READS IS OF BULK AT MOST 1048576: true; the input reads as it did. -/
def mergeKnowsUptoRow : OpenClaim := { program := "ytcggkbopipnnoaa", sum := "c5d5edaca7946f4bc60b19a5897f55922ee2f8d61f3b486c2ef1b28104be60c3", func := "marshalling/marshallinglaw16.MergeKnows", spec := "mergeKnows", unfollowed := true, recurses := true, apart := false, narrowed := true }
def MergeKnowsUptoSaid : Prop := mergeKnowsUptoRow.holds Try.pinned (OpenSpec.upto mergeKnowsSpec)

end Rows
end Go.Proofs.Ytcggkbopipnnoaa
