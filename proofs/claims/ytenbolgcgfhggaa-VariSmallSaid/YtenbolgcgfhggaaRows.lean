/-
  No cell of these rows narrows 'for every input' (looked for: loops, veiled, ifaces, maps, wideKeys, modest, calm, conditions, laid).
  DERIVED. THE GIVEN ROWS OF THIS SEAT. 7 by the template 'for every input the law returns true; each argument reads behind the call as it read before'; 0 by the template 'total and deterministic' (their statements: YtenbolgcgfhggaaTotals.lean).
  GIVEN WITH THE SEED: the statements are not yours to turn. If you find one false, say at which input.
  Laid BY PROGRAM, IN A SANDBOX (cutbox-rows.mjs): the forced cells as the released guide's own fill.sh prints them over the translation a87655a001db85aa… (all of the seat's roots in one cut). By AI agents, Wed Nov 11 2026. No macro, syntax, notation, axiom, sorry.
-/
import Derived.Test.YtenbolgcgfhggaaChecked
import GoSem.Claim
import GoSem.ClaimJoined
import GoSem.ClaimMapViews
import Derived.JoinedTies
import Derived.KernelRfl
namespace Go.Proofs.Ytenbolgcgfhggaa
/- THE CELL 'sum', in the pinned program and in every row, IS THE sha256 OF THE DUMP (.gsa) THAT YtenbolgcgfhggaaProg.lean LOADS. Nothing in Lean hashes anything: it is a label: what it is worth is what the hold of that sum in a sandbox is worth. -/
noncomputable def Try.pinned : Pinned := { name := "ytenbolgcgfhggaa", sum := "a87655a001db85aa99f740660c670772baf31dcefdd0b38b4c55a45995252859", checked := Try.checked }
namespace Rows
def none {H : Type} : Left H := { results := [], args := [] }

/-- 'marshallinglaw01.VariTells': WHATEVER THE INPUT: true; the input reads as it did. -/
def variTellsSpec : ChangeSpec := { name := "variTells", fn := fun _ => fun
  | [d1, d2, d3, d4, d5] => { results := [.lit (.bool true)], args := [d1, d2, d3, d4, d5] }
  | _ => none }
def variTellsRow : OpenClaim := { program := "ytenbolgcgfhggaa", sum := "a87655a001db85aa99f740660c670772baf31dcefdd0b38b4c55a45995252859", func := "marshalling/marshallinglaw01.VariTells", spec := "variTells", apart := false }
def VariTellsSaid : Prop := variTellsRow.holds Try.pinned (OpenSpec.ofChange variTellsSpec)

/-- ITS FALSE NEIGHBOUR: 'it returns false'. Refute it at one input. -/
def variTellsWrong : ChangeSpec := { name := "variTells", fn := fun _ => fun
  | [d1, d2, d3, d4, d5] => { results := [.lit (.bool false)], args := [d1, d2, d3, d4, d5] }
  | _ => none }
def VariTellsWrongFalsely : Prop := variTellsRow.holds Try.pinned (OpenSpec.ofChange variTellsWrong)

/-- 'marshallinglaw01.VariZigs': WHATEVER THE INPUT: true; the input reads as it did. -/
def variZigsSpec : ChangeSpec := { name := "variZigs", fn := fun _ => fun
  | [d1, d2, d3] => { results := [.lit (.bool true)], args := [d1, d2, d3] }
  | _ => none }
def variZigsRow : OpenClaim := { program := "ytenbolgcgfhggaa", sum := "a87655a001db85aa99f740660c670772baf31dcefdd0b38b4c55a45995252859", func := "marshalling/marshallinglaw01.VariZigs", spec := "variZigs", apart := false }
def VariZigsSaid : Prop := variZigsRow.holds Try.pinned (OpenSpec.ofChange variZigsSpec)

/-- ITS FALSE NEIGHBOUR: 'it returns false'. Refute it at one input. -/
def variZigsWrong : ChangeSpec := { name := "variZigs", fn := fun _ => fun
  | [d1, d2, d3] => { results := [.lit (.bool false)], args := [d1, d2, d3] }
  | _ => none }
def VariZigsWrongFalsely : Prop := variZigsRow.holds Try.pinned (OpenSpec.ofChange variZigsWrong)

/-- 'marshallinglaw01.VariBack': WHATEVER THE INPUT: true; the input reads as it did. -/
def variBackSpec : ChangeSpec := { name := "variBack", fn := fun _ => fun
  | [d1, d2, d3, d4] => { results := [.lit (.bool true)], args := [d1, d2, d3, d4] }
  | _ => none }
def variBackRow : OpenClaim := { program := "ytenbolgcgfhggaa", sum := "a87655a001db85aa99f740660c670772baf31dcefdd0b38b4c55a45995252859", func := "marshalling/marshallinglaw01.VariBack", spec := "variBack", apart := false }
def VariBackSaid : Prop := variBackRow.holds Try.pinned (OpenSpec.ofChange variBackSpec)

/-- ITS FALSE NEIGHBOUR: 'it returns false'. Refute it at one input. -/
def variBackWrong : ChangeSpec := { name := "variBack", fn := fun _ => fun
  | [d1, d2, d3, d4] => { results := [.lit (.bool false)], args := [d1, d2, d3, d4] }
  | _ => none }
def VariBackWrongFalsely : Prop := variBackRow.holds Try.pinned (OpenSpec.ofChange variBackWrong)

/-- 'marshallinglaw01.VariShort': WHATEVER THE INPUT: true; the input reads as it did. -/
def variShortSpec : ChangeSpec := { name := "variShort", fn := fun _ => fun
  | [d1, d2, d3] => { results := [.lit (.bool true)], args := [d1, d2, d3] }
  | _ => none }
def variShortRow : OpenClaim := { program := "ytenbolgcgfhggaa", sum := "a87655a001db85aa99f740660c670772baf31dcefdd0b38b4c55a45995252859", func := "marshalling/marshallinglaw01.VariShort", spec := "variShort", apart := false }
def VariShortSaid : Prop := variShortRow.holds Try.pinned (OpenSpec.ofChange variShortSpec)

/-- ITS FALSE NEIGHBOUR: 'it returns false'. Refute it at one input. -/
def variShortWrong : ChangeSpec := { name := "variShort", fn := fun _ => fun
  | [d1, d2, d3] => { results := [.lit (.bool false)], args := [d1, d2, d3] }
  | _ => none }
def VariShortWrongFalsely : Prop := variShortRow.holds Try.pinned (OpenSpec.ofChange variShortWrong)

/-- 'marshallinglaw01.VariOnce': WHATEVER THE INPUT: true; the input reads as it did. -/
def variOnceSpec : ChangeSpec := { name := "variOnce", fn := fun _ => fun
  | [d1, d2, d3, d4] => { results := [.lit (.bool true)], args := [d1, d2, d3, d4] }
  | _ => none }
def variOnceRow : OpenClaim := { program := "ytenbolgcgfhggaa", sum := "a87655a001db85aa99f740660c670772baf31dcefdd0b38b4c55a45995252859", func := "marshalling/marshallinglaw01.VariOnce", spec := "variOnce", apart := false }
def VariOnceSaid : Prop := variOnceRow.holds Try.pinned (OpenSpec.ofChange variOnceSpec)

/-- ITS FALSE NEIGHBOUR: 'it returns false'. Refute it at one input. -/
def variOnceWrong : ChangeSpec := { name := "variOnce", fn := fun _ => fun
  | [d1, d2, d3, d4] => { results := [.lit (.bool false)], args := [d1, d2, d3, d4] }
  | _ => none }
def VariOnceWrongFalsely : Prop := variOnceRow.holds Try.pinned (OpenSpec.ofChange variOnceWrong)

/-- 'marshallinglaw01.VariTorn': WHATEVER THE INPUT: true; the input reads as it did. -/
def variTornSpec : ChangeSpec := { name := "variTorn", fn := fun _ => fun
  | [d1, d2] => { results := [.lit (.bool true)], args := [d1, d2] }
  | _ => none }
def variTornRow : OpenClaim := { program := "ytenbolgcgfhggaa", sum := "a87655a001db85aa99f740660c670772baf31dcefdd0b38b4c55a45995252859", func := "marshalling/marshallinglaw01.VariTorn", spec := "variTorn", apart := false }
def VariTornSaid : Prop := variTornRow.holds Try.pinned (OpenSpec.ofChange variTornSpec)

/-- ITS FALSE NEIGHBOUR: 'it returns false'. Refute it at one input. -/
def variTornWrong : ChangeSpec := { name := "variTorn", fn := fun _ => fun
  | [d1, d2] => { results := [.lit (.bool false)], args := [d1, d2] }
  | _ => none }
def VariTornWrongFalsely : Prop := variTornRow.holds Try.pinned (OpenSpec.ofChange variTornWrong)

/-- 'marshallinglaw01.VariSmall': WHATEVER THE INPUT: true; the input reads as it did. -/
def variSmallSpec : ChangeSpec := { name := "variSmall", fn := fun _ => fun
  | [d1, d2] => { results := [.lit (.bool true)], args := [d1, d2] }
  | _ => none }
def variSmallRow : OpenClaim := { program := "ytenbolgcgfhggaa", sum := "a87655a001db85aa99f740660c670772baf31dcefdd0b38b4c55a45995252859", func := "marshalling/marshallinglaw01.VariSmall", spec := "variSmall", apart := false }
def VariSmallSaid : Prop := variSmallRow.holds Try.pinned (OpenSpec.ofChange variSmallSpec)

/-- ITS FALSE NEIGHBOUR: 'it returns false'. Refute it at one input. -/
def variSmallWrong : ChangeSpec := { name := "variSmall", fn := fun _ => fun
  | [d1, d2] => { results := [.lit (.bool false)], args := [d1, d2] }
  | _ => none }
def VariSmallWrongFalsely : Prop := variSmallRow.holds Try.pinned (OpenSpec.ofChange variSmallWrong)

/- THE SECOND FORM. 'bulk': how many values and letters a reading holds, each counted each time it is reached (what is shared counts as often as it is met; a slice's spare places count too). A statement '..UptoSaid' is the law's where the arguments, and the package variables that the reading takes, are together of bulk at most 1048576: NARROWER than '..Said'. Prove '..Said' where nothing that the law and all that it calls make is longer than what came in: it says more and counts as full. Else prove '..UptoSaid'. A law counts once. -/
mutual
def uptoBulk {H : Type} : DataW H → Nat
  | .lit (.string bytes) => bytes.length + 1
  | .lit _ => 1
  | .nil => 1
  | .ptr d => uptoBulk d + 1
  | .slice elems spare => uptoBulkAll elems + uptoBulkAll spare + 1
  | .agg parts => uptoBulkAll parts + 1
  | .iface _ d => uptoBulk d + 1
  | .map entries => uptoBulkEntries entries + 1
  | .held _ => 1
def uptoBulkAll {H : Type} : List (DataW H) → Nat
  | [] => 0
  | d :: r => uptoBulk d + uptoBulkAll r
def uptoBulkEntries {H : Type} : List (Lit × DataW H) → Nat
  | [] => 0
  | x :: r => uptoBulkEntry x + uptoBulkEntries r
def uptoBulkEntry {H : Type} : Lit × DataW H → Nat
  | (.string bytes, d) => bytes.length + uptoBulk d + 1
  | (_, d) => uptoBulk d + 1
 end
def uptoSmall : (H : Type) → List (DataW H) → Bool := fun _ ds => decide (uptoBulkAll ds ≤ 1048576)
def OpenSpec.upto (s : _root_.Go.ChangeSpec) : _root_.Go.OpenSpec := { _root_.Go.OpenSpec.ofChange s with cond := some uptoSmall }

/-- 'marshallinglaw01.VariTells', WHERE WHAT IT READS IS OF BULK AT MOST 1048576: true; the input reads as it did. -/
def variTellsUptoRow : OpenClaim := { program := "ytenbolgcgfhggaa", sum := "a87655a001db85aa99f740660c670772baf31dcefdd0b38b4c55a45995252859", func := "marshalling/marshallinglaw01.VariTells", spec := "variTells", apart := false, narrowed := true }
def VariTellsUptoSaid : Prop := variTellsUptoRow.holds Try.pinned (OpenSpec.upto variTellsSpec)

/-- 'marshallinglaw01.VariZigs', WHERE WHAT IT READS IS OF BULK AT MOST 1048576: true; the input reads as it did. -/
def variZigsUptoRow : OpenClaim := { program := "ytenbolgcgfhggaa", sum := "a87655a001db85aa99f740660c670772baf31dcefdd0b38b4c55a45995252859", func := "marshalling/marshallinglaw01.VariZigs", spec := "variZigs", apart := false, narrowed := true }
def VariZigsUptoSaid : Prop := variZigsUptoRow.holds Try.pinned (OpenSpec.upto variZigsSpec)

/-- 'marshallinglaw01.VariBack', WHERE WHAT IT READS IS OF BULK AT MOST 1048576: true; the input reads as it did. -/
def variBackUptoRow : OpenClaim := { program := "ytenbolgcgfhggaa", sum := "a87655a001db85aa99f740660c670772baf31dcefdd0b38b4c55a45995252859", func := "marshalling/marshallinglaw01.VariBack", spec := "variBack", apart := false, narrowed := true }
def VariBackUptoSaid : Prop := variBackUptoRow.holds Try.pinned (OpenSpec.upto variBackSpec)

/-- 'marshallinglaw01.VariShort', WHERE WHAT IT READS IS OF BULK AT MOST 1048576: true; the input reads as it did. -/
def variShortUptoRow : OpenClaim := { program := "ytenbolgcgfhggaa", sum := "a87655a001db85aa99f740660c670772baf31dcefdd0b38b4c55a45995252859", func := "marshalling/marshallinglaw01.VariShort", spec := "variShort", apart := false, narrowed := true }
def VariShortUptoSaid : Prop := variShortUptoRow.holds Try.pinned (OpenSpec.upto variShortSpec)

/-- 'marshallinglaw01.VariOnce', WHERE WHAT IT READS IS OF BULK AT MOST 1048576: true; the input reads as it did. -/
def variOnceUptoRow : OpenClaim := { program := "ytenbolgcgfhggaa", sum := "a87655a001db85aa99f740660c670772baf31dcefdd0b38b4c55a45995252859", func := "marshalling/marshallinglaw01.VariOnce", spec := "variOnce", apart := false, narrowed := true }
def VariOnceUptoSaid : Prop := variOnceUptoRow.holds Try.pinned (OpenSpec.upto variOnceSpec)

/-- 'marshallinglaw01.VariTorn', WHERE WHAT IT READS IS OF BULK AT MOST 1048576: true; the input reads as it did. -/
def variTornUptoRow : OpenClaim := { program := "ytenbolgcgfhggaa", sum := "a87655a001db85aa99f740660c670772baf31dcefdd0b38b4c55a45995252859", func := "marshalling/marshallinglaw01.VariTorn", spec := "variTorn", apart := false, narrowed := true }
def VariTornUptoSaid : Prop := variTornUptoRow.holds Try.pinned (OpenSpec.upto variTornSpec)

/-- 'marshallinglaw01.VariSmall', WHERE WHAT IT READS IS OF BULK AT MOST 1048576: true; the input reads as it did. -/
def variSmallUptoRow : OpenClaim := { program := "ytenbolgcgfhggaa", sum := "a87655a001db85aa99f740660c670772baf31dcefdd0b38b4c55a45995252859", func := "marshalling/marshallinglaw01.VariSmall", spec := "variSmall", apart := false, narrowed := true }
def VariSmallUptoSaid : Prop := variSmallUptoRow.holds Try.pinned (OpenSpec.upto variSmallSpec)

end Rows
end Go.Proofs.Ytenbolgcgfhggaa
