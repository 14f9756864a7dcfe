/-
  No cell of these rows narrows 'for every input' (looked for: loops, veiled, ifaces, maps, wideKeys, modest, calm, conditions, laid).
  DERIVED. THE GIVEN ROWS OF THIS SEAT. 6 by the template 'for every input the law returns true; each argument reads behind the call as it read before'; 0 by the template 'total and deterministic' (their statements: YtckpecddglfjkaaTotals.lean).
  GIVEN WITH THE SEED: the statements are not yours to turn. If you find one false, say at which input.
  Laid BY PROGRAM, IN A SANDBOX (cutbox-rows.mjs): the forced cells as the released guide's own fill.sh prints them over the translation 8a005c28b65b0828… (all of the seat's roots in one cut). By AI agents, Wed Nov 11 2026. No macro, syntax, notation, axiom, sorry.
-/
import Derived.Test.YtckpecddglfjkaaChecked
import GoSem.Claim
import GoSem.ClaimJoined
import GoSem.ClaimMapViews
import Derived.JoinedTies
import Derived.KernelRfl
namespace Go.Proofs.Ytckpecddglfjkaa
/- THE CELL 'sum', in the pinned program and in every row, IS THE sha256 OF THE DUMP (.gsa) THAT YtckpecddglfjkaaProg.lean LOADS. Nothing in Lean hashes anything: it is a label: what it is worth is what the hold of that sum in a sandbox is worth. -/
noncomputable def Try.pinned : Pinned := { name := "ytckpecddglfjkaa", sum := "8a005c28b65b08285f333e6f6ca543363212996da9eabfb8768550f05f299a07", checked := Try.checked }
namespace Rows
def none {H : Type} : Left H := { results := [], args := [] }

/-- 'marshallinglaw17.DrrTells': WHATEVER THE INPUT: true; the input reads as it did. -/
def drrTellsSpec : ChangeSpec := { name := "drrTells", fn := fun _ => fun
  | [d] => { results := [.lit (.bool true)], args := [d] }
  | _ => none }
def drrTellsRow : OpenClaim := { program := "ytckpecddglfjkaa", sum := "8a005c28b65b08285f333e6f6ca543363212996da9eabfb8768550f05f299a07", func := "marshalling/marshallinglaw17.DrrTells", spec := "drrTells", inPlace := ["slices.overlaps[marshalling/drr.flow]"], unfollowed := true, recurses := true, apart := false }
def DrrTellsSaid : Prop := drrTellsRow.holds Try.pinned (OpenSpec.ofChange drrTellsSpec)

/-- ITS FALSE NEIGHBOUR: 'it returns false'. Refute it at one input. -/
def drrTellsWrong : ChangeSpec := { name := "drrTells", fn := fun _ => fun
  | [d] => { results := [.lit (.bool false)], args := [d] }
  | _ => none }
def DrrTellsWrongFalsely : Prop := drrTellsRow.holds Try.pinned (OpenSpec.ofChange drrTellsWrong)

/-- 'marshallinglaw17.DrrFair': WHATEVER THE INPUT: true; the input reads as it did. -/
def drrFairSpec : ChangeSpec := { name := "drrFair", fn := fun _ => fun
  | [d1, d2, d3] => { results := [.lit (.bool true)], args := [d1, d2, d3] }
  | _ => none }
def drrFairRow : OpenClaim := { program := "ytckpecddglfjkaa", sum := "8a005c28b65b08285f333e6f6ca543363212996da9eabfb8768550f05f299a07", func := "marshalling/marshallinglaw17.DrrFair", spec := "drrFair", inPlace := ["slices.overlaps[marshalling/drr.flow]"], unfollowed := true, recurses := true, apart := false }
def DrrFairSaid : Prop := drrFairRow.holds Try.pinned (OpenSpec.ofChange drrFairSpec)

/-- ITS FALSE NEIGHBOUR: 'it returns false'. Refute it at one input. -/
def drrFairWrong : ChangeSpec := { name := "drrFair", fn := fun _ => fun
  | [d1, d2, d3] => { results := [.lit (.bool false)], args := [d1, d2, d3] }
  | _ => none }
def DrrFairWrongFalsely : Prop := drrFairRow.holds Try.pinned (OpenSpec.ofChange drrFairWrong)

/-- 'marshallinglaw17.DrrReady': WHATEVER THE INPUT: true; the input reads as it did. -/
def drrReadySpec : ChangeSpec := { name := "drrReady", fn := fun _ => fun
  | [d1, d2] => { results := [.lit (.bool true)], args := [d1, d2] }
  | _ => none }
def drrReadyRow : OpenClaim := { program := "ytckpecddglfjkaa", sum := "8a005c28b65b08285f333e6f6ca543363212996da9eabfb8768550f05f299a07", func := "marshalling/marshallinglaw17.DrrReady", spec := "drrReady", inPlace := ["slices.overlaps[marshalling/drr.flow]"], unfollowed := true, recurses := true, apart := false }
def DrrReadySaid : Prop := drrReadyRow.holds Try.pinned (OpenSpec.ofChange drrReadySpec)

/-- ITS FALSE NEIGHBOUR: 'it returns false'. Refute it at one input. -/
def drrReadyWrong : ChangeSpec := { name := "drrReady", fn := fun _ => fun
  | [d1, d2] => { results := [.lit (.bool false)], args := [d1, d2] }
  | _ => none }
def DrrReadyWrongFalsely : Prop := drrReadyRow.holds Try.pinned (OpenSpec.ofChange drrReadyWrong)

/-- 'marshallinglaw17.DrrDeficits': WHATEVER THE INPUT: true; the input reads as it did. -/
def drrDeficitsSpec : ChangeSpec := { name := "drrDeficits", fn := fun _ => fun
  | [d1, d2, d3] => { results := [.lit (.bool true)], args := [d1, d2, d3] }
  | _ => none }
def drrDeficitsRow : OpenClaim := { program := "ytckpecddglfjkaa", sum := "8a005c28b65b08285f333e6f6ca543363212996da9eabfb8768550f05f299a07", func := "marshalling/marshallinglaw17.DrrDeficits", spec := "drrDeficits", inPlace := ["slices.overlaps[marshalling/drr.flow]"], unfollowed := true, recurses := true, apart := false }
def DrrDeficitsSaid : Prop := drrDeficitsRow.holds Try.pinned (OpenSpec.ofChange drrDeficitsSpec)

/-- ITS FALSE NEIGHBOUR: 'it returns false'. Refute it at one input. -/
def drrDeficitsWrong : ChangeSpec := { name := "drrDeficits", fn := fun _ => fun
  | [d1, d2, d3] => { results := [.lit (.bool false)], args := [d1, d2, d3] }
  | _ => none }
def DrrDeficitsWrongFalsely : Prop := drrDeficitsRow.holds Try.pinned (OpenSpec.ofChange drrDeficitsWrong)

/-- 'marshallinglaw17.DrrTurns': WHATEVER THE INPUT: true; the input reads as it did. -/
def drrTurnsSpec : ChangeSpec := { name := "drrTurns", fn := fun _ => fun
  | [d1, d2, d3] => { results := [.lit (.bool true)], args := [d1, d2, d3] }
  | _ => none }
def drrTurnsRow : OpenClaim := { program := "ytckpecddglfjkaa", sum := "8a005c28b65b08285f333e6f6ca543363212996da9eabfb8768550f05f299a07", func := "marshalling/marshallinglaw17.DrrTurns", spec := "drrTurns", inPlace := ["slices.overlaps[marshalling/drr.flow]"], unfollowed := true, recurses := true, apart := false }
def DrrTurnsSaid : Prop := drrTurnsRow.holds Try.pinned (OpenSpec.ofChange drrTurnsSpec)

/-- ITS FALSE NEIGHBOUR: 'it returns false'. Refute it at one input. -/
def drrTurnsWrong : ChangeSpec := { name := "drrTurns", fn := fun _ => fun
  | [d1, d2, d3] => { results := [.lit (.bool false)], args := [d1, d2, d3] }
  | _ => none }
def DrrTurnsWrongFalsely : Prop := drrTurnsRow.holds Try.pinned (OpenSpec.ofChange drrTurnsWrong)

/-- 'marshallinglaw17.DrrDrops': WHATEVER THE INPUT: true; the input reads as it did. -/
def drrDropsSpec : ChangeSpec := { name := "drrDrops", fn := fun _ => fun
  | [d1, d2, d3, d4] => { results := [.lit (.bool true)], args := [d1, d2, d3, d4] }
  | _ => none }
def drrDropsRow : OpenClaim := { program := "ytckpecddglfjkaa", sum := "8a005c28b65b08285f333e6f6ca543363212996da9eabfb8768550f05f299a07", func := "marshalling/marshallinglaw17.DrrDrops", spec := "drrDrops", inPlace := ["slices.overlaps[marshalling/drr.flow]"], unfollowed := true, recurses := true, apart := false }
def DrrDropsSaid : Prop := drrDropsRow.holds Try.pinned (OpenSpec.ofChange drrDropsSpec)

/-- ITS FALSE NEIGHBOUR: 'it returns false'. Refute it at one input. -/
def drrDropsWrong : ChangeSpec := { name := "drrDrops", fn := fun _ => fun
  | [d1, d2, d3, d4] => { results := [.lit (.bool false)], args := [d1, d2, d3, d4] }
  | _ => none }
def DrrDropsWrongFalsely : Prop := drrDropsRow.holds Try.pinned (OpenSpec.ofChange drrDropsWrong)

/- THE SECOND FORM. 'bulk': how many values and letters a reading holds, each counted each time it is reached (what is shared counts as often as it is met; a slice's spare places count too). A statement '..UptoSaid' is the law's where the arguments, and the package variables that the reading takes, are together of bulk at most 1048576: NARROWER than '..Said'. Prove '..Said' where nothing that the law and all that it calls make is longer than what came in: it says more and counts as full. Else prove '..UptoSaid'. A law counts once. -/
mutual
def uptoBulk {H : Type} : DataW H → Nat
  | .lit (.string bytes) => bytes.length + 1
  | .lit _ => 1
  | .nil => 1
  | .ptr d => uptoBulk d + 1
  | .slice elems spare => uptoBulkAll elems + uptoBulkAll spare + 1
  | .agg parts => uptoBulkAll parts + 1
  | .iface _ d => uptoBulk d + 1
  | .map entries => uptoBulkEntries entries + 1
  | .held _ => 1
def uptoBulkAll {H : Type} : List (DataW H) → Nat
  | [] => 0
  | d :: r => uptoBulk d + uptoBulkAll r
def uptoBulkEntries {H : Type} : List (Lit × DataW H) → Nat
  | [] => 0
  | x :: r => uptoBulkEntry x + uptoBulkEntries r
def uptoBulkEntry {H : Type} : Lit × DataW H → Nat
  | (.string bytes, d) => bytes.length + uptoBulk d + 1
  | (_, d) => uptoBulk d + 1
 end
def uptoSmall : (H : Type) → List (DataW H) → Bool := fun _ ds => decide (uptoBulkAll ds ≤ 1048576)
def OpenSpec.upto (s : _root_.Go.ChangeSpec) : _root_.Go.OpenSpec := { _root_.Go.OpenSpec.ofChange s with cond := some uptoSmall }

/-- 'marshallinglaw17.DrrTells', WHERE WHAT IT READS IS OF BULK AT MOST 1048576: true; the input reads as it did. -/
def drrTellsUptoRow : OpenClaim := { program := "ytckpecddglfjkaa", sum := "8a005c28b65b08285f333e6f6ca543363212996da9eabfb8768550f05f299a07", func := "marshalling/marshallinglaw17.DrrTells", spec := "drrTells", inPlace := ["slices.overlaps[marshalling/drr.flow]"], unfollowed := true, recurses := true, apart := false, narrowed := true }
def DrrTellsUptoSaid : Prop := drrTellsUptoRow.holds Try.pinned (OpenSpec.upto drrTellsSpec)

/-- 'marshallinglaw17.DrrFair', WHERE WHAT IT READS IS OF BULK AT MOST 1048576: true; the input reads as it did. -/
def drrFairUptoRow : OpenClaim := { program := "ytckpecddglfjkaa", sum := "8a005c28b65b08285f333e6f6ca543363212996da9eabfb8768550f05f299a07", func := "marshalling/marshallinglaw17.DrrFair", spec := "drrFair", inPlace := ["slices.overlaps[marshalling/drr.flow]"], unfollowed := true, recurses := true, apart := false, narrowed := true }
def DrrFairUptoSaid : Prop := drrFairUptoRow.holds Try.pinned (OpenSpec.upto drrFairSpec)

/-- 'marshallinglaw17.DrrReady', WHERE WHAT IT READS IS OF BULK AT MOST 1048576: true; the input reads as it did. -/
def drrReadyUptoRow : OpenClaim := { program := "ytckpecddglfjkaa", sum := "8a005c28b65b08285f333e6f6ca543363212996da9eabfb8768550f05f299a07", func := "marshalling/marshallinglaw17.DrrReady", spec := "drrReady", inPlace := ["slices.overlaps[marshalling/drr.flow]"], unfollowed := true, recurses := true, apart := false, narrowed := true }
def DrrReadyUptoSaid : Prop := drrReadyUptoRow.holds Try.pinned (OpenSpec.upto drrReadySpec)

/-- 'marshallinglaw17.DrrDeficits', WHERE WHAT IT READS IS OF BULK AT MOST 1048576: true; the input reads as it did. -/
def drrDeficitsUptoRow : OpenClaim := { program := "ytckpecddglfjkaa", sum := "8a005c28b65b08285f333e6f6ca543363212996da9eabfb8768550f05f299a07", func := "marshalling/marshallinglaw17.DrrDeficits", spec := "drrDeficits", inPlace := ["slices.overlaps[marshalling/drr.flow]"], unfollowed := true, recurses := true, apart := false, narrowed := true }
def DrrDeficitsUptoSaid : Prop := drrDeficitsUptoRow.holds Try.pinned (OpenSpec.upto drrDeficitsSpec)

/-- 'marshallinglaw17.DrrTurns', WHERE WHAT IT READS IS OF BULK AT MOST 1048576: true; the input reads as it did. -/
def drrTurnsUptoRow : OpenClaim := { program := "ytckpecddglfjkaa", sum := "8a005c28b65b08285f333e6f6ca543363212996da9eabfb8768550f05f299a07", func := "marshalling/marshallinglaw17.DrrTurns", spec := "drrTurns", inPlace := ["slices.overlaps[marshalling/drr.flow]"], unfollowed := true, recurses := true, apart := false, narrowed := true }
def DrrTurnsUptoSaid : Prop := drrTurnsUptoRow.holds Try.pinned (OpenSpec.upto drrTurnsSpec)

/-- 'marshallinglaw17.DrrDrops', WHERE WHAT IT READS IS OF BULK AT MOST 1048576: true; the input reads as it did. -/
def drrDropsUptoRow : OpenClaim := { program := "ytckpecddglfjkaa", sum := "8a005c28b65b08285f333e6f6ca543363212996da9eabfb8768550f05f299a07", func := "marshalling/marshallinglaw17.DrrDrops", spec := "drrDrops", inPlace := ["slices.overlaps[marshalling/drr.flow]"], unfollowed := true, recurses := true, apart := false, narrowed := true }
def DrrDropsUptoSaid : Prop := drrDropsUptoRow.holds Try.pinned (OpenSpec.upto drrDropsSpec)

end Rows
end Go.Proofs.Ytckpecddglfjkaa
