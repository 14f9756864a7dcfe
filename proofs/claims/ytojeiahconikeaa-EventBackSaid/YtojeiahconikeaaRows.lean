/-
  No cell of these rows narrows 'for every input' (looked for: loops, veiled, ifaces, maps, wideKeys, modest, calm, conditions, laid).
  DERIVED. THE GIVEN ROWS OF THIS SEAT. 5 by the template 'for every input the law returns true; each argument reads behind the call as it read before'; 0 by the template 'total and deterministic' (their statements: YtojeiahconikeaaTotals.lean).
  GIVEN WITH THE SEED: the statements are not yours to turn. If you find one false, say at which input.
  Laid BY PROGRAM, IN A SANDBOX (cutbox-rows.mjs): the forced cells as the released guide's own fill.sh prints them over the translation 0e4e57d5810e6b50… (all of the seat's roots in one cut). By AI agents, Wed Nov 11 2026. No macro, syntax, notation, axiom, sorry.
-/
import Derived.Test.YtojeiahconikeaaChecked
import GoSem.Claim
import GoSem.ClaimJoined
import GoSem.ClaimMapViews
import Derived.JoinedTies
import Derived.KernelRfl
namespace Go.Proofs.Ytojeiahconikeaa
/- THE CELL 'sum', in the pinned program and in every row, IS THE sha256 OF THE DUMP (.gsa) THAT YtojeiahconikeaaProg.lean LOADS. Nothing in Lean hashes anything: it is a label: what it is worth is what the hold of that sum in a sandbox is worth. -/
noncomputable def Try.pinned : Pinned := { name := "ytojeiahconikeaa", sum := "0e4e57d5810e6b50cfe6f9a5f699482261c7918e13b9f48b9e82424f14194dc1", checked := Try.checked }
namespace Rows
def none {H : Type} : Left H := { results := [], args := [] }

/-- 'marshallinglaw04.EventTells': WHATEVER THE INPUT: true; the input reads as it did. -/
def eventTellsSpec : ChangeSpec := { name := "eventTells", fn := fun _ => fun
  | [d1, d2, d3, d4, d5, d6, d7, d8] => { results := [.lit (.bool true)], args := [d1, d2, d3, d4, d5, d6, d7, d8] }
  | _ => none }
def eventTellsRow : OpenClaim := { program := "ytojeiahconikeaa", sum := "0e4e57d5810e6b50cfe6f9a5f699482261c7918e13b9f48b9e82424f14194dc1", func := "marshalling/marshallinglaw04.EventTells", spec := "eventTells", unfollowed := true, recurses := true, apart := false }
def EventTellsSaid : Prop := eventTellsRow.holds Try.pinned (OpenSpec.ofChange eventTellsSpec)

/-- ITS FALSE NEIGHBOUR: 'it returns false'. Refute it at one input. -/
def eventTellsWrong : ChangeSpec := { name := "eventTells", fn := fun _ => fun
  | [d1, d2, d3, d4, d5, d6, d7, d8] => { results := [.lit (.bool false)], args := [d1, d2, d3, d4, d5, d6, d7, d8] }
  | _ => none }
def EventTellsWrongFalsely : Prop := eventTellsRow.holds Try.pinned (OpenSpec.ofChange eventTellsWrong)

/-- 'marshallinglaw04.EventBack': WHATEVER THE INPUT: true; the input reads as it did. -/
def eventBackSpec : ChangeSpec := { name := "eventBack", fn := fun _ => fun
  | [d1, d2, d3, d4, d5, d6] => { results := [.lit (.bool true)], args := [d1, d2, d3, d4, d5, d6] }
  | _ => none }
def eventBackRow : OpenClaim := { program := "ytojeiahconikeaa", sum := "0e4e57d5810e6b50cfe6f9a5f699482261c7918e13b9f48b9e82424f14194dc1", func := "marshalling/marshallinglaw04.EventBack", spec := "eventBack", unfollowed := true, recurses := true, apart := false }
def EventBackSaid : Prop := eventBackRow.holds Try.pinned (OpenSpec.ofChange eventBackSpec)

/-- ITS FALSE NEIGHBOUR: 'it returns false'. Refute it at one input. -/
def eventBackWrong : ChangeSpec := { name := "eventBack", fn := fun _ => fun
  | [d1, d2, d3, d4, d5, d6] => { results := [.lit (.bool false)], args := [d1, d2, d3, d4, d5, d6] }
  | _ => none }
def EventBackWrongFalsely : Prop := eventBackRow.holds Try.pinned (OpenSpec.ofChange eventBackWrong)

/-- 'marshallinglaw04.EventOnce': WHATEVER THE INPUT: true; the input reads as it did. -/
def eventOnceSpec : ChangeSpec := { name := "eventOnce", fn := fun _ => fun
  | [d1, d2, d3, d4, d5, d6, d7] => { results := [.lit (.bool true)], args := [d1, d2, d3, d4, d5, d6, d7] }
  | _ => none }
def eventOnceRow : OpenClaim := { program := "ytojeiahconikeaa", sum := "0e4e57d5810e6b50cfe6f9a5f699482261c7918e13b9f48b9e82424f14194dc1", func := "marshalling/marshallinglaw04.EventOnce", spec := "eventOnce", unfollowed := true, recurses := true, apart := false }
def EventOnceSaid : Prop := eventOnceRow.holds Try.pinned (OpenSpec.ofChange eventOnceSpec)

/-- ITS FALSE NEIGHBOUR: 'it returns false'. Refute it at one input. -/
def eventOnceWrong : ChangeSpec := { name := "eventOnce", fn := fun _ => fun
  | [d1, d2, d3, d4, d5, d6, d7] => { results := [.lit (.bool false)], args := [d1, d2, d3, d4, d5, d6, d7] }
  | _ => none }
def EventOnceWrongFalsely : Prop := eventOnceRow.holds Try.pinned (OpenSpec.ofChange eventOnceWrong)

/-- 'marshallinglaw04.EventItem': WHATEVER THE INPUT: true; the input reads as it did. -/
def eventItemSpec : ChangeSpec := { name := "eventItem", fn := fun _ => fun
  | [d1, d2, d3, d4] => { results := [.lit (.bool true)], args := [d1, d2, d3, d4] }
  | _ => none }
def eventItemRow : OpenClaim := { program := "ytojeiahconikeaa", sum := "0e4e57d5810e6b50cfe6f9a5f699482261c7918e13b9f48b9e82424f14194dc1", func := "marshalling/marshallinglaw04.EventItem", spec := "eventItem", unfollowed := true, recurses := true, apart := false }
def EventItemSaid : Prop := eventItemRow.holds Try.pinned (OpenSpec.ofChange eventItemSpec)

/-- ITS FALSE NEIGHBOUR: 'it returns false'. Refute it at one input. -/
def eventItemWrong : ChangeSpec := { name := "eventItem", fn := fun _ => fun
  | [d1, d2, d3, d4] => { results := [.lit (.bool false)], args := [d1, d2, d3, d4] }
  | _ => none }
def EventItemWrongFalsely : Prop := eventItemRow.holds Try.pinned (OpenSpec.ofChange eventItemWrong)

/-- 'marshallinglaw04.EventTorn': WHATEVER THE INPUT: true; the input reads as it did. -/
def eventTornSpec : ChangeSpec := { name := "eventTorn", fn := fun _ => fun
  | [d1, d2, d3, d4, d5, d6] => { results := [.lit (.bool true)], args := [d1, d2, d3, d4, d5, d6] }
  | _ => none }
def eventTornRow : OpenClaim := { program := "ytojeiahconikeaa", sum := "0e4e57d5810e6b50cfe6f9a5f699482261c7918e13b9f48b9e82424f14194dc1", func := "marshalling/marshallinglaw04.EventTorn", spec := "eventTorn", unfollowed := true, recurses := true, apart := false }
def EventTornSaid : Prop := eventTornRow.holds Try.pinned (OpenSpec.ofChange eventTornSpec)

/-- ITS FALSE NEIGHBOUR: 'it returns false'. Refute it at one input. -/
def eventTornWrong : ChangeSpec := { name := "eventTorn", fn := fun _ => fun
  | [d1, d2, d3, d4, d5, d6] => { results := [.lit (.bool false)], args := [d1, d2, d3, d4, d5, d6] }
  | _ => none }
def EventTornWrongFalsely : Prop := eventTornRow.holds Try.pinned (OpenSpec.ofChange eventTornWrong)

/- THE SECOND FORM. 'bulk': how many values and letters a reading holds, each counted each time it is reached (what is shared counts as often as it is met; a slice's spare places count too). A statement '..UptoSaid' is the law's where the arguments, and the package variables that the reading takes, are together of bulk at most 1048576: NARROWER than '..Said'. Prove '..Said' where nothing that the law and all that it calls make is longer than what came in: it says more and counts as full. Else prove '..UptoSaid'. A law counts once. -/
mutual
def uptoBulk {H : Type} : DataW H → Nat
  | .lit (.string bytes) => bytes.length + 1
  | .lit _ => 1
  | .nil => 1
  | .ptr d => uptoBulk d + 1
  | .slice elems spare => uptoBulkAll elems + uptoBulkAll spare + 1
  | .agg parts => uptoBulkAll parts + 1
  | .iface _ d => uptoBulk d + 1
  | .map entries => uptoBulkEntries entries + 1
  | .held _ => 1
def uptoBulkAll {H : Type} : List (DataW H) → Nat
  | [] => 0
  | d :: r => uptoBulk d + uptoBulkAll r
def uptoBulkEntries {H : Type} : List (Lit × DataW H) → Nat
  | [] => 0
  | x :: r => uptoBulkEntry x + uptoBulkEntries r
def uptoBulkEntry {H : Type} : Lit × DataW H → Nat
  | (.string bytes, d) => bytes.length + uptoBulk d + 1
  | (_, d) => uptoBulk d + 1
 end
def uptoSmall : (H : Type) → List (DataW H) → Bool := fun _ ds => decide (uptoBulkAll ds ≤ 1048576)
def OpenSpec.upto (s : _root_.Go.ChangeSpec) : _root_.Go.OpenSpec := { _root_.Go.OpenSpec.ofChange s with cond := some uptoSmall }

/-- 'marshallinglaw04.EventTells', WHERE WHAT IT READS IS OF BULK AT MOST 1048576: true; the input reads as it did. -/
def eventTellsUptoRow : OpenClaim := { program := "ytojeiahconikeaa", sum := "0e4e57d5810e6b50cfe6f9a5f699482261c7918e13b9f48b9e82424f14194dc1", func := "marshalling/marshallinglaw04.EventTells", spec := "eventTells", unfollowed := true, recurses := true, apart := false, narrowed := true }
def EventTellsUptoSaid : Prop := eventTellsUptoRow.holds Try.pinned (OpenSpec.upto eventTellsSpec)

/-- 'marshallinglaw04.EventBack', WHERE WHAT IT READS IS OF BULK AT MOST 1048576: true; the input reads as it did. -/
def eventBackUptoRow : OpenClaim := { program := "ytojeiahconikeaa", sum := "0e4e57d5810e6b50cfe6f9a5f699482261c7918e13b9f48b9e82424f14194dc1", func := "marshalling/marshallinglaw04.EventBack", spec := "eventBack", unfollowed := true, recurses := true, apart := false, narrowed := true }
def EventBackUptoSaid : Prop := eventBackUptoRow.holds Try.pinned (OpenSpec.upto eventBackSpec)

/-- 'marshallinglaw04.EventOnce', WHERE WHAT IT READS IS OF BULK AT MOST 1048576: true; the input reads as it did. -/
def eventOnceUptoRow : OpenClaim := { program := "ytojeiahconikeaa", sum := "0e4e57d5810e6b50cfe6f9a5f699482261c7918e13b9f48b9e82424f14194dc1", func := "marshalling/marshallinglaw04.EventOnce", spec := "eventOnce", unfollowed := true, recurses := true, apart := false, narrowed := true }
def EventOnceUptoSaid : Prop := eventOnceUptoRow.holds Try.pinned (OpenSpec.upto eventOnceSpec)

/-- 'marshallinglaw04.EventItem', WHERE WHAT IT READS IS OF BULK AT MOST 1048576: true; the input reads as it did. -/
def eventItemUptoRow : OpenClaim := { program := "ytojeiahconikeaa", sum := "0e4e57d5810e6b50cfe6f9a5f699482261c7918e13b9f48b9e82424f14194dc1", func := "marshalling/marshallinglaw04.EventItem", spec := "eventItem", unfollowed := true, recurses := true, apart := false, narrowed := true }
def EventItemUptoSaid : Prop := eventItemUptoRow.holds Try.pinned (OpenSpec.upto eventItemSpec)

/-- 'marshallinglaw04.EventTorn', WHERE WHAT IT READS IS OF BULK AT MOST 1048576: true; the input reads as it did. -/
def eventTornUptoRow : OpenClaim := { program := "ytojeiahconikeaa", sum := "0e4e57d5810e6b50cfe6f9a5f699482261c7918e13b9f48b9e82424f14194dc1", func := "marshalling/marshallinglaw04.EventTorn", spec := "eventTorn", unfollowed := true, recurses := true, apart := false, narrowed := true }
def EventTornUptoSaid : Prop := eventTornUptoRow.holds Try.pinned (OpenSpec.upto eventTornSpec)

end Rows
end Go.Proofs.Ytojeiahconikeaa
