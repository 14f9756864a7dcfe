/- How a tree is put: mathematics. -/
import Derived.Test.YtenmbahfgfmjjaaDoorTree
namespace Go.Proofs.YtenmbahfgfmjjaaDoor
open Go.ChangeShapes Go.WideShapes Go.ChangeAt Go.RowKit
set_option linter.unusedVariables false
set_option linter.unusedSimpArgs false

/-- Is a tree an operation of two, and how closely does it bind? -/
def Tr.isBin : Tr → Bool
  | .bin _ _ _ => true
  | _ => false
def Tr.opOf : Tr → ByteArray
  | .un op _ => op
  | .bin op _ _ => op
  | _ => e0
def brk (b : Bool) (l : List UInt8) : List UInt8 := if b then 40 :: (l ++ [41]) else l
/-- A tree as a text, with no more brackets than are needed. -/
def putT : Tr → List UInt8
  | .lit k n s => Val.showL k n s
  | .ref v f => v.toList ++ (46 :: f.toList)
  | .cnt v => 35 :: v.toList
  | .un op x => op.toList ++ brk x.isBin (putT x)
  | .bin op x y => brk (x.isBin && decide (lvl x.opOf < lvl op)) (putT x) ++ (32 :: (op.toList ++ [32])) ++ brk (y.isBin && decide (lvl y.opOf ≤ lvl op)) (putT y)
/-- How many nodes a tree has. -/
def Tr.nodes : Tr → Nat
  | .un _ x => x.nodes + 1
  | .bin _ x y => x.nodes + y.nodes + 1
  | _ => 1
theorem Tr.nodes_pos (t : Tr) : 1 ≤ t.nodes := by cases t <;> simp [Tr.nodes]
theorem brk_len (b : Bool) (l : List UInt8) : (brk b l).length ≤ l.length + 2 := by unfold brk; split <;> simp
end Go.Proofs.YtenmbahfgfmjjaaDoor
