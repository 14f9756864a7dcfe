/- Contracts of package expr: lay at leaves. -/
import Derived.Test.YtenmbahfgfmjjaaDoorPutM
import Derived.Test.YtenmbahfgfmjjaaDoorShowV
import Derived.Test.YtenmbahfgfmjjaaDoorCells2
import Derived.Test.YtenmbahfgfmjjaaDoorTreeR
import Derived.Test.YtenmbahfgfmjjaaDoorNum80
import Derived.OwnWalk
import Derived.Test.YtenmbahfgfmjjaaDoorLayL
namespace Go.Proofs.YtenmbahfgfmjjaaDoor
open Go.ChangeShapes Go.WideShapes Go.ChangeAt Go.RowKit
open Rk (inR)
set_option linter.unusedVariables false
set_option linter.unusedSimpArgs false

theorem Tryd.infoU8 : (Tryd.prog.info? 5).map (fun i => (i.zero, i.size, i.bytes)) = some (some (.int .u8 0), 1, 1) := by kernel_rfl
def byF (c : UInt8) : List Value := [.int .u8 (c.toNat : Int)]
theorem flat_by (l : List UInt8) : l.flatMap byF = l.map (fun c : UInt8 => Value.int .u8 (c.toNat : Int)) := by
  induction l with
  | nil => rfl
  | cons a l ih => simp [byF, ih]
/-- The call's own bytes. -/
abbrev OwnB (w : World) (B : Nat) (v : Value) (l : List UInt8) : Prop := Own w B 5 1 byF v l
theorem OwnB.str {w : World} {B : Nat} {v : Value} {l : List UInt8} {s : ByteArray} (h : w.ownsRow B 5 1 v (l.length + s.size) (l.flatMap byF ++ Lib.strCells s)) : OwnB w B v (l ++ s.data.toList) := by
  unfold OwnB Own
  rw [List.flatMap_append, show (l ++ s.data.toList).length = l.length + s.size by simp]
  rw [flat_by s.data.toList]
  exact h
/-- What lay tells: the bytes, and more. -/
def LayT (w : World) (v : Value) (B : Nat) (l : List UInt8) (e : Ending) (w' : World) : Prop := ∃ A n c, e = .returned (.slice A n c) ∧ OwnB w' B (.slice A n c) l ∧ Wr w v w' (.slice A n c)
theorem lay_end {w w1 w2 : World} {B : Nat} {l : List UInt8} {s : ByteArray} {v : Value} {A' : Option Addr} {n' c' : Nat} (hb : Below w.heap.size w w1) (h : w2.ownsRow B 5 1 (.slice A' n' c') (l.length + s.size) (l.flatMap byF ++ Lib.strCells s)) (hg : w1.grownBy w2 v.ownBlock)
    (ho : (Value.slice A' n' c').ownBlock = v.ownBlock ∨ (Value.slice A' n' c').ownBlock = some w1.heap.size) : LayT w v B (l ++ s.data.toList) (.returned (.slice A' n' c')) w2 :=
  ⟨A', n', c', rfl, OwnB.str h, Wr.pre hb ⟨hg, ho.imp id (fun e => ⟨_, e, Nat.le_refl _⟩)⟩⟩
set_option maxHeartbeats 1000000 in
theorem lay_lit (k n : Int) (s : ByteArray) (w : World) (v : Value) (B : Nat) (l : List UInt8) (hO : OwnB w B v l) (hb : B ≤ w.heap.size) (hT : Tab w) (hs : s.size ≤ 64) (hn : inR n) (hl : l.length + (Val.showL k n s).length ≤ 1000000000) :
    Calls Tryd.prog 66 #[v, ev 0 e0 k n s e0 e0 nilk] w fun e w' => LayT w v B (l ++ putT (.lit k n s)) e w' := by
  obtain ⟨i0, hi, hz0, hz1, hz2⟩ := info_parts Tryd.infoU8
  obtain ⟨A, m, c, rfl⟩ := own_shape hO
  have bb := ba w (.cells #[.int .i64 0, .string e0, .int .i64 k, .int .i64 n, .string s, .string e0, .string e0, .slice none 0 0] 42)
  have cS := Show_v k n s _ (by unfold maxLen; omega) hn.1 hn.2 (hT.later bb)
  rw [putT]
  generalize Val.showL k n s = x at *
  have H := Lib.hid (And.intro hO (And.intro hb (And.intro bb cS))); clear hO hb bb cS hT hn hs
  go_enter Tryd.func66, Tryd.ntmps66
  go_wp2_with (first
    | (go_at_call 78; refine (H.out.2.2.2).mono ?_; rintro e w1 ⟨rfl, hb1⟩; have B1 := Lib.hid hb1; clear hb1)
    | (at_builtin; refine wpList_append_string_at _ rfl (.tmp 12) (.tmp 15) 22 9 rfl B 5 i0 Tryd.underlying22 Tryd.underlying9 hi hz0 hz1 hz2 (.slice A m c) l.length _ rfl (Own.later (Own.later H.out.1 H.out.2.2.1) B1.out) ⟨x.toArray⟩ rfl (by show _ + x.toArray.size ≤ _; unfold maxLen; simp; omega) (by show _ + x.toArray.size ≤ _; simp; omega) (Nat.le_trans H.out.2.1 (bt H.out.2.2.1 B1.out).size) ?_; intro v' w2 hO2 hg2 ho2; obtain ⟨A2, n2, c2, rfl⟩ := own_shape hO2; have Z := Lib.hid (And.intro hO2 (And.intro hg2 ho2)); clear hO2 hg2 ho2))
  go_ret
  have := lay_end (v := .slice A m c) (bt H.out.2.2.1 B1.out) Z.out.1 Z.out.2.1 Z.out.2.2
  simpa using this
end Go.Proofs.YtenmbahfgfmjjaaDoor
