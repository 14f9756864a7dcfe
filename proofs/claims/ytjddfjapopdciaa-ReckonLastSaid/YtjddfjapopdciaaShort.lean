/- What is told of an operation with a truth ahead of it: for ReckonShort and ReckonKinds. -/
import Derived.Test.YtjddfjapopdciaaEx08
namespace Go.Proofs.Ytjddfjapopdciaa
open Go.ChangeShapes Go.WideShapes Go.ChangeAt Go.RowKit
open Rk (inR)
set_option linter.unusedVariables false
set_option linter.unusedSimpArgs false

abbrev bAnd : ByteArray := ⟨#[38, 38]⟩
abbrev bOr : ByteArray := ⟨#[124, 124]⟩
abbrev bDiv : ByteArray := ⟨#[47]⟩
abbrev tTrue : Tr := .lit 2 1 mt
abbrev tFalse : Tr := .lit 2 0 mt
abbrev tBad : Tr := .bin bDiv (.lit 1 1 mt) (.lit 1 0 mt)
/-- A Bool, or nothing. -/
def onlyB (r : Option V3) : Option V3 := match r with | some v => if v.1 = 2 then some v else none | none => none
theorem and_list : bAnd.toList = [38, 38] := by kernel_rfl
theorem or_list : bOr.toList = [124, 124] := by kernel_rfl
theorem ev_and (l : List Bd) (t : Tr) : evalT l (.bin bAnd tTrue t) = onlyB (evalT l t) := by
  rw [evalT, show evalT l tTrue = some (2, 1, mt) from by rw [evalT]]
  simp only [and_list]
  rw [if_neg (by decide)]
  unfold onlyB
  cases evalT l t with
  | none => rfl
  | some b =>
    simp only [binaryM, and_list]
    by_cases h : b.1 = 2
    · simp [h]
    · simp [h, Ne.symm h]
theorem ev_or (l : List Bd) (t : Tr) : evalT l (.bin bOr tFalse t) = onlyB (evalT l t) := by
  rw [evalT, show evalT l tFalse = some (2, 0, mt) from by rw [evalT]]
  simp only [or_list]
  rw [if_neg (by decide)]
  unfold onlyB
  cases evalT l t with
  | none => rfl
  | some b =>
    simp only [binaryM, or_list]
    by_cases h : b.1 = 2
    · simp [h]
    · simp [h, Ne.symm h]
theorem ev_andF (l : List Bd) (t : Tr) : evalT l (.bin bAnd tFalse t) = some (2, 0, mt) := by
  rw [evalT, show evalT l tFalse = some (2, 0, mt) from by rw [evalT]]
  simp only [and_list]
  rw [if_pos (by decide)]
theorem ev_orT (l : List Bd) (t : Tr) : evalT l (.bin bOr tTrue t) = some (2, 1, mt) := by
  rw [evalT, show evalT l tTrue = some (2, 1, mt) from by rw [evalT]]
  simp only [or_list]
  rw [if_pos (by decide)]
theorem ev_bad (l : List Bd) : evalT l tBad = none := by
  simp only [tBad, evalT]
  kernel_rfl
theorem ev_badAnd (l : List Bd) : evalT l (.bin bAnd tBad tFalse) = none := by
  rw [evalT, ev_bad]
theorem ev_numAnd (l : List Bd) : evalT l (.bin bAnd (.lit 1 0 mt) tFalse) = none := by
  simp only [evalT]
  kernel_rfl
theorem yes_F : isYes (some (2, 0, mt)) = false := by kernel_rfl
theorem yes_T : isYes (some (2, 1, mt)) = true := by kernel_rfl
theorem ok_and {x y : Tr} (hx : x.ok = true) (hy : y.ok = true) : (Tr.bin bAnd x y).ok = true := by
  unfold Tr.ok; rw [hx, hy]; kernel_rfl
theorem ok_or {x y : Tr} (hx : x.ok = true) (hy : y.ok = true) : (Tr.bin bOr x y).ok = true := by
  unfold Tr.ok; rw [hx, hy]; kernel_rfl
theorem ok_T : tTrue.ok = true := by kernel_rfl
theorem ok_F : tFalse.ok = true := by kernel_rfl
theorem ok_0 : (Tr.lit 1 0 mt).ok = true := by kernel_rfl
theorem ok_bad : tBad.ok = true := by kernel_rfl
theorem small_T : tTrue.small := by show inR 1; decide
theorem small_F : tFalse.small := by show inR 0; decide
theorem small_bad : tBad.small := ⟨by show inR 1; decide, by show inR 0; decide⟩
end Go.Proofs.Ytjddfjapopdciaa
