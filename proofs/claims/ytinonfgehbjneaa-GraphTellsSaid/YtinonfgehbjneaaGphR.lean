/- Layer 12: the node that GraphAdds adds. -/
import Derived.Test.YtinonfgehbjneaaGphP
import Derived.Test.YtinonfgehbjneaaGphQ
import Derived.Test.YtinonfgehbjneaaCells3
import Derived.Deep.RegionLaw
import Derived.Deep.DeepCutAuto
import Derived.Deep.CutBlock
namespace Go.Proofs.Ytinonfgehbjneaa
open Go.ChangeShapes Go.WideShapes Go.ChangeAt Go.RowKit Go.Maps
open Gr (Nd nmAt frAt Dist Loopy RankFull IsOrder)
set_option linter.unusedVariables false
set_option linter.unusedSimpArgs false

abbrev sU : ByteArray := ⟨#[117]⟩
def nm9 (k : Nat) : ByteArray := (nms ++ [sU]).getD k ⟨#[]⟩
theorem nm9_size (k : Nat) : (nm9 k).size ≤ maxLen := by
  unfold nm9 maxLen
  rcases Nat.lt_or_ge k 9 with h | h
  · rcases (by omega : k = 0 ∨ k = 1 ∨ k = 2 ∨ k = 3 ∨ k = 4 ∨ k = 5 ∨ k = 6 ∨ k = 7 ∨ k = 8) with rfl | rfl | rfl | rfl | rfl | rfl | rfl | rfl | rfl <;> decide
  · have : (nms ++ [sU]).getD k ⟨#[]⟩ = ⟨#[]⟩ := by simp [List.getD, List.getElem?_eq_none (show (nms ++ [sU]).length ≤ k from h)]
    rw [this]; decide
def adF (b : UInt8) : ByteArray := nm9 (b.toNat % 9)
theorem nm9_cell {w : World} {B : Nat} {A : Option Addr} {n c : Nat} (h : Own w B 9 1 scV (.slice A n c) (nms ++ [sU])) : n = 9 ∧ ∃ g, A = some ⟨g, 0, none⟩ ∧ ∀ k, k < 9 → w.cell? ⟨g, k, none⟩ = some (.string (nm9 k)) := by
  obtain ⟨_, _, e, _⟩ := h.shape
  simp only [Value.slice.injEq] at e
  obtain ⟨g', e', _, _, _, hc⟩ := h.cells (f := scV) (k := 1) (fun _ => rfl) rfl (by decide)
  refine ⟨e.2.1, g', e', fun k hk => ?_⟩
  have := hc k (show k < (nms ++ [sU]).length from hk) 0 _ rfl
  rw [Nat.mul_one, Nat.add_zero] at this
  rw [this]
  unfold nm9
  rw [List.getD_eq_getElem?_getD, List.getElem?_eq_getElem (show k < (nms ++ [sU]).length from hk)]; rfl
end Go.Proofs.Ytinonfgehbjneaa
