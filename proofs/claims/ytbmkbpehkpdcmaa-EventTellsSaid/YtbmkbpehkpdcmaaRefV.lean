/- Contracts of the document's own answer to chapter 2: Right. -/
import Derived.Test.YtbmkbpehkpdcmaaValue
import Derived.Test.YtbmkbpehkpdcmaaNum20
import Derived.BigQuiet
import Derived.Lib.Strings
import Derived.Lib.QuietBelow
namespace Go.Proofs.Ytbmkbpehkpdcmaa
open Go.ChangeShapes Go.WideShapes Go.ChangeAt Go.RowKit
open Num (zig zag)
set_option linter.unusedVariables false
set_option linter.unusedSimpArgs false

set_option maxRecDepth 20000 in
theorem rRight_1 (n : Int) (s : ByteArray) (w : World) (hz : (s.size = 0 ∧ s.toList = []) ∨ (1 ≤ s.size ∧ ¬ s.toList = [])) :
    Calls Try.prog 36 #[vv 1 n s] w fun e w' => e = .returned (.bool (decide (s.size = 0))) ∧ Below w.heap.size w w' := by
  rcases hz with ⟨hz, hl⟩ | ⟨hz, hl⟩
  · rw [decide_eq_true hz]; clear hz
    go_enter Try.func36, Try.ntmps36
    go_wp2
    all_goals
      go_ret
      refine ⟨retB ?_, (Below.refl _ _).alloc (Nat.le_refl _) _⟩
      first | rfl | (simp; done) | (simp; omega) | (simp [*]; done)
  · rw [decide_eq_false (show ¬ s.size = 0 by omega)]; clear hz
    go_enter Try.func36, Try.ntmps36
    go_wp2
    all_goals
      go_ret
      refine ⟨retB ?_, (Below.refl _ _).alloc (Nat.le_refl _) _⟩
      first | rfl | (simp; done) | (simp; omega) | (simp [*]; done)
set_option maxRecDepth 20000 in
theorem rRight_2 (n : Int) (s : ByteArray) (w : World) (hz : (s.size = 0 ∧ s.toList = []) ∨ (1 ≤ s.size ∧ ¬ s.toList = [])) :
    Calls Try.prog 36 #[vv 2 n s] w fun e w' => e = .returned (.bool (decide (s.size = 0) && (decide (n = 0) || decide (n = 1)))) ∧ Below w.heap.size w w' := by
  have hn : n = 0 ∨ n = 1 ∨ (n ≠ 0 ∧ n ≠ 1) := by omega
  rcases hz with ⟨hz, hl⟩ | ⟨hz, hl⟩
  · rw [decide_eq_true hz]; clear hz
    rcases hn with rfl | rfl | ⟨hn0, hn1⟩
    all_goals
      go_enter Try.func36, Try.ntmps36
      go_wp2
      all_goals
        go_ret
        refine ⟨retB ?_, (Below.refl _ _).alloc (Nat.le_refl _) _⟩
        first | rfl | (simp; done) | (simp; omega) | (simp [*]; done)
  · rw [decide_eq_false (show ¬ s.size = 0 by omega)]; clear hz
    rcases hn with rfl | rfl | ⟨hn0, hn1⟩
    all_goals
      go_enter Try.func36, Try.ntmps36
      go_wp2
      all_goals
        go_ret
        refine ⟨retB ?_, (Below.refl _ _).alloc (Nat.le_refl _) _⟩
        first | rfl | (simp; done) | (simp; omega) | (simp [*]; done)
set_option maxRecDepth 20000 in
theorem rRight_3 (n : Int) (s : ByteArray) (w : World) (hs : s.size ≤ 9223372036854775807) :
    Calls Try.prog 36 #[vv 3 n s] w fun e w' => e = .returned (.bool (decide (n = 0) && decide (s.size ≤ 64))) ∧ Below w.heap.size w w' := by
  have hn : n = 0 ∨ n ≠ 0 := by omega
  rcases hn with rfl | hn
  · rcases (by omega : s.size ≤ 64 ∨ 64 < s.size) with hm | hm
    · rw [decide_eq_true hm]
      go_enter Try.func36, Try.ntmps36
      go_wp2
      all_goals
        go_ret
        refine ⟨retB ?_, (Below.refl _ _).alloc (Nat.le_refl _) _⟩
        first | rfl | (simp; done) | (simp; omega) | (simp [*]; done)
    · rw [decide_eq_false (show ¬ s.size ≤ 64 by omega)]
      go_enter Try.func36, Try.ntmps36
      go_wp2
      all_goals
        go_ret
        refine ⟨retB ?_, (Below.refl _ _).alloc (Nat.le_refl _) _⟩
        first | rfl | (simp; done) | (simp; omega) | (simp [*]; done)
  · rw [decide_eq_false hn]
    go_enter Try.func36, Try.ntmps36
    go_wp2
    all_goals
      go_ret
      refine ⟨retB ?_, (Below.refl _ _).alloc (Nat.le_refl _) _⟩
      first | rfl | (simp; done) | (simp; omega) | (simp [*]; done)
set_option maxRecDepth 20000 in
theorem rRight_o (k n : Int) (s : ByteArray) (w : World) (h1 : k ≠ 1) (h2 : k ≠ 2) (h3 : k ≠ 3) :
    Calls Try.prog 36 #[vv k n s] w fun e w' => e = .returned (.bool false) ∧ Below w.heap.size w w' := by
  go_enter Try.func36, Try.ntmps36
  go_wp2
  all_goals
    go_ret
    refine ⟨retB ?_, (Below.refl _ _).alloc (Nat.le_refl _) _⟩
    first | rfl | (simp; done) | (simp; omega) | (simp [*]; done)
theorem rRight_any (k n : Int) (s : ByteArray) (w : World) (hs : s.size ≤ maxLen) :
    Calls Try.prog 36 #[vv k n s] w fun e w' => e = .returned (.bool (Val.right k n s)) ∧ Below w.heap.size w w' := by
  rcases (by omega : k = 1 ∨ k = 2 ∨ k = 3 ∨ (k ≠ 1 ∧ k ≠ 2 ∧ k ≠ 3)) with rfl | rfl | rfl | ⟨h1, h2, h3⟩
  · exact rRight_1 n s w (nil_or s)
  · exact rRight_2 n s w (nil_or s)
  · exact rRight_3 n s w (by unfold maxLen at hs; omega)
  · refine (rRight_o k n s w h1 h2 h3).mono fun _ _ ⟨he, hw⟩ => ⟨by rw [he]; unfold Val.right; rw [if_neg h1, if_neg h2, if_neg h3], hw⟩
end Go.Proofs.Ytbmkbpehkpdcmaa

