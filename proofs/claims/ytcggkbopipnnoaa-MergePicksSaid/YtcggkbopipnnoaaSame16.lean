/- event.Same at one event (chapter 16). -/
import Derived.Test.YtcggkbopipnnoaaInputs
import Derived.Deep.QuietTactic
namespace Go.Proofs.Ytcggkbopipnnoaa
open Go.ChangeShapes Go.WideShapes Go.ChangeAt Go.RowKit
set_option linter.unusedVariables false
set_option linter.unusedSimpArgs false

abbrev evv (x : Ev2) : Value := .agg #[.int .i64 x.1, .slice x.2.1 x.2.2.1 x.2.2.2]
set_option maxRecDepth 20000 in
theorem equal_one (x : Ev2) (w : World) (h : ValOwn w x) :
    Calls Try.prog 25 #[.slice x.2.1 x.2.2.1 x.2.2.2, .slice x.2.1 x.2.2.1 x.2.2.2] w fun e w' => e = .returned (.bool true) ∧ Below w.heap.size w w' := by
  obtain ⟨t, A, n, c⟩ := x
  obtain ⟨z, h⟩ := h
  obtain ⟨A', c', he, _, _, _⟩ := h.shape
  obtain ⟨rfl, rfl, rfl⟩ : A = A' ∧ n = 1 ∧ c = c' := by simpa [sl] using he
  obtain ⟨g, rfl, _, _, _, hc⟩ := h.cells (f := rowV) (k := 3) (fun _ => rfl) rfl (by simp)
  have c0 := hc 0 (by simp) 0 _ rfl
  have c1 := hc 0 (by simp) 1 _ rfl
  have c2 := hc 0 (by simp) 2 _ rfl
  simp only [Nat.zero_mul, Nat.zero_add] at c0 c1 c2
  clear hc he h
  go_enter Try.func25, Try.ntmps25
  go_wp2
  go_loopw [13] (fun i wr => ∃ k : Nat, k ≤ 1 ∧ i = .int .i64 k ∧ Below w.heap.size w wr) (fun i _ => 1 - (intOf i).toNat)
  case atStart => exact ⟨0, Nat.zero_le _, rfl, Below.refl _ _⟩
  case round =>
    obtain ⟨k, hk, rfl, hb⟩ := hrel
    have d0 := cell_at c0 hb
    have d1 := cell_at c1 hb
    have d2 := cell_at c2 hb
    have HK := Lib.hid hb; clear hb c0 c1 c2
    rcases (by omega : k = 0 ∨ k = 1) with rfl | rfl
    · go_wp2
      go_quiet (fail)
      go_wp2
      go_roundw
      case rel => exact ⟨1, by omega, rfl, below_drewN HK.out _⟩
      case measure => simp [intOf]
    · go_wp2
      go_ret
      exact ⟨rfl, HK.out⟩
theorem same_one (x : Ev2) (w : World) (h : ValOwn w x) :
    Calls Try.prog 19 #[evv x, evv x] w fun e w' => e = .returned (.bool true) ∧ Below w.heap.size w w' := by
  have cE := fun W (hb : Below w.heap.size w W) => equal_one x W (h.later hb)
  obtain ⟨t, A, n, c⟩ := x
  have b0 := bt (ba w (.cells #[.int .i64 t, .slice A n c] 46)) (ba _ (.cells #[.int .i64 t, .slice A n c] 46))
  have H := Lib.hid (And.intro (cE _ b0) b0); clear cE b0 h
  go_enter Try.func19, Try.ntmps19
  go_wp2_with (go_at_call 25; ((with_reducible refine (H.out.1).mono ?_); rintro e w5 ⟨rfl, b5⟩))
  go_ret
  exact ⟨rfl, bt H.out.2 b5⟩
end Go.Proofs.Ytcggkbopipnnoaa
