/- VariZigs: the walk. -/
import Derived.Test.YtenbolgcgfhggaaEx01
import Derived.Test.YtenbolgcgfhggaaLift
namespace Go.Proofs.Ytenbolgcgfhggaa
open Go.ChangeShapes Go.WideShapes Go.ChangeAt Go.RowKit
open Num (zig zag)
set_option linter.unusedVariables false

theorem Zig_pos (n : Int) (w : World) (h0 : 0 ≤ n) (h1 : n ≤ 9223372036854775807) : Calls Try.prog 17 #[.int .i64 n] w fun e w' => e = .returned (.int .u64 (2 * n)) ∧ w = w' :=
  (Zig_any n w (by omega) h1).mono fun _ _ ⟨he, hw⟩ => ⟨by rw [he]; unfold zig; rw [if_pos h0], hw⟩
theorem Zig_neg (n : Int) (w : World) (h0 : n < 0) (h1 : -9223372036854775808 ≤ n) : Calls Try.prog 17 #[.int .i64 n] w fun e w' => e = .returned (.int .u64 (-2 * n - 1)) ∧ w = w' :=
  (Zig_any n w h1 (by omega)).mono fun _ _ ⟨he, hw⟩ => ⟨by rw [he]; unfold zig; rw [if_neg (by omega)], hw⟩
theorem Zag_pos (n : Int) (w : World) (h0 : 0 ≤ n) (h1 : n ≤ 9223372036854775807) : Calls Try.prog 19 #[.int .u64 (2 * n)] w fun e w' => e = .returned (.int .i64 n) ∧ w = w' :=
  (Zag_any (2 * n) w (by omega) (by omega)).mono fun _ _ ⟨he, hw⟩ => ⟨by rw [he]; unfold zag; rw [if_pos (by omega)]; exact ret_int (by omega), hw⟩
theorem Zag_neg (n : Int) (w : World) (h0 : n < 0) (h1 : -9223372036854775808 ≤ n) : Calls Try.prog 19 #[.int .u64 (-2 * n - 1)] w fun e w' => e = .returned (.int .i64 n) ∧ w = w' :=
  (Zag_any (-2 * n - 1) w (by omega) (by omega)).mono fun _ _ ⟨he, hw⟩ => ⟨by rw [he]; unfold zag; rw [if_neg (by omega)]; exact ret_int (by omega), hw⟩
theorem Zig_zag (u : Int) (w : World) (h0 : 0 ≤ u) (h1 : u ≤ 18446744073709551615) : Calls Try.prog 17 #[.int .i64 (zag u)] w fun e w' => e = .returned (.int .u64 u) ∧ w = w' :=
  (Zig_any (zag u) w (Num.zag_lo u h0 h1) (Num.zag_hi u h0 h1)).mono fun _ _ ⟨he, hw⟩ => ⟨by rw [he, Num.zig_zag u h0], hw⟩

set_option maxRecDepth 20000 in
theorem walk_VariZigs (n m u : Int) (n0 : -9223372036854775808 ≤ n) (n1 : n ≤ 9223372036854775807) (m0 : -9223372036854775808 ≤ m) (m1 : m ≤ 9223372036854775807) (u0 : 0 ≤ u) (u1 : u ≤ 18446744073709551615) (w : World) :
    Calls Try.prog 4 #[.int .i64 n, .int .i64 m, .int .u64 u] w fun e w' => e = .returned (.bool true) ∧ Below w.heap.size w w' := by
  have z0 := Num.zag_lo u u0 u1
  have z1 := Num.zag_hi u u0 u1
  rcases (by omega : 0 ≤ n ∨ n < 0) with hn | hn
  · rcases (by omega : (0 ≤ m ∧ n < m) ∨ (0 ≤ m ∧ n = m) ∨ (0 ≤ m ∧ m < n) ∨ m < 0) with ⟨hm, hc⟩ | ⟨hm, rfl⟩ | ⟨hm, hc⟩ | hm
    all_goals
      first | (have hmb : decide (0 ≤ m) = false := by simp; omega) | (have hmb : decide (0 ≤ m) = true := by simp; omega) | skip
      go_enter Try.func4, Try.ntmps4
      go_wp2_with (first
        | (go_at_call 10; ((with_reducible refine (examples_any _).mono ?_); rintro e w1 ⟨rfl, b1⟩))
        | (go_at_call 17; ((with_reducible refine (Zig_pos n _ hn n1).mono ?_); rintro e w' ⟨rfl, rfl⟩))
        | (go_at_call 17; ((with_reducible refine (Zig_pos m _ hm m1).mono ?_); rintro e w' ⟨rfl, rfl⟩))
        | (go_at_call 17; ((with_reducible refine (Zig_neg m _ hm m0).mono ?_); rintro e w' ⟨rfl, rfl⟩))
        | (go_at_call 19; ((with_reducible refine (Zag_pos n _ hn n1).mono ?_); rintro e w' ⟨rfl, rfl⟩))
        | (go_at_call 19; ((with_reducible refine (Zag_any u _ u0 u1).mono ?_); rintro e w' ⟨rfl, rfl⟩))
        | (go_at_call 17; ((with_reducible refine (Zig_zag u _ u0 u1).mono ?_); rintro e w' ⟨rfl, rfl⟩)))
      go_ret
      refine ⟨ret_bool ?_, b1⟩
      first | rfl | (simp; done) | (simp; omega) | (rw [Bool.beq_eq_decide_eq, decide_eq_true_iff, Bool.eq_iff_iff]; simp; omega)
  · have hnb : decide (0 ≤ n) = false := by simp; omega
    have hno : ((-2 * n - 1) % 2 == 0) = false := by simp; omega
    rcases (by omega : (m < 0 ∧ n < m) ∨ (m < 0 ∧ n = m) ∨ (m < 0 ∧ m < n) ∨ 0 ≤ m) with ⟨hm, hc⟩ | ⟨hm, rfl⟩ | ⟨hm, hc⟩ | hm
    all_goals
      first | (have hmb : decide (0 ≤ m) = false := by simp; omega) | (have hmb : decide (0 ≤ m) = true := by simp; omega) | skip
      go_enter Try.func4, Try.ntmps4
      go_wp2_with (first
        | (go_at_call 10; ((with_reducible refine (examples_any _).mono ?_); rintro e w1 ⟨rfl, b1⟩))
        | (go_at_call 17; ((with_reducible refine (Zig_neg n _ hn n0).mono ?_); rintro e w' ⟨rfl, rfl⟩))
        | (go_at_call 17; ((with_reducible refine (Zig_pos m _ hm m1).mono ?_); rintro e w' ⟨rfl, rfl⟩))
        | (go_at_call 17; ((with_reducible refine (Zig_neg m _ hm m0).mono ?_); rintro e w' ⟨rfl, rfl⟩))
        | (go_at_call 19; ((with_reducible refine (Zag_neg n _ hn n0).mono ?_); rintro e w' ⟨rfl, rfl⟩))
        | (go_at_call 19; ((with_reducible refine (Zag_any u _ u0 u1).mono ?_); rintro e w' ⟨rfl, rfl⟩))
        | (go_at_call 17; ((with_reducible refine (Zig_zag u _ u0 u1).mono ?_); rintro e w' ⟨rfl, rfl⟩)))
      go_ret
      refine ⟨ret_bool ?_, b1⟩
      first | rfl | (simp; done) | (simp; omega) | (rw [Bool.beq_eq_decide_eq, decide_eq_true_iff, Bool.eq_iff_iff]; simp; omega)
end Go.Proofs.Ytenbolgcgfhggaa
