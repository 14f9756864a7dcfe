/- The walk of ReckonAdds. -/
import Derived.Test.YtjddfjapopdciaaEx08
import Derived.Test.YtjddfjapopdciaaNum81
namespace Go.Proofs.Ytjddfjapopdciaa
open Go.ChangeShapes Go.WideShapes Go.ChangeAt Go.RowKit
open Rk (inR)
set_option linter.unusedVariables false
set_option linter.unusedSimpArgs false

theorem sub_b (a b : Int) (w : World) (ha : inR a) (hb : inR b) (h : inR (a + b)) : Calls Try.prog 24 #[.int .i64 (a + b), .int .i64 b] w fun e w' => e = told a true ∧ w = w' := by
  have := Sub_ok (a + b) b w h hb (by rw [Int.add_sub_cancel]; exact ha)
  rwa [Int.add_sub_cancel] at this
theorem sub_a (a b : Int) (w : World) (ha : inR a) (hb : inR b) (h : inR (a + b)) : Calls Try.prog 24 #[.int .i64 (a + b), .int .i64 a] w fun e w' => e = told b true ∧ w = w' := by
  have e : a + b - a = b := by omega
  have := Sub_ok (a + b) a w h ha (by rw [e]; exact hb)
  rwa [e] at this
theorem add_neg (a : Int) (w : World) (ha : inR a) (h : inR (-a)) : Calls Try.prog 22 #[.int .i64 a, .int .i64 (-a)] w fun e w' => e = told 0 true ∧ w = w' := by
  have e : a + -a = 0 := by omega
  have := Add_ok a (-a) w ha h (by rw [e]; decide)
  rwa [e] at this
set_option maxHeartbeats 2000000 in
theorem adds_yes (a b : Int) (w : World) (ha : inR a) (hb : inR b) (h : inR (a + b)) (hn : inR (-a)) :
    Calls Try.prog 4 #[.int .i64 a, .int .i64 b] w fun e w' => e = .returned (.bool true) ∧ Below w.heap.size w w' := by
  have hq := Rk.half ha hb
  have h1 : -4611686018427387904 ≤ (a + b) / 2 ∧ (a + b) / 2 < 4611686018427387904 := by unfold inR at *; omega
  obtain ⟨h3, h4⟩ := h1
  have ha0 : ¬ a = -9223372036854775808 := by unfold inR at *; omega
  have ha1 : (a == -9223372036854775808) = false := by simpa using ha0
  have C := Lib.hid (And.intro (fun W => Add_ok a b W ha hb h) (And.intro (fun W => Neg_ok a W ha hn) (And.intro (fun W => add_neg a W ha hn) (And.intro (fun W => sub_b a b W ha hb h) (fun W => sub_a a b W ha hb h)))))
  clear ha hb h hn
  generalize (a + b) / 2 = q at *
  generalize a + b = s at *
  generalize -a = m at *
  go_enter Try.func4, Try.ntmps4
  go_wp2_with (first
    | (go_at_call 11; ((with_reducible refine (examples_any _).mono ?_); rintro e w1 ⟨rfl, b1⟩))
    | (go_at_call 22; ((with_reducible refine (C.out.1 _).mono ?_); rintro e w1 ⟨rfl, rfl⟩))
    | (go_at_call 20; ((with_reducible refine (C.out.2.1 _).mono ?_); rintro e w1 ⟨rfl, rfl⟩))
    | (go_at_call 22; ((with_reducible refine (C.out.2.2.1 _).mono ?_); rintro e w1 ⟨rfl, rfl⟩))
    | (go_at_call 24; ((with_reducible refine (C.out.2.2.2.1 _).mono ?_); rintro e w1 ⟨rfl, rfl⟩))
    | (go_at_call 24; ((with_reducible refine (C.out.2.2.2.2 _).mono ?_); rintro e w1 ⟨rfl, rfl⟩)))
  all_goals (go_ret; exact ⟨by first | rfl | (simp; done) | (simp; assumption), b1⟩)
set_option maxHeartbeats 2000000 in
theorem adds_yes_min (a b : Int) (w : World) (ha : inR a) (hb : inR b) (h : inR (a + b)) (hn : ¬ inR (-a)) :
    Calls Try.prog 4 #[.int .i64 a, .int .i64 b] w fun e w' => e = .returned (.bool true) ∧ Below w.heap.size w w' := by
  have hq := Rk.half ha hb
  have h1 : -4611686018427387904 ≤ (a + b) / 2 ∧ (a + b) / 2 < 4611686018427387904 := by unfold inR at *; omega
  obtain ⟨h3, h4⟩ := h1
  have ha1 : (a == -9223372036854775808) = true := beq_iff_eq.2 (by unfold inR at *; omega)
  have C := Lib.hid (And.intro (fun W => Add_ok a b W ha hb h) (And.intro (fun W => Neg_no a W ha hn) (And.intro (fun W => sub_b a b W ha hb h) (fun W => sub_a a b W ha hb h))))
  clear ha hb h hn
  generalize (a + b) / 2 = q at *
  generalize a + b = s at *
  go_enter Try.func4, Try.ntmps4
  go_wp2_with (first
    | (go_at_call 11; ((with_reducible refine (examples_any _).mono ?_); rintro e w1 ⟨rfl, b1⟩))
    | (go_at_call 22; ((with_reducible refine (C.out.1 _).mono ?_); rintro e w1 ⟨rfl, rfl⟩))
    | (go_at_call 20; ((with_reducible refine (C.out.2.1 _).mono ?_); rintro e w1 ⟨rfl, rfl⟩))
    | (go_at_call 24; ((with_reducible refine (C.out.2.2.1 _).mono ?_); rintro e w1 ⟨rfl, rfl⟩))
    | (go_at_call 24; ((with_reducible refine (C.out.2.2.2 _).mono ?_); rintro e w1 ⟨rfl, rfl⟩)))
  all_goals (go_ret; exact ⟨by first | rfl | (simp; done) | (simp; assumption), b1⟩)
set_option maxHeartbeats 2000000 in
theorem adds_no (a b : Int) (w : World) (ha : inR a) (hb : inR b) (h : ¬ inR (a + b)) (hn : inR (-a)) :
    Calls Try.prog 4 #[.int .i64 a, .int .i64 b] w fun e w' => e = .returned (.bool true) ∧ Below w.heap.size w w' := by
  have hq := Rk.half ha hb
  have h1 : (a + b) / 2 < -4611686018427387904 ∨ 4611686018427387904 ≤ (a + b) / 2 := by unfold inR at *; omega
  have ha0 : ¬ a = -9223372036854775808 := by unfold inR at *; omega
  have ha1 : (a == -9223372036854775808) = false := by simpa using ha0
  have C := Lib.hid (And.intro (fun W => Add_no a b W ha hb h) (And.intro (fun W => Neg_ok a W ha hn) (fun W => add_neg a W ha hn)))
  clear ha hb h hn
  generalize (a + b) / 2 = q at *
  generalize -a = m at *
  rcases h1 with h1 | h1
  all_goals
    go_enter Try.func4, Try.ntmps4
    go_wp2_with (first
      | (go_at_call 11; ((with_reducible refine (examples_any _).mono ?_); rintro e w1 ⟨rfl, b1⟩))
      | (go_at_call 22; ((with_reducible refine (C.out.1 _).mono ?_); rintro e w1 ⟨rfl, rfl⟩))
      | (go_at_call 20; ((with_reducible refine (C.out.2.1 _).mono ?_); rintro e w1 ⟨rfl, rfl⟩))
      | (go_at_call 22; ((with_reducible refine (C.out.2.2 _).mono ?_); rintro e w1 ⟨rfl, rfl⟩)))
    all_goals (go_ret; exact ⟨by first | rfl | (simp; done) | (simp; assumption), b1⟩)
set_option maxHeartbeats 2000000 in
theorem adds_no_min (a b : Int) (w : World) (ha : inR a) (hb : inR b) (h : ¬ inR (a + b)) (hn : ¬ inR (-a)) :
    Calls Try.prog 4 #[.int .i64 a, .int .i64 b] w fun e w' => e = .returned (.bool true) ∧ Below w.heap.size w w' := by
  have hq := Rk.half ha hb
  have h1 : (a + b) / 2 < -4611686018427387904 ∨ 4611686018427387904 ≤ (a + b) / 2 := by unfold inR at *; omega
  have ha1 : (a == -9223372036854775808) = true := beq_iff_eq.2 (by unfold inR at *; omega)
  have C := Lib.hid (And.intro (fun W => Add_no a b W ha hb h) (fun W => Neg_no a W ha hn))
  clear ha hb h hn
  generalize (a + b) / 2 = q at *
  rcases h1 with h1 | h1
  all_goals
    go_enter Try.func4, Try.ntmps4
    go_wp2_with (first
      | (go_at_call 11; ((with_reducible refine (examples_any _).mono ?_); rintro e w1 ⟨rfl, b1⟩))
      | (go_at_call 22; ((with_reducible refine (C.out.1 _).mono ?_); rintro e w1 ⟨rfl, rfl⟩))
      | (go_at_call 20; ((with_reducible refine (C.out.2 _).mono ?_); rintro e w1 ⟨rfl, rfl⟩)))
    all_goals (go_ret; exact ⟨by first | rfl | (simp; done) | (simp; assumption), b1⟩)
theorem walk_ReckonAdds (a b : Int) (ha : -9223372036854775808 ≤ a) (ha' : a ≤ 9223372036854775807) (hb : -9223372036854775808 ≤ b) (hb' : b ≤ 9223372036854775807) (w : World) :
    Calls Try.prog 4 #[.int .i64 a, .int .i64 b] w fun e w' => e = .returned (.bool true) ∧ Below w.heap.size w w' := by
  by_cases h : inR (a + b)
  · by_cases hn : inR (-a)
    · exact adds_yes a b w ⟨ha, ha'⟩ ⟨hb, hb'⟩ h hn
    · exact adds_yes_min a b w ⟨ha, ha'⟩ ⟨hb, hb'⟩ h hn
  · by_cases hn : inR (-a)
    · exact adds_no a b w ⟨ha, ha'⟩ ⟨hb, hb'⟩ h hn
    · exact adds_no_min a b w ⟨ha, ha'⟩ ⟨hb, hb'⟩ h hn
end Go.Proofs.Ytjddfjapopdciaa
