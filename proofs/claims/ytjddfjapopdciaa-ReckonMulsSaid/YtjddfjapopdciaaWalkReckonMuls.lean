/- The walk of ReckonMuls. -/
import Derived.Test.YtjddfjapopdciaaEx08
namespace Go.Proofs.Ytjddfjapopdciaa
open Go.ChangeShapes Go.WideShapes Go.ChangeAt Go.RowKit
open Rk (inR)
set_option linter.unusedVariables false
set_option linter.unusedSimpArgs false

theorem mul_one' (a : Int) (w : World) (ha : inR a) : Calls Try.prog 26 #[.int .i64 a, .int .i64 1] w fun e w' => e = told a true ∧ w = w' := by
  have := Mul_ok a 1 w ha (by decide) (by rw [Int.mul_one]; exact ha)
  rwa [Int.mul_one] at this
theorem mul_minus (a : Int) (w : World) (ha : inR a) (h : inR (-a)) : Calls Try.prog 26 #[.int .i64 a, .int .i64 (-1)] w fun e w' => e = told (-a) true ∧ w = w' := by
  have e : a * -1 = -a := by omega
  have := Mul_ok a (-1) w ha (by decide) (by rw [e]; exact h)
  rwa [e] at this
theorem mul_minus_no (a : Int) (w : World) (ha : inR a) (h : ¬ inR (-a)) : Calls Try.prog 26 #[.int .i64 a, .int .i64 (-1)] w fun e w' => e = told 0 false ∧ w = w' := by
  have e : a * -1 = -a := by omega
  exact Mul_no a (-1) w ha (by decide) (by rw [e]; exact h)
theorem mul_comm_ok (a b : Int) (w : World) (ha : inR a) (hb : inR b) (h : inR (a * b)) : Calls Try.prog 26 #[.int .i64 b, .int .i64 a] w fun e w' => e = told (a * b) true ∧ w = w' := by
  have := Mul_ok b a w hb ha (by rw [Int.mul_comm]; exact h)
  rwa [Int.mul_comm] at this
theorem mul_comm_no (a b : Int) (w : World) (ha : inR a) (hb : inR b) (h : ¬ inR (a * b)) : Calls Try.prog 26 #[.int .i64 b, .int .i64 a] w fun e w' => e = told 0 false ∧ w = w' :=
  Mul_no b a w hb ha (by rw [Int.mul_comm]; exact h)
/-- The absolute value that the law reckons. -/
def absL (a : Int) : Int := if a = -9223372036854775808 then 9223372036854775807 else if a < 0 then -a else a
theorem absL_quo {a b : Int} (ha : inR a) (hb : inR b) (h : ¬ inR (a * b)) : 0 < absL a ∧ 9223372036854775807 / absL a ≤ absL b := by
  have h0 : a ≠ 0 := by rintro rfl; rw [Int.zero_mul] at h; exact h (by decide)
  have h1 : b ≠ 0 := by rintro rfl; rw [Int.mul_zero] at h; exact h (by decide)
  have ea : absL a = if a = -9223372036854775808 then 9223372036854775807 else (a.natAbs : Int) := by unfold absL; split; rfl; split <;> omega
  have eb : absL b = if b = -9223372036854775808 then 9223372036854775807 else (b.natAbs : Int) := by unfold absL; split; rfl; split <;> omega
  rw [ea, eb]
  unfold inR at ha hb
  refine ⟨by split <;> omega, ?_⟩
  by_cases qa : a = -9223372036854775808
  · rw [if_pos qa]; split <;> omega
  rw [if_neg qa]
  by_cases qb : b = -9223372036854775808
  · rw [if_pos qb]; exact Int.ediv_le_self _ (by decide)
  rw [if_neg qb]
  have h2 : 9223372036854775807 < (a.natAbs : Int) * (b.natAbs : Int) := by
    have h3 : ((a.natAbs * b.natAbs : Nat) : Int) = (a.natAbs : Int) * (b.natAbs : Int) := by simp
    rw [← h3, ← Int.natAbs_mul]
    unfold inR at h; omega
  have h4 : 9223372036854775807 / (a.natAbs : Int) < (b.natAbs : Int) + 1 := by
    rw [Int.ediv_lt_iff_lt_mul (by omega)]
    rw [Int.add_mul, Int.mul_comm (b.natAbs : Int)]
    omega
  omega
theorem fin_neg {a y : Int} (h1 : a < 0) (ha : inR a) (q : 9223372036854775807 / -a ≤ y) : wrap64 (-Int.tdiv 9223372036854775807 a) ≤ y := by
  rw [show -Int.tdiv 9223372036854775807 a = 9223372036854775807 / -a by rw [← Int.tdiv_neg]; exact Int.tdiv_eq_ediv_of_nonneg (by decide)]
  have h2 : 0 ≤ 9223372036854775807 / -a := Int.ediv_nonneg (by decide) (by omega)
  have h3 : 9223372036854775807 / -a ≤ 9223372036854775807 := Int.ediv_le_self _ (by decide)
  rw [Rk.wrap_in (by unfold inR; omega)]; exact q
theorem fin_pos {a y : Int} (h1 : 0 < a) (q : 9223372036854775807 / a ≤ y) : wrap64 (Int.tdiv 9223372036854775807 a) ≤ y := by
  rw [Int.tdiv_eq_ediv_of_nonneg (by decide)]
  have h2 : 0 ≤ 9223372036854775807 / a := Int.ediv_nonneg (by decide) (by omega)
  have h3 : 9223372036854775807 / a ≤ 9223372036854775807 := Int.ediv_le_self _ (by decide)
  rw [Rk.wrap_in (by unfold inR; omega)]; exact q
set_option maxRecDepth 20000 in
set_option maxHeartbeats 4000000 in
theorem muls_no_min_min  (w : World) (ha : inR (-9223372036854775808)) (hb : inR (-9223372036854775808)) (h : ¬ inR ((-9223372036854775808) * (-9223372036854775808))) :
    Calls Try.prog 5 #[.int .i64 (-9223372036854775808), .int .i64 (-9223372036854775808)] w fun e w' => e = .returned (.bool true) ∧ Below w.heap.size w w' := by
  have hq := absL_quo ha hb h
  rw [show absL (-9223372036854775808) = 9223372036854775807 from rfl] at hq
  have hn : ¬ inR (-(-9223372036854775808)) := by decide
  have C := Lib.hid (And.intro (fun W => Mul_no (-9223372036854775808) (-9223372036854775808) W ha hb h) (And.intro (fun W => mul_comm_no (-9223372036854775808) (-9223372036854775808) W ha hb h) (And.intro (fun W => mul_one' (-9223372036854775808) W ha) (And.intro (fun W => mul_minus_no (-9223372036854775808) W ha hn) (fun W => Neg_no (-9223372036854775808) W ha hn)))))
  have Ha := Lib.hid ha
  have Q := Lib.hid hq
  clear hq
  clear h ha hb hn
  go_enter Try.func5, Try.ntmps5
  go_wp2_with (first
    | (go_at_call 11; ((with_reducible refine (examples_any _).mono ?_); rintro e w1 ⟨rfl, b1⟩; have B := Lib.hid b1; clear b1))
    | (go_at_call 26; ((with_reducible refine (C.out.1 _).mono ?_); rintro e w1 ⟨rfl, rfl⟩))
    | (go_at_call 26; ((with_reducible refine (C.out.2.1 _).mono ?_); rintro e w1 ⟨rfl, rfl⟩))
    | (go_at_call 26; ((with_reducible refine (C.out.2.2.1 _).mono ?_); rintro e w1 ⟨rfl, rfl⟩))
    | (go_at_call 26; ((with_reducible refine (C.out.2.2.2.1 _).mono ?_); rintro e w1 ⟨rfl, rfl⟩))
    | (go_at_call 20; ((with_reducible refine (C.out.2.2.2.2 _).mono ?_); rintro e w1 ⟨rfl, rfl⟩)))
  all_goals (go_ret; exact ⟨by first | rfl | (simp; done) | (simp; first | exact Q.out.2 | exact Q.out.2 | (have := Q.out.2; omega)), B.out⟩)
set_option maxRecDepth 20000 in
set_option maxHeartbeats 4000000 in
theorem muls_no_min_neg (b : Int) (w : World) (ha : inR (-9223372036854775808)) (hb : inR b) (h : ¬ inR ((-9223372036854775808) * b)) (h2 : b < 0) (h3 : b ≠ -9223372036854775808) :
    Calls Try.prog 5 #[.int .i64 (-9223372036854775808), .int .i64 b] w fun e w' => e = .returned (.bool true) ∧ Below w.heap.size w w' := by
  have hq := absL_quo ha hb h
  rw [show absL (-9223372036854775808) = 9223372036854775807 from rfl, show absL b = -b by unfold absL; rw [if_neg h3, if_pos h2]] at hq
  have hn : ¬ inR (-(-9223372036854775808)) := by decide
  have C := Lib.hid (And.intro (fun W => Mul_no (-9223372036854775808) b W ha hb h) (And.intro (fun W => mul_comm_no (-9223372036854775808) b W ha hb h) (And.intro (fun W => mul_one' (-9223372036854775808) W ha) (And.intro (fun W => mul_minus_no (-9223372036854775808) W ha hn) (fun W => Neg_no (-9223372036854775808) W ha hn)))))
  have b0 : ¬ b = 0 := by omega
  have b1 : (b == 0) = false := beq_eq_false_iff_ne.2 b0
  have b2 : (b == -9223372036854775808) = false := beq_eq_false_iff_ne.2 h3
  have Ha := Lib.hid ha
  have Q := Lib.hid hq
  clear hq
  have kb := hb
  unfold inR at kb
  obtain ⟨l3, l4⟩ := kb
  clear h ha hb hn
  go_enter Try.func5, Try.ntmps5
  go_wp2_with (first
    | (go_at_call 11; ((with_reducible refine (examples_any _).mono ?_); rintro e w1 ⟨rfl, b1⟩; have B := Lib.hid b1; clear b1))
    | (go_at_call 26; ((with_reducible refine (C.out.1 _).mono ?_); rintro e w1 ⟨rfl, rfl⟩))
    | (go_at_call 26; ((with_reducible refine (C.out.2.1 _).mono ?_); rintro e w1 ⟨rfl, rfl⟩))
    | (go_at_call 26; ((with_reducible refine (C.out.2.2.1 _).mono ?_); rintro e w1 ⟨rfl, rfl⟩))
    | (go_at_call 26; ((with_reducible refine (C.out.2.2.2.1 _).mono ?_); rintro e w1 ⟨rfl, rfl⟩))
    | (go_at_call 20; ((with_reducible refine (C.out.2.2.2.2 _).mono ?_); rintro e w1 ⟨rfl, rfl⟩)))
  all_goals (go_ret; exact ⟨by first | rfl | (simp; done) | (simp; first | exact Q.out.2 | exact Q.out.2 | (have := Q.out.2; omega)), B.out⟩)
set_option maxRecDepth 20000 in
set_option maxHeartbeats 4000000 in
theorem muls_no_min_pos (b : Int) (w : World) (ha : inR (-9223372036854775808)) (hb : inR b) (h : ¬ inR ((-9223372036854775808) * b)) (h2 : 0 < b) (h3 : b ≠ -9223372036854775808) :
    Calls Try.prog 5 #[.int .i64 (-9223372036854775808), .int .i64 b] w fun e w' => e = .returned (.bool true) ∧ Below w.heap.size w w' := by
  have hq := absL_quo ha hb h
  rw [show absL (-9223372036854775808) = 9223372036854775807 from rfl, show absL b = b by unfold absL; rw [if_neg h3, if_neg (by omega)]] at hq
  have hn : ¬ inR (-(-9223372036854775808)) := by decide
  have C := Lib.hid (And.intro (fun W => Mul_no (-9223372036854775808) b W ha hb h) (And.intro (fun W => mul_comm_no (-9223372036854775808) b W ha hb h) (And.intro (fun W => mul_one' (-9223372036854775808) W ha) (And.intro (fun W => mul_minus_no (-9223372036854775808) W ha hn) (fun W => Neg_no (-9223372036854775808) W ha hn)))))
  have b0 : ¬ b = 0 := by omega
  have b1 : (b == 0) = false := beq_eq_false_iff_ne.2 b0
  have b2 : (b == -9223372036854775808) = false := beq_eq_false_iff_ne.2 h3
  have b3 : ¬ b < 0 := by omega
  have Ha := Lib.hid ha
  have Q := Lib.hid hq
  clear hq
  have kb := hb
  unfold inR at kb
  obtain ⟨l3, l4⟩ := kb
  clear h ha hb hn
  go_enter Try.func5, Try.ntmps5
  go_wp2_with (first
    | (go_at_call 11; ((with_reducible refine (examples_any _).mono ?_); rintro e w1 ⟨rfl, b1⟩; have B := Lib.hid b1; clear b1))
    | (go_at_call 26; ((with_reducible refine (C.out.1 _).mono ?_); rintro e w1 ⟨rfl, rfl⟩))
    | (go_at_call 26; ((with_reducible refine (C.out.2.1 _).mono ?_); rintro e w1 ⟨rfl, rfl⟩))
    | (go_at_call 26; ((with_reducible refine (C.out.2.2.1 _).mono ?_); rintro e w1 ⟨rfl, rfl⟩))
    | (go_at_call 26; ((with_reducible refine (C.out.2.2.2.1 _).mono ?_); rintro e w1 ⟨rfl, rfl⟩))
    | (go_at_call 20; ((with_reducible refine (C.out.2.2.2.2 _).mono ?_); rintro e w1 ⟨rfl, rfl⟩)))
  all_goals (go_ret; exact ⟨by first | rfl | (simp; done) | (simp; first | exact Q.out.2 | exact Q.out.2 | (have := Q.out.2; omega)), B.out⟩)
set_option maxRecDepth 20000 in
set_option maxHeartbeats 4000000 in
theorem muls_no_neg_min (a : Int) (w : World) (ha : inR a) (hb : inR (-9223372036854775808)) (h : ¬ inR (a * (-9223372036854775808))) (h1 : a < 0) (h4 : a ≠ -9223372036854775808) :
    Calls Try.prog 5 #[.int .i64 a, .int .i64 (-9223372036854775808)] w fun e w' => e = .returned (.bool true) ∧ Below w.heap.size w w' := by
  have hq := absL_quo ha hb h
  rw [show absL a = -a by unfold absL; rw [if_neg h4, if_pos h1], show absL (-9223372036854775808) = 9223372036854775807 from rfl] at hq
  have hn : inR (-a) := by unfold inR at *; omega
  have C := Lib.hid (And.intro (fun W => Mul_no a (-9223372036854775808) W ha hb h) (And.intro (fun W => mul_comm_no a (-9223372036854775808) W ha hb h) (And.intro (fun W => mul_one' a W ha) (And.intro (fun W => mul_minus a W ha hn) (fun W => Neg_ok a W ha hn)))))
  have a0 : ¬ a = 0 := by omega
  have a1 : (a == 0) = false := beq_eq_false_iff_ne.2 a0
  have a2 : (a == -9223372036854775808) = false := beq_eq_false_iff_ne.2 h4
  have Ha := Lib.hid ha
  have Q := Lib.hid hq
  clear hq
  have ka := ha
  unfold inR at ka
  obtain ⟨l1, l2⟩ := ka
  clear h ha hb hn
  go_enter Try.func5, Try.ntmps5
  go_wp2_with (first
    | (go_at_call 11; ((with_reducible refine (examples_any _).mono ?_); rintro e w1 ⟨rfl, b1⟩; have B := Lib.hid b1; clear b1))
    | (go_at_call 26; ((with_reducible refine (C.out.1 _).mono ?_); rintro e w1 ⟨rfl, rfl⟩))
    | (go_at_call 26; ((with_reducible refine (C.out.2.1 _).mono ?_); rintro e w1 ⟨rfl, rfl⟩))
    | (go_at_call 26; ((with_reducible refine (C.out.2.2.1 _).mono ?_); rintro e w1 ⟨rfl, rfl⟩))
    | (go_at_call 26; ((with_reducible refine (C.out.2.2.2.1 _).mono ?_); rintro e w1 ⟨rfl, rfl⟩))
    | (go_at_call 20; ((with_reducible refine (C.out.2.2.2.2 _).mono ?_); rintro e w1 ⟨rfl, rfl⟩)))
  all_goals (go_ret; exact ⟨by first | rfl | (simp; done) | (simp; first | exact Q.out.2 | exact fin_neg h1 Ha.out Q.out.2 | (have := Q.out.2; omega)), B.out⟩)
set_option maxRecDepth 20000 in
set_option maxHeartbeats 4000000 in
theorem muls_no_neg_neg (a b : Int) (w : World) (ha : inR a) (hb : inR b) (h : ¬ inR (a * b)) (h1 : a < 0) (h4 : a ≠ -9223372036854775808) (h2 : b < 0) (h3 : b ≠ -9223372036854775808) :
    Calls Try.prog 5 #[.int .i64 a, .int .i64 b] w fun e w' => e = .returned (.bool true) ∧ Below w.heap.size w w' := by
  have hq := absL_quo ha hb h
  rw [show absL a = -a by unfold absL; rw [if_neg h4, if_pos h1], show absL b = -b by unfold absL; rw [if_neg h3, if_pos h2]] at hq
  have hn : inR (-a) := by unfold inR at *; omega
  have C := Lib.hid (And.intro (fun W => Mul_no a b W ha hb h) (And.intro (fun W => mul_comm_no a b W ha hb h) (And.intro (fun W => mul_one' a W ha) (And.intro (fun W => mul_minus a W ha hn) (fun W => Neg_ok a W ha hn)))))
  have a0 : ¬ a = 0 := by omega
  have a1 : (a == 0) = false := beq_eq_false_iff_ne.2 a0
  have a2 : (a == -9223372036854775808) = false := beq_eq_false_iff_ne.2 h4
  have b0 : ¬ b = 0 := by omega
  have b1 : (b == 0) = false := beq_eq_false_iff_ne.2 b0
  have b2 : (b == -9223372036854775808) = false := beq_eq_false_iff_ne.2 h3
  have Ha := Lib.hid ha
  have Q := Lib.hid hq
  clear hq
  have ka := ha
  unfold inR at ka
  obtain ⟨l1, l2⟩ := ka
  have kb := hb
  unfold inR at kb
  obtain ⟨l3, l4⟩ := kb
  clear h ha hb hn
  go_enter Try.func5, Try.ntmps5
  go_wp2_with (first
    | (go_at_call 11; ((with_reducible refine (examples_any _).mono ?_); rintro e w1 ⟨rfl, b1⟩; have B := Lib.hid b1; clear b1))
    | (go_at_call 26; ((with_reducible refine (C.out.1 _).mono ?_); rintro e w1 ⟨rfl, rfl⟩))
    | (go_at_call 26; ((with_reducible refine (C.out.2.1 _).mono ?_); rintro e w1 ⟨rfl, rfl⟩))
    | (go_at_call 26; ((with_reducible refine (C.out.2.2.1 _).mono ?_); rintro e w1 ⟨rfl, rfl⟩))
    | (go_at_call 26; ((with_reducible refine (C.out.2.2.2.1 _).mono ?_); rintro e w1 ⟨rfl, rfl⟩))
    | (go_at_call 20; ((with_reducible refine (C.out.2.2.2.2 _).mono ?_); rintro e w1 ⟨rfl, rfl⟩)))
  all_goals (go_ret; exact ⟨by first | rfl | (simp; done) | (simp; first | exact Q.out.2 | exact fin_neg h1 Ha.out Q.out.2 | (have := Q.out.2; omega)), B.out⟩)
set_option maxRecDepth 20000 in
set_option maxHeartbeats 4000000 in
theorem muls_no_neg_pos (a b : Int) (w : World) (ha : inR a) (hb : inR b) (h : ¬ inR (a * b)) (h1 : a < 0) (h4 : a ≠ -9223372036854775808) (h2 : 0 < b) (h3 : b ≠ -9223372036854775808) :
    Calls Try.prog 5 #[.int .i64 a, .int .i64 b] w fun e w' => e = .returned (.bool true) ∧ Below w.heap.size w w' := by
  have hq := absL_quo ha hb h
  rw [show absL a = -a by unfold absL; rw [if_neg h4, if_pos h1], show absL b = b by unfold absL; rw [if_neg h3, if_neg (by omega)]] at hq
  have hn : inR (-a) := by unfold inR at *; omega
  have C := Lib.hid (And.intro (fun W => Mul_no a b W ha hb h) (And.intro (fun W => mul_comm_no a b W ha hb h) (And.intro (fun W => mul_one' a W ha) (And.intro (fun W => mul_minus a W ha hn) (fun W => Neg_ok a W ha hn)))))
  have a0 : ¬ a = 0 := by omega
  have a1 : (a == 0) = false := beq_eq_false_iff_ne.2 a0
  have a2 : (a == -9223372036854775808) = false := beq_eq_false_iff_ne.2 h4
  have b0 : ¬ b = 0 := by omega
  have b1 : (b == 0) = false := beq_eq_false_iff_ne.2 b0
  have b2 : (b == -9223372036854775808) = false := beq_eq_false_iff_ne.2 h3
  have b3 : ¬ b < 0 := by omega
  have Ha := Lib.hid ha
  have Q := Lib.hid hq
  clear hq
  have ka := ha
  unfold inR at ka
  obtain ⟨l1, l2⟩ := ka
  have kb := hb
  unfold inR at kb
  obtain ⟨l3, l4⟩ := kb
  clear h ha hb hn
  go_enter Try.func5, Try.ntmps5
  go_wp2_with (first
    | (go_at_call 11; ((with_reducible refine (examples_any _).mono ?_); rintro e w1 ⟨rfl, b1⟩; have B := Lib.hid b1; clear b1))
    | (go_at_call 26; ((with_reducible refine (C.out.1 _).mono ?_); rintro e w1 ⟨rfl, rfl⟩))
    | (go_at_call 26; ((with_reducible refine (C.out.2.1 _).mono ?_); rintro e w1 ⟨rfl, rfl⟩))
    | (go_at_call 26; ((with_reducible refine (C.out.2.2.1 _).mono ?_); rintro e w1 ⟨rfl, rfl⟩))
    | (go_at_call 26; ((with_reducible refine (C.out.2.2.2.1 _).mono ?_); rintro e w1 ⟨rfl, rfl⟩))
    | (go_at_call 20; ((with_reducible refine (C.out.2.2.2.2 _).mono ?_); rintro e w1 ⟨rfl, rfl⟩)))
  all_goals (go_ret; exact ⟨by first | rfl | (simp; done) | (simp; first | exact Q.out.2 | exact fin_neg h1 Ha.out Q.out.2 | (have := Q.out.2; omega)), B.out⟩)
set_option maxRecDepth 20000 in
set_option maxHeartbeats 4000000 in
theorem muls_no_pos_min (a : Int) (w : World) (ha : inR a) (hb : inR (-9223372036854775808)) (h : ¬ inR (a * (-9223372036854775808))) (h1 : 0 < a) (h4 : a ≠ -9223372036854775808) :
    Calls Try.prog 5 #[.int .i64 a, .int .i64 (-9223372036854775808)] w fun e w' => e = .returned (.bool true) ∧ Below w.heap.size w w' := by
  have hq := absL_quo ha hb h
  rw [show absL a = a by unfold absL; rw [if_neg h4, if_neg (by omega)], show absL (-9223372036854775808) = 9223372036854775807 from rfl] at hq
  have hn : inR (-a) := by unfold inR at *; omega
  have C := Lib.hid (And.intro (fun W => Mul_no a (-9223372036854775808) W ha hb h) (And.intro (fun W => mul_comm_no a (-9223372036854775808) W ha hb h) (And.intro (fun W => mul_one' a W ha) (And.intro (fun W => mul_minus a W ha hn) (fun W => Neg_ok a W ha hn)))))
  have a0 : ¬ a = 0 := by omega
  have a1 : (a == 0) = false := beq_eq_false_iff_ne.2 a0
  have a2 : (a == -9223372036854775808) = false := beq_eq_false_iff_ne.2 h4
  have a3 : ¬ a < 0 := by omega
  have Ha := Lib.hid ha
  have Q := Lib.hid hq
  clear hq
  have ka := ha
  unfold inR at ka
  obtain ⟨l1, l2⟩ := ka
  clear h ha hb hn
  go_enter Try.func5, Try.ntmps5
  go_wp2_with (first
    | (go_at_call 11; ((with_reducible refine (examples_any _).mono ?_); rintro e w1 ⟨rfl, b1⟩; have B := Lib.hid b1; clear b1))
    | (go_at_call 26; ((with_reducible refine (C.out.1 _).mono ?_); rintro e w1 ⟨rfl, rfl⟩))
    | (go_at_call 26; ((with_reducible refine (C.out.2.1 _).mono ?_); rintro e w1 ⟨rfl, rfl⟩))
    | (go_at_call 26; ((with_reducible refine (C.out.2.2.1 _).mono ?_); rintro e w1 ⟨rfl, rfl⟩))
    | (go_at_call 26; ((with_reducible refine (C.out.2.2.2.1 _).mono ?_); rintro e w1 ⟨rfl, rfl⟩))
    | (go_at_call 20; ((with_reducible refine (C.out.2.2.2.2 _).mono ?_); rintro e w1 ⟨rfl, rfl⟩)))
  all_goals (go_ret; exact ⟨by first | rfl | (simp; done) | (simp; first | exact Q.out.2 | exact fin_pos h1 Q.out.2 | (have := Q.out.2; omega)), B.out⟩)
set_option maxRecDepth 20000 in
set_option maxHeartbeats 4000000 in
theorem muls_no_pos_neg (a b : Int) (w : World) (ha : inR a) (hb : inR b) (h : ¬ inR (a * b)) (h1 : 0 < a) (h4 : a ≠ -9223372036854775808) (h2 : b < 0) (h3 : b ≠ -9223372036854775808) :
    Calls Try.prog 5 #[.int .i64 a, .int .i64 b] w fun e w' => e = .returned (.bool true) ∧ Below w.heap.size w w' := by
  have hq := absL_quo ha hb h
  rw [show absL a = a by unfold absL; rw [if_neg h4, if_neg (by omega)], show absL b = -b by unfold absL; rw [if_neg h3, if_pos h2]] at hq
  have hn : inR (-a) := by unfold inR at *; omega
  have C := Lib.hid (And.intro (fun W => Mul_no a b W ha hb h) (And.intro (fun W => mul_comm_no a b W ha hb h) (And.intro (fun W => mul_one' a W ha) (And.intro (fun W => mul_minus a W ha hn) (fun W => Neg_ok a W ha hn)))))
  have a0 : ¬ a = 0 := by omega
  have a1 : (a == 0) = false := beq_eq_false_iff_ne.2 a0
  have a2 : (a == -9223372036854775808) = false := beq_eq_false_iff_ne.2 h4
  have a3 : ¬ a < 0 := by omega
  have b0 : ¬ b = 0 := by omega
  have b1 : (b == 0) = false := beq_eq_false_iff_ne.2 b0
  have b2 : (b == -9223372036854775808) = false := beq_eq_false_iff_ne.2 h3
  have Ha := Lib.hid ha
  have Q := Lib.hid hq
  clear hq
  have ka := ha
  unfold inR at ka
  obtain ⟨l1, l2⟩ := ka
  have kb := hb
  unfold inR at kb
  obtain ⟨l3, l4⟩ := kb
  clear h ha hb hn
  go_enter Try.func5, Try.ntmps5
  go_wp2_with (first
    | (go_at_call 11; ((with_reducible refine (examples_any _).mono ?_); rintro e w1 ⟨rfl, b1⟩; have B := Lib.hid b1; clear b1))
    | (go_at_call 26; ((with_reducible refine (C.out.1 _).mono ?_); rintro e w1 ⟨rfl, rfl⟩))
    | (go_at_call 26; ((with_reducible refine (C.out.2.1 _).mono ?_); rintro e w1 ⟨rfl, rfl⟩))
    | (go_at_call 26; ((with_reducible refine (C.out.2.2.1 _).mono ?_); rintro e w1 ⟨rfl, rfl⟩))
    | (go_at_call 26; ((with_reducible refine (C.out.2.2.2.1 _).mono ?_); rintro e w1 ⟨rfl, rfl⟩))
    | (go_at_call 20; ((with_reducible refine (C.out.2.2.2.2 _).mono ?_); rintro e w1 ⟨rfl, rfl⟩)))
  all_goals (go_ret; exact ⟨by first | rfl | (simp; done) | (simp; first | exact Q.out.2 | exact fin_pos h1 Q.out.2 | (have := Q.out.2; omega)), B.out⟩)
set_option maxRecDepth 20000 in
set_option maxHeartbeats 4000000 in
theorem muls_no_pos_pos (a b : Int) (w : World) (ha : inR a) (hb : inR b) (h : ¬ inR (a * b)) (h1 : 0 < a) (h4 : a ≠ -9223372036854775808) (h2 : 0 < b) (h3 : b ≠ -9223372036854775808) :
    Calls Try.prog 5 #[.int .i64 a, .int .i64 b] w fun e w' => e = .returned (.bool true) ∧ Below w.heap.size w w' := by
  have hq := absL_quo ha hb h
  rw [show absL a = a by unfold absL; rw [if_neg h4, if_neg (by omega)], show absL b = b by unfold absL; rw [if_neg h3, if_neg (by omega)]] at hq
  have hn : inR (-a) := by unfold inR at *; omega
  have C := Lib.hid (And.intro (fun W => Mul_no a b W ha hb h) (And.intro (fun W => mul_comm_no a b W ha hb h) (And.intro (fun W => mul_one' a W ha) (And.intro (fun W => mul_minus a W ha hn) (fun W => Neg_ok a W ha hn)))))
  have a0 : ¬ a = 0 := by omega
  have a1 : (a == 0) = false := beq_eq_false_iff_ne.2 a0
  have a2 : (a == -9223372036854775808) = false := beq_eq_false_iff_ne.2 h4
  have a3 : ¬ a < 0 := by omega
  have b0 : ¬ b = 0 := by omega
  have b1 : (b == 0) = false := beq_eq_false_iff_ne.2 b0
  have b2 : (b == -9223372036854775808) = false := beq_eq_false_iff_ne.2 h3
  have b3 : ¬ b < 0 := by omega
  have Ha := Lib.hid ha
  have Q := Lib.hid hq
  clear hq
  have ka := ha
  unfold inR at ka
  obtain ⟨l1, l2⟩ := ka
  have kb := hb
  unfold inR at kb
  obtain ⟨l3, l4⟩ := kb
  clear h ha hb hn
  go_enter Try.func5, Try.ntmps5
  go_wp2_with (first
    | (go_at_call 11; ((with_reducible refine (examples_any _).mono ?_); rintro e w1 ⟨rfl, b1⟩; have B := Lib.hid b1; clear b1))
    | (go_at_call 26; ((with_reducible refine (C.out.1 _).mono ?_); rintro e w1 ⟨rfl, rfl⟩))
    | (go_at_call 26; ((with_reducible refine (C.out.2.1 _).mono ?_); rintro e w1 ⟨rfl, rfl⟩))
    | (go_at_call 26; ((with_reducible refine (C.out.2.2.1 _).mono ?_); rintro e w1 ⟨rfl, rfl⟩))
    | (go_at_call 26; ((with_reducible refine (C.out.2.2.2.1 _).mono ?_); rintro e w1 ⟨rfl, rfl⟩))
    | (go_at_call 20; ((with_reducible refine (C.out.2.2.2.2 _).mono ?_); rintro e w1 ⟨rfl, rfl⟩)))
  all_goals (go_ret; exact ⟨by first | rfl | (simp; done) | (simp; first | exact Q.out.2 | exact fin_pos h1 Q.out.2 | (have := Q.out.2; omega)), B.out⟩)
theorem div_back (a b : Int) (w : World) (ha : inR a) (hb : inR b) (h : inR (a * b)) (h0 : b ≠ 0) : Calls Try.prog 28 #[.int .i64 (a * b), .int .i64 b] w fun e w' => e = told a true ∧ w = w' := by
  have e : (a * b).tdiv b = a := Int.mul_tdiv_cancel _ h0
  have := Div_ok (a * b) b w h hb h0 (by rintro ⟨h1, rfl⟩; unfold inR at ha; omega) (by rw [e]; exact ha)
  rwa [e] at this
theorem rem_back (a b : Int) (w : World) (h0 : b ≠ 0) : Calls Try.prog 30 #[.int .i64 (a * b), .int .i64 b] w fun e w' => e = told 0 true ∧ w = w' := by
  have := Rem_ok (a * b) b w h0
  rwa [Int.mul_tmod_left] at this
theorem mul_zero' (a : Int) (w : World) (ha : inR a) : Calls Try.prog 26 #[.int .i64 a, .int .i64 0] w fun e w' => e = told 0 true ∧ w = w' := by
  have := Mul_ok a 0 w ha (by decide) (by rw [Int.mul_zero]; decide)
  rwa [Int.mul_zero] at this
theorem zero_mul' (a : Int) (w : World) (ha : inR a) : Calls Try.prog 26 #[.int .i64 0, .int .i64 a] w fun e w' => e = told 0 true ∧ w = w' := by
  have := Mul_ok 0 a w (by decide) ha (by rw [Int.zero_mul]; decide)
  rwa [Int.zero_mul] at this
set_option maxRecDepth 20000 in
set_option maxHeartbeats 4000000 in
theorem muls_zero_a (b : Int) (w : World) (hb : inR b) :
    Calls Try.prog 5 #[.int .i64 0, .int .i64 b] w fun e w' => e = .returned (.bool true) ∧ Below w.heap.size w w' := by
  have C := Lib.hid (And.intro (fun W => zero_mul' b W hb) (And.intro (fun W => mul_zero' b W hb) (And.intro (fun W => zero_mul' 1 W (by decide)) (And.intro (fun W => zero_mul' (-1) W (by decide)) (fun W => Neg_ok 0 W (by decide) (by decide))))))
  clear hb
  go_enter Try.func5, Try.ntmps5
  go_wp2_with (first
    | (go_at_call 11; ((with_reducible refine (examples_any _).mono ?_); rintro e w1 ⟨rfl, b1⟩; have B := Lib.hid b1; clear b1))
    | (go_at_call 26; ((with_reducible refine (C.out.1 _).mono ?_); rintro e w1 ⟨rfl, rfl⟩))
    | (go_at_call 26; ((with_reducible refine (C.out.2.1 _).mono ?_); rintro e w1 ⟨rfl, rfl⟩))
    | (go_at_call 26; ((with_reducible refine (C.out.2.2.1 _).mono ?_); rintro e w1 ⟨rfl, rfl⟩))
    | (go_at_call 26; ((with_reducible refine (C.out.2.2.2.1 _).mono ?_); rintro e w1 ⟨rfl, rfl⟩))
    | (go_at_call 20; ((with_reducible refine (C.out.2.2.2.2 _).mono ?_); rintro e w1 ⟨rfl, rfl⟩)))
  all_goals (go_ret; exact ⟨by first | rfl | (simp; done) | (simp; first | assumption | omega), B.out⟩)
set_option maxRecDepth 20000 in
set_option maxHeartbeats 4000000 in
theorem muls_zero_by (a : Int) (w : World) (ha : inR a) (hn :  inR (-a)) :
    Calls Try.prog 5 #[.int .i64 a, .int .i64 0] w fun e w' => e = .returned (.bool true) ∧ Below w.heap.size w w' := by
  have C := Lib.hid (And.intro (fun W => mul_zero' a W ha) (And.intro (fun W => zero_mul' a W ha) (And.intro (fun W => mul_one' a W ha) (And.intro (fun W => mul_minus a W ha hn) (fun W => Neg_ok a W ha hn)))))
  clear ha hn
  generalize -a = m at *
  go_enter Try.func5, Try.ntmps5
  go_wp2_with (first
    | (go_at_call 11; ((with_reducible refine (examples_any _).mono ?_); rintro e w1 ⟨rfl, b1⟩; have B := Lib.hid b1; clear b1))
    | (go_at_call 26; ((with_reducible refine (C.out.1 _).mono ?_); rintro e w1 ⟨rfl, rfl⟩))
    | (go_at_call 26; ((with_reducible refine (C.out.2.1 _).mono ?_); rintro e w1 ⟨rfl, rfl⟩))
    | (go_at_call 26; ((with_reducible refine (C.out.2.2.1 _).mono ?_); rintro e w1 ⟨rfl, rfl⟩))
    | (go_at_call 26; ((with_reducible refine (C.out.2.2.2.1 _).mono ?_); rintro e w1 ⟨rfl, rfl⟩))
    | (go_at_call 20; ((with_reducible refine (C.out.2.2.2.2 _).mono ?_); rintro e w1 ⟨rfl, rfl⟩)))
  all_goals (go_ret; exact ⟨by first | rfl | (simp; done) | (simp; first | assumption | omega), B.out⟩)
set_option maxRecDepth 20000 in
set_option maxHeartbeats 4000000 in
theorem muls_zero_bn (a : Int) (w : World) (ha : inR a) (hn : ¬ inR (-a)) :
    Calls Try.prog 5 #[.int .i64 a, .int .i64 0] w fun e w' => e = .returned (.bool true) ∧ Below w.heap.size w w' := by
  have C := Lib.hid (And.intro (fun W => mul_zero' a W ha) (And.intro (fun W => zero_mul' a W ha) (And.intro (fun W => mul_one' a W ha) (And.intro (fun W => mul_minus_no a W ha hn) (fun W => Neg_no a W ha hn)))))
  clear ha hn
  go_enter Try.func5, Try.ntmps5
  go_wp2_with (first
    | (go_at_call 11; ((with_reducible refine (examples_any _).mono ?_); rintro e w1 ⟨rfl, b1⟩; have B := Lib.hid b1; clear b1))
    | (go_at_call 26; ((with_reducible refine (C.out.1 _).mono ?_); rintro e w1 ⟨rfl, rfl⟩))
    | (go_at_call 26; ((with_reducible refine (C.out.2.1 _).mono ?_); rintro e w1 ⟨rfl, rfl⟩))
    | (go_at_call 26; ((with_reducible refine (C.out.2.2.1 _).mono ?_); rintro e w1 ⟨rfl, rfl⟩))
    | (go_at_call 26; ((with_reducible refine (C.out.2.2.2.1 _).mono ?_); rintro e w1 ⟨rfl, rfl⟩))
    | (go_at_call 20; ((with_reducible refine (C.out.2.2.2.2 _).mono ?_); rintro e w1 ⟨rfl, rfl⟩)))
  all_goals (go_ret; exact ⟨by first | rfl | (simp; done) | (simp; first | assumption | omega), B.out⟩)
set_option maxRecDepth 20000 in
set_option maxHeartbeats 4000000 in
theorem muls_ok_neg_neg_y (a b : Int) (w : World) (ha : inR a) (hb : inR b) (h : inR (a * b)) (h1 : a < 0) (h2 : b < 0) (hn :  inR (-a)) :
    Calls Try.prog 5 #[.int .i64 a, .int .i64 b] w fun e w' => e = .returned (.bool true) ∧ Below w.heap.size w w' := by
  have hs : 0 < a * b := Int.mul_pos_of_neg_of_neg h1 h2
  have a0 : ¬ a = 0 := by omega
  have a1 : (a == 0) = false := beq_eq_false_iff_ne.2 a0
  have a2 : decide (0 < a) = false := decide_eq_false (by omega)
  have a3 : ¬ 0 < a := by omega
  have b0 : ¬ b = 0 := by omega
  have b1 : (b == 0) = false := beq_eq_false_iff_ne.2 b0
  have b2 : decide (0 < b) = false := decide_eq_false (by omega)
  have b3 : ¬ 0 < b := by omega
  have C := Lib.hid (And.intro (fun W => Mul_ok a b W ha hb h) (And.intro (fun W => mul_comm_ok a b W ha hb h) (And.intro (fun W => mul_one' a W ha) (And.intro (fun W => mul_minus a W ha hn) (And.intro (fun W => Neg_ok a W ha hn) (And.intro (fun W => div_back a b W ha hb h (by omega)) (fun W => rem_back a b W (by omega))))))))
  clear ha hb h hn
  generalize a * b = s at *
  generalize -a = m at *
  have s0 : ¬ s = 0 := by omega
  have s1 : (s == 0) = false := beq_eq_false_iff_ne.2 s0
  have s2 : decide (0 < s) = true := decide_eq_true (by omega)
  go_enter Try.func5, Try.ntmps5
  go_wp2_with (first
    | (go_at_call 11; ((with_reducible refine (examples_any _).mono ?_); rintro e w1 ⟨rfl, b1⟩; have B := Lib.hid b1; clear b1))
    | (go_at_call 26; ((with_reducible refine (C.out.1 _).mono ?_); rintro e w1 ⟨rfl, rfl⟩))
    | (go_at_call 26; ((with_reducible refine (C.out.2.1 _).mono ?_); rintro e w1 ⟨rfl, rfl⟩))
    | (go_at_call 26; ((with_reducible refine (C.out.2.2.1 _).mono ?_); rintro e w1 ⟨rfl, rfl⟩))
    | (go_at_call 26; ((with_reducible refine (C.out.2.2.2.1 _).mono ?_); rintro e w1 ⟨rfl, rfl⟩))
    | (go_at_call 20; ((with_reducible refine (C.out.2.2.2.2.1 _).mono ?_); rintro e w1 ⟨rfl, rfl⟩))
    | (go_at_call 28; ((with_reducible refine (C.out.2.2.2.2.2.1 _).mono ?_); rintro e w1 ⟨rfl, rfl⟩))
    | (go_at_call 30; ((with_reducible refine (C.out.2.2.2.2.2.2 _).mono ?_); rintro e w1 ⟨rfl, rfl⟩)))
  all_goals (go_ret; exact ⟨by first | rfl | (simp; done) | (simp; first | assumption | omega), B.out⟩)
set_option maxRecDepth 20000 in
set_option maxHeartbeats 4000000 in
theorem muls_ok_neg_neg_n (a b : Int) (w : World) (ha : inR a) (hb : inR b) (h : inR (a * b)) (h1 : a < 0) (h2 : b < 0) (hn : ¬ inR (-a)) :
    Calls Try.prog 5 #[.int .i64 a, .int .i64 b] w fun e w' => e = .returned (.bool true) ∧ Below w.heap.size w w' := by
  have hs : 0 < a * b := Int.mul_pos_of_neg_of_neg h1 h2
  have a0 : ¬ a = 0 := by omega
  have a1 : (a == 0) = false := beq_eq_false_iff_ne.2 a0
  have a2 : decide (0 < a) = false := decide_eq_false (by omega)
  have a3 : ¬ 0 < a := by omega
  have b0 : ¬ b = 0 := by omega
  have b1 : (b == 0) = false := beq_eq_false_iff_ne.2 b0
  have b2 : decide (0 < b) = false := decide_eq_false (by omega)
  have b3 : ¬ 0 < b := by omega
  have C := Lib.hid (And.intro (fun W => Mul_ok a b W ha hb h) (And.intro (fun W => mul_comm_ok a b W ha hb h) (And.intro (fun W => mul_one' a W ha) (And.intro (fun W => mul_minus_no a W ha hn) (And.intro (fun W => Neg_no a W ha hn) (And.intro (fun W => div_back a b W ha hb h (by omega)) (fun W => rem_back a b W (by omega))))))))
  clear ha hb h hn
  generalize a * b = s at *
  have s0 : ¬ s = 0 := by omega
  have s1 : (s == 0) = false := beq_eq_false_iff_ne.2 s0
  have s2 : decide (0 < s) = true := decide_eq_true (by omega)
  go_enter Try.func5, Try.ntmps5
  go_wp2_with (first
    | (go_at_call 11; ((with_reducible refine (examples_any _).mono ?_); rintro e w1 ⟨rfl, b1⟩; have B := Lib.hid b1; clear b1))
    | (go_at_call 26; ((with_reducible refine (C.out.1 _).mono ?_); rintro e w1 ⟨rfl, rfl⟩))
    | (go_at_call 26; ((with_reducible refine (C.out.2.1 _).mono ?_); rintro e w1 ⟨rfl, rfl⟩))
    | (go_at_call 26; ((with_reducible refine (C.out.2.2.1 _).mono ?_); rintro e w1 ⟨rfl, rfl⟩))
    | (go_at_call 26; ((with_reducible refine (C.out.2.2.2.1 _).mono ?_); rintro e w1 ⟨rfl, rfl⟩))
    | (go_at_call 20; ((with_reducible refine (C.out.2.2.2.2.1 _).mono ?_); rintro e w1 ⟨rfl, rfl⟩))
    | (go_at_call 28; ((with_reducible refine (C.out.2.2.2.2.2.1 _).mono ?_); rintro e w1 ⟨rfl, rfl⟩))
    | (go_at_call 30; ((with_reducible refine (C.out.2.2.2.2.2.2 _).mono ?_); rintro e w1 ⟨rfl, rfl⟩)))
  all_goals (go_ret; exact ⟨by first | rfl | (simp; done) | (simp; first | assumption | omega), B.out⟩)
set_option maxRecDepth 20000 in
set_option maxHeartbeats 4000000 in
theorem muls_ok_neg_pos_y (a b : Int) (w : World) (ha : inR a) (hb : inR b) (h : inR (a * b)) (h1 : a < 0) (h2 : 0 < b) (hn :  inR (-a)) :
    Calls Try.prog 5 #[.int .i64 a, .int .i64 b] w fun e w' => e = .returned (.bool true) ∧ Below w.heap.size w w' := by
  have hs : a * b < 0 := Int.mul_neg_of_neg_of_pos h1 h2
  have a0 : ¬ a = 0 := by omega
  have a1 : (a == 0) = false := beq_eq_false_iff_ne.2 a0
  have a2 : decide (0 < a) = false := decide_eq_false (by omega)
  have a3 : ¬ 0 < a := by omega
  have b0 : ¬ b = 0 := by omega
  have b1 : (b == 0) = false := beq_eq_false_iff_ne.2 b0
  have b2 : decide (0 < b) = true := decide_eq_true (by omega)
  have C := Lib.hid (And.intro (fun W => Mul_ok a b W ha hb h) (And.intro (fun W => mul_comm_ok a b W ha hb h) (And.intro (fun W => mul_one' a W ha) (And.intro (fun W => mul_minus a W ha hn) (And.intro (fun W => Neg_ok a W ha hn) (And.intro (fun W => div_back a b W ha hb h (by omega)) (fun W => rem_back a b W (by omega))))))))
  clear ha hb h hn
  generalize a * b = s at *
  generalize -a = m at *
  have s0 : ¬ s = 0 := by omega
  have s1 : (s == 0) = false := beq_eq_false_iff_ne.2 s0
  have s2 : decide (0 < s) = false := decide_eq_false (by omega)
  have s3 : ¬ 0 < s := by omega
  go_enter Try.func5, Try.ntmps5
  go_wp2_with (first
    | (go_at_call 11; ((with_reducible refine (examples_any _).mono ?_); rintro e w1 ⟨rfl, b1⟩; have B := Lib.hid b1; clear b1))
    | (go_at_call 26; ((with_reducible refine (C.out.1 _).mono ?_); rintro e w1 ⟨rfl, rfl⟩))
    | (go_at_call 26; ((with_reducible refine (C.out.2.1 _).mono ?_); rintro e w1 ⟨rfl, rfl⟩))
    | (go_at_call 26; ((with_reducible refine (C.out.2.2.1 _).mono ?_); rintro e w1 ⟨rfl, rfl⟩))
    | (go_at_call 26; ((with_reducible refine (C.out.2.2.2.1 _).mono ?_); rintro e w1 ⟨rfl, rfl⟩))
    | (go_at_call 20; ((with_reducible refine (C.out.2.2.2.2.1 _).mono ?_); rintro e w1 ⟨rfl, rfl⟩))
    | (go_at_call 28; ((with_reducible refine (C.out.2.2.2.2.2.1 _).mono ?_); rintro e w1 ⟨rfl, rfl⟩))
    | (go_at_call 30; ((with_reducible refine (C.out.2.2.2.2.2.2 _).mono ?_); rintro e w1 ⟨rfl, rfl⟩)))
  all_goals (go_ret; exact ⟨by first | rfl | (simp; done) | (simp; first | assumption | omega), B.out⟩)
set_option maxRecDepth 20000 in
set_option maxHeartbeats 4000000 in
theorem muls_ok_neg_pos_n (a b : Int) (w : World) (ha : inR a) (hb : inR b) (h : inR (a * b)) (h1 : a < 0) (h2 : 0 < b) (hn : ¬ inR (-a)) :
    Calls Try.prog 5 #[.int .i64 a, .int .i64 b] w fun e w' => e = .returned (.bool true) ∧ Below w.heap.size w w' := by
  have hs : a * b < 0 := Int.mul_neg_of_neg_of_pos h1 h2
  have a0 : ¬ a = 0 := by omega
  have a1 : (a == 0) = false := beq_eq_false_iff_ne.2 a0
  have a2 : decide (0 < a) = false := decide_eq_false (by omega)
  have a3 : ¬ 0 < a := by omega
  have b0 : ¬ b = 0 := by omega
  have b1 : (b == 0) = false := beq_eq_false_iff_ne.2 b0
  have b2 : decide (0 < b) = true := decide_eq_true (by omega)
  have C := Lib.hid (And.intro (fun W => Mul_ok a b W ha hb h) (And.intro (fun W => mul_comm_ok a b W ha hb h) (And.intro (fun W => mul_one' a W ha) (And.intro (fun W => mul_minus_no a W ha hn) (And.intro (fun W => Neg_no a W ha hn) (And.intro (fun W => div_back a b W ha hb h (by omega)) (fun W => rem_back a b W (by omega))))))))
  clear ha hb h hn
  generalize a * b = s at *
  have s0 : ¬ s = 0 := by omega
  have s1 : (s == 0) = false := beq_eq_false_iff_ne.2 s0
  have s2 : decide (0 < s) = false := decide_eq_false (by omega)
  have s3 : ¬ 0 < s := by omega
  go_enter Try.func5, Try.ntmps5
  go_wp2_with (first
    | (go_at_call 11; ((with_reducible refine (examples_any _).mono ?_); rintro e w1 ⟨rfl, b1⟩; have B := Lib.hid b1; clear b1))
    | (go_at_call 26; ((with_reducible refine (C.out.1 _).mono ?_); rintro e w1 ⟨rfl, rfl⟩))
    | (go_at_call 26; ((with_reducible refine (C.out.2.1 _).mono ?_); rintro e w1 ⟨rfl, rfl⟩))
    | (go_at_call 26; ((with_reducible refine (C.out.2.2.1 _).mono ?_); rintro e w1 ⟨rfl, rfl⟩))
    | (go_at_call 26; ((with_reducible refine (C.out.2.2.2.1 _).mono ?_); rintro e w1 ⟨rfl, rfl⟩))
    | (go_at_call 20; ((with_reducible refine (C.out.2.2.2.2.1 _).mono ?_); rintro e w1 ⟨rfl, rfl⟩))
    | (go_at_call 28; ((with_reducible refine (C.out.2.2.2.2.2.1 _).mono ?_); rintro e w1 ⟨rfl, rfl⟩))
    | (go_at_call 30; ((with_reducible refine (C.out.2.2.2.2.2.2 _).mono ?_); rintro e w1 ⟨rfl, rfl⟩)))
  all_goals (go_ret; exact ⟨by first | rfl | (simp; done) | (simp; first | assumption | omega), B.out⟩)
set_option maxRecDepth 20000 in
set_option maxHeartbeats 4000000 in
theorem muls_ok_pos_neg_y (a b : Int) (w : World) (ha : inR a) (hb : inR b) (h : inR (a * b)) (h1 : 0 < a) (h2 : b < 0) (hn :  inR (-a)) :
    Calls Try.prog 5 #[.int .i64 a, .int .i64 b] w fun e w' => e = .returned (.bool true) ∧ Below w.heap.size w w' := by
  have hs : a * b < 0 := Int.mul_neg_of_pos_of_neg h1 h2
  have a0 : ¬ a = 0 := by omega
  have a1 : (a == 0) = false := beq_eq_false_iff_ne.2 a0
  have a2 : decide (0 < a) = true := decide_eq_true (by omega)
  have b0 : ¬ b = 0 := by omega
  have b1 : (b == 0) = false := beq_eq_false_iff_ne.2 b0
  have b2 : decide (0 < b) = false := decide_eq_false (by omega)
  have b3 : ¬ 0 < b := by omega
  have C := Lib.hid (And.intro (fun W => Mul_ok a b W ha hb h) (And.intro (fun W => mul_comm_ok a b W ha hb h) (And.intro (fun W => mul_one' a W ha) (And.intro (fun W => mul_minus a W ha hn) (And.intro (fun W => Neg_ok a W ha hn) (And.intro (fun W => div_back a b W ha hb h (by omega)) (fun W => rem_back a b W (by omega))))))))
  clear ha hb h hn
  generalize a * b = s at *
  generalize -a = m at *
  have s0 : ¬ s = 0 := by omega
  have s1 : (s == 0) = false := beq_eq_false_iff_ne.2 s0
  have s2 : decide (0 < s) = false := decide_eq_false (by omega)
  have s3 : ¬ 0 < s := by omega
  go_enter Try.func5, Try.ntmps5
  go_wp2_with (first
    | (go_at_call 11; ((with_reducible refine (examples_any _).mono ?_); rintro e w1 ⟨rfl, b1⟩; have B := Lib.hid b1; clear b1))
    | (go_at_call 26; ((with_reducible refine (C.out.1 _).mono ?_); rintro e w1 ⟨rfl, rfl⟩))
    | (go_at_call 26; ((with_reducible refine (C.out.2.1 _).mono ?_); rintro e w1 ⟨rfl, rfl⟩))
    | (go_at_call 26; ((with_reducible refine (C.out.2.2.1 _).mono ?_); rintro e w1 ⟨rfl, rfl⟩))
    | (go_at_call 26; ((with_reducible refine (C.out.2.2.2.1 _).mono ?_); rintro e w1 ⟨rfl, rfl⟩))
    | (go_at_call 20; ((with_reducible refine (C.out.2.2.2.2.1 _).mono ?_); rintro e w1 ⟨rfl, rfl⟩))
    | (go_at_call 28; ((with_reducible refine (C.out.2.2.2.2.2.1 _).mono ?_); rintro e w1 ⟨rfl, rfl⟩))
    | (go_at_call 30; ((with_reducible refine (C.out.2.2.2.2.2.2 _).mono ?_); rintro e w1 ⟨rfl, rfl⟩)))
  all_goals (go_ret; exact ⟨by first | rfl | (simp; done) | (simp; first | assumption | omega), B.out⟩)
set_option maxRecDepth 20000 in
set_option maxHeartbeats 4000000 in
theorem muls_ok_pos_pos_y (a b : Int) (w : World) (ha : inR a) (hb : inR b) (h : inR (a * b)) (h1 : 0 < a) (h2 : 0 < b) (hn :  inR (-a)) :
    Calls Try.prog 5 #[.int .i64 a, .int .i64 b] w fun e w' => e = .returned (.bool true) ∧ Below w.heap.size w w' := by
  have hs : 0 < a * b := Int.mul_pos h1 h2
  have a0 : ¬ a = 0 := by omega
  have a1 : (a == 0) = false := beq_eq_false_iff_ne.2 a0
  have a2 : decide (0 < a) = true := decide_eq_true (by omega)
  have b0 : ¬ b = 0 := by omega
  have b1 : (b == 0) = false := beq_eq_false_iff_ne.2 b0
  have b2 : decide (0 < b) = true := decide_eq_true (by omega)
  have C := Lib.hid (And.intro (fun W => Mul_ok a b W ha hb h) (And.intro (fun W => mul_comm_ok a b W ha hb h) (And.intro (fun W => mul_one' a W ha) (And.intro (fun W => mul_minus a W ha hn) (And.intro (fun W => Neg_ok a W ha hn) (And.intro (fun W => div_back a b W ha hb h (by omega)) (fun W => rem_back a b W (by omega))))))))
  clear ha hb h hn
  generalize a * b = s at *
  generalize -a = m at *
  have s0 : ¬ s = 0 := by omega
  have s1 : (s == 0) = false := beq_eq_false_iff_ne.2 s0
  have s2 : decide (0 < s) = true := decide_eq_true (by omega)
  go_enter Try.func5, Try.ntmps5
  go_wp2_with (first
    | (go_at_call 11; ((with_reducible refine (examples_any _).mono ?_); rintro e w1 ⟨rfl, b1⟩; have B := Lib.hid b1; clear b1))
    | (go_at_call 26; ((with_reducible refine (C.out.1 _).mono ?_); rintro e w1 ⟨rfl, rfl⟩))
    | (go_at_call 26; ((with_reducible refine (C.out.2.1 _).mono ?_); rintro e w1 ⟨rfl, rfl⟩))
    | (go_at_call 26; ((with_reducible refine (C.out.2.2.1 _).mono ?_); rintro e w1 ⟨rfl, rfl⟩))
    | (go_at_call 26; ((with_reducible refine (C.out.2.2.2.1 _).mono ?_); rintro e w1 ⟨rfl, rfl⟩))
    | (go_at_call 20; ((with_reducible refine (C.out.2.2.2.2.1 _).mono ?_); rintro e w1 ⟨rfl, rfl⟩))
    | (go_at_call 28; ((with_reducible refine (C.out.2.2.2.2.2.1 _).mono ?_); rintro e w1 ⟨rfl, rfl⟩))
    | (go_at_call 30; ((with_reducible refine (C.out.2.2.2.2.2.2 _).mono ?_); rintro e w1 ⟨rfl, rfl⟩)))
  all_goals (go_ret; exact ⟨by first | rfl | (simp; done) | (simp; first | assumption | omega), B.out⟩)
theorem walk_ReckonMuls (a b : Int) (ha : -9223372036854775808 ≤ a) (ha' : a ≤ 9223372036854775807) (hb : -9223372036854775808 ≤ b) (hb' : b ≤ 9223372036854775807) (w : World) :
    Calls Try.prog 5 #[.int .i64 a, .int .i64 b] w fun e w' => e = .returned (.bool true) ∧ Below w.heap.size w w' := by
  have ra : inR a := ⟨ha, ha'⟩
  have rb : inR b := ⟨hb, hb'⟩
  by_cases a0 : a = 0
  · subst a0; exact muls_zero_a b w rb
  by_cases hn : inR (-a)
  · have a9 : a ≠ -9223372036854775808 := by unfold inR at hn; omega
    by_cases b0 : b = 0
    · subst b0; exact muls_zero_by a w ra hn
    by_cases h : inR (a * b)
    · rcases Int.lt_or_gt_of_ne a0 with h1 | h1 <;> rcases Int.lt_or_gt_of_ne b0 with h2 | h2
      · exact muls_ok_neg_neg_y a b w ra rb h h1 h2 hn
      · exact muls_ok_neg_pos_y a b w ra rb h h1 h2 hn
      · exact muls_ok_pos_neg_y a b w ra rb h h1 h2 hn
      · exact muls_ok_pos_pos_y a b w ra rb h h1 h2 hn
    · by_cases b9 : b = -9223372036854775808
      · subst b9
        rcases Int.lt_or_gt_of_ne a0 with h1 | h1
        · exact muls_no_neg_min a w ra rb h h1 a9
        · exact muls_no_pos_min a w ra rb h h1 a9
      · rcases Int.lt_or_gt_of_ne a0 with h1 | h1 <;> rcases Int.lt_or_gt_of_ne b0 with h2 | h2
        · exact muls_no_neg_neg a b w ra rb h h1 a9 h2 b9
        · exact muls_no_neg_pos a b w ra rb h h1 a9 h2 b9
        · exact muls_no_pos_neg a b w ra rb h h1 a9 h2 b9
        · exact muls_no_pos_pos a b w ra rb h h1 a9 h2 b9
  · obtain rfl : a = -9223372036854775808 := by unfold inR at hn; omega
    by_cases b0 : b = 0
    · subst b0; exact muls_zero_bn _ w ra hn
    by_cases h : inR (-9223372036854775808 * b)
    · rcases Int.lt_or_gt_of_ne b0 with h2 | h2
      · exact muls_ok_neg_neg_n _ b w ra rb h (by decide) h2 hn
      · exact muls_ok_neg_pos_n _ b w ra rb h (by decide) h2 hn
    · by_cases b9 : b = -9223372036854775808
      · subst b9; exact muls_no_min_min w ra rb h
      · rcases Int.lt_or_gt_of_ne b0 with h2 | h2
        · exact muls_no_min_neg b w ra rb h h2 b9
        · exact muls_no_min_pos b w ra rb h h2 b9
end Go.Proofs.Ytjddfjapopdciaa
