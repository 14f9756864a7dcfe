/- The walk of ReckonDivs. -/
import Derived.Test.YtjddfjapopdciaaEx08
namespace Go.Proofs.Ytjddfjapopdciaa
open Go.ChangeShapes Go.WideShapes Go.ChangeAt Go.RowKit
open Rk (inR)
set_option linter.unusedVariables false
set_option linter.unusedSimpArgs false

/-- What the law needs of a quotient and what is left. -/
theorem div_facts {a c : Int} (ha : inR a) (hc : inR c) (h0 : c ≠ 0) (hx : ¬ (a = -9223372036854775808 ∧ c = -1)) :
    inR (a.tdiv c) ∧ inR (a.tdiv c * c) ∧ inR (a.tmod c) ∧ a.tdiv c * c + a.tmod c = a ∧ (a.tmod c).natAbs < c.natAbs ∧ (a.tmod c = 0 ∨ (a.tmod c < 0 ↔ a < 0)) := by
  have h1 := Int.mul_tdiv_add_tmod a c
  have h2 := Int.natAbs_tmod a c
  have h3 : a.natAbs % c.natAbs < c.natAbs := Nat.mod_lt _ (by omega)
  have h4 : a.natAbs % c.natAbs ≤ a.natAbs := Nat.mod_le _ _
  have h5 : a.tmod c = 0 ∨ (a.tmod c < 0 ↔ a < 0) := by
    rcases Int.le_total 0 a with h | h
    · have := Int.tmod_nonneg c h; omega
    · have h6 := Int.tmod_nonneg c (a := -a) (by omega)
      rw [Int.neg_tmod] at h6
      omega
  rw [Int.mul_comm] at h1
  have h7 : inR (a.tmod c) := tmod_in ha
  refine ⟨tdiv_in ha h0 hx, ?_, h7, h1, by omega, h5⟩
  unfold inR at *
  rcases h5 with h5 | h5
  · omega
  · rcases Int.lt_or_le a 0 with h | h
    · have := h5.2 h; omega
    · have : ¬ a.tmod c < 0 := fun k => by have := h5.1 k; omega
      omega
theorem rem_m1 (w : World) : Calls Try.prog 30 #[.int .i64 (-9223372036854775808), .int .i64 (-1)] w fun e w' => e = told 0 true ∧ w = w' := Rem_ok _ _ w (by decide)
set_option maxRecDepth 20000 in
set_option maxHeartbeats 4000000 in
theorem divs_pos (a b c : Int) (near : Bool) (w : World) (ha : inR a) (hc : inR c) (h : 0 < c) (hn : (near = false ∧ c = b) ∨ (near = true ∧ b.tmod 9 = c)) :
    Calls Try.prog 6 #[.int .i64 a, .int .i64 b, .bool near] w fun e w' => e = .returned (.bool true) ∧ Below w.heap.size w w' := by
  have c0 : ¬ c = 0 := by omega
  have hx : ¬ (a = -9223372036854775808 ∧ c = -1) := by omega
  obtain ⟨d1, d2, d3, d4, d5, d6⟩ := div_facts ha hc c0 hx
  have c1 : (c == 0) = false := beq_eq_false_iff_ne.2 c0
  have c2 : (c == -1) = false := beq_eq_false_iff_ne.2 (by omega)
  have c3 : (c == -9223372036854775808) = false := beq_eq_false_iff_ne.2 (by omega)
  have C := Lib.hid (And.intro (fun W => Div_ok a c W ha hc c0 hx d1) (And.intro (fun W => Rem_ok a c W c0) (And.intro (fun W => Mul_ok _ c W d1 hc d2) (fun W => Add_ok _ _ W d2 d3 (by rw [d4]; exact ha)))))
  rw [d4] at C
  have e1 : -c < a.tmod c := by omega
  have e2 : a.tmod c < c := by omega
  have e3 : -c ≤ c := by omega
  have kc := hc
  unfold inR at kc
  obtain ⟨k1, k2⟩ := kc
  clear d5 d1 d2 d3 d4 hx hc
  generalize a.tdiv c * c = m at *
  generalize a.tdiv c = q at *
  generalize a.tmod c = r at *
  have D := Lib.hid d6; clear d6 ha
  rcases hn with ⟨rfl, rfl⟩ | ⟨rfl, hm⟩
  all_goals
    go_enter Try.func6, Try.ntmps6
    go_wp2_with (first
      | (go_at_call 11; ((with_reducible refine (examples_any _).mono ?_); rintro e w1 ⟨rfl, b1⟩; have B := Lib.hid b1; clear b1))
      | (go_at_call 28; ((with_reducible refine (C.out.1 _).mono ?_); rintro e w1 ⟨rfl, rfl⟩))
      | (go_at_call 30; ((with_reducible refine (C.out.2.1 _).mono ?_); rintro e w1 ⟨rfl, rfl⟩))
      | (go_at_call 26; ((with_reducible refine (C.out.2.2.1 _).mono ?_); rintro e w1 ⟨rfl, rfl⟩))
      | (go_at_call 22; ((with_reducible refine (C.out.2.2.2 _).mono ?_); rintro e w1 ⟨rfl, rfl⟩)))
    all_goals (go_ret; exact ⟨by first | rfl | (simp; done) | (have H := D.out; simp; omega), B.out⟩)
set_option maxRecDepth 20000 in
set_option maxHeartbeats 4000000 in
theorem divs_neg (a b c : Int) (near : Bool) (w : World) (ha : inR a) (hc : inR c) (h : c < -1) (h9 : c ≠ -9223372036854775808) (hn : (near = false ∧ c = b) ∨ (near = true ∧ b.tmod 9 = c)) :
    Calls Try.prog 6 #[.int .i64 a, .int .i64 b, .bool near] w fun e w' => e = .returned (.bool true) ∧ Below w.heap.size w w' := by
  have c0 : ¬ c = 0 := by omega
  have hx : ¬ (a = -9223372036854775808 ∧ c = -1) := by omega
  obtain ⟨d1, d2, d3, d4, d5, d6⟩ := div_facts ha hc c0 hx
  have c1 : (c == 0) = false := beq_eq_false_iff_ne.2 c0
  have c2 : (c == -1) = false := beq_eq_false_iff_ne.2 (by omega)
  have c3 : (c == -9223372036854775808) = false := beq_eq_false_iff_ne.2 h9
  have c4 : ¬ c = -1 := by omega
  have C := Lib.hid (And.intro (fun W => Div_ok a c W ha hc c0 hx d1) (And.intro (fun W => Rem_ok a c W c0) (And.intro (fun W => Mul_ok _ c W d1 hc d2) (fun W => Add_ok _ _ W d2 d3 (by rw [d4]; exact ha)))))
  rw [d4] at C
  have e1 : c < a.tmod c := by omega
  have e2 : a.tmod c < -c := by omega
  have e3 : ¬ -c ≤ c := by omega
  have e4 : c ≤ -c := by omega
  have kc := hc
  unfold inR at kc
  obtain ⟨k1, k2⟩ := kc
  have k3 : -c ≤ 9223372036854775807 := by omega
  clear d5 d1 d2 d3 d4 hx hc
  generalize a.tdiv c * c = m at *
  generalize a.tdiv c = q at *
  generalize a.tmod c = r at *
  have D := Lib.hid d6; clear d6 ha
  rcases hn with ⟨rfl, rfl⟩ | ⟨rfl, hm⟩
  all_goals
    go_enter Try.func6, Try.ntmps6
    go_wp2_with (first
      | (go_at_call 11; ((with_reducible refine (examples_any _).mono ?_); rintro e w1 ⟨rfl, b1⟩; have B := Lib.hid b1; clear b1))
      | (go_at_call 28; ((with_reducible refine (C.out.1 _).mono ?_); rintro e w1 ⟨rfl, rfl⟩))
      | (go_at_call 30; ((with_reducible refine (C.out.2.1 _).mono ?_); rintro e w1 ⟨rfl, rfl⟩))
      | (go_at_call 26; ((with_reducible refine (C.out.2.2.1 _).mono ?_); rintro e w1 ⟨rfl, rfl⟩))
      | (go_at_call 22; ((with_reducible refine (C.out.2.2.2 _).mono ?_); rintro e w1 ⟨rfl, rfl⟩)))
    all_goals (go_ret; exact ⟨by first | rfl | (simp; done) | (have H := D.out; simp; omega), B.out⟩)
set_option maxRecDepth 20000 in
set_option maxHeartbeats 4000000 in
theorem divs_m1 (a b : Int) (near : Bool) (w : World) (ha : inR a) (h9 : a ≠ -9223372036854775808) (hn : (near = false ∧ (-1) = b) ∨ (near = true ∧ b.tmod 9 = (-1))) :
    Calls Try.prog 6 #[.int .i64 a, .int .i64 b, .bool near] w fun e w' => e = .returned (.bool true) ∧ Below w.heap.size w w' := by
  have hc : inR (-1) := by decide
  have c0 : ¬ (-1 : Int) = 0 := by decide
  have hx : ¬ (a = -9223372036854775808 ∧ (-1 : Int) = -1) := fun h => h9 h.1
  obtain ⟨d1, d2, d3, d4, d5, d6⟩ := div_facts ha hc c0 hx
  have a3 : (a == -9223372036854775808) = false := beq_eq_false_iff_ne.2 h9
  have C := Lib.hid (And.intro (fun W => Div_ok a (-1) W ha hc c0 hx d1) (And.intro (fun W => Rem_ok a (-1) W c0) (And.intro (fun W => Mul_ok _ (-1) W d1 hc d2) (fun W => Add_ok _ _ W d2 d3 (by rw [d4]; exact ha)))))
  rw [d4] at C
  have e1 : a.tmod (-1) = 0 := by omega
  rw [e1] at C d6
  clear d5 d1 d2 d3 d4 hx hc e1
  generalize a.tdiv (-1) * (-1) = m at *
  generalize a.tdiv (-1) = q at *
  have D := Lib.hid d6; clear d6 ha
  rcases hn with ⟨rfl, rfl⟩ | ⟨rfl, hm⟩
  all_goals
    go_enter Try.func6, Try.ntmps6
    go_wp2_with (first
      | (go_at_call 11; ((with_reducible refine (examples_any _).mono ?_); rintro e w1 ⟨rfl, b1⟩; have B := Lib.hid b1; clear b1))
      | (go_at_call 28; ((with_reducible refine (C.out.1 _).mono ?_); rintro e w1 ⟨rfl, rfl⟩))
      | (go_at_call 30; ((with_reducible refine (C.out.2.1 _).mono ?_); rintro e w1 ⟨rfl, rfl⟩))
      | (go_at_call 26; ((with_reducible refine (C.out.2.2.1 _).mono ?_); rintro e w1 ⟨rfl, rfl⟩))
      | (go_at_call 22; ((with_reducible refine (C.out.2.2.2 _).mono ?_); rintro e w1 ⟨rfl, rfl⟩)))
    all_goals (go_ret; exact ⟨by first | rfl | (simp; done) | (have H := D.out; simp; omega), B.out⟩)
set_option maxRecDepth 20000 in
set_option maxHeartbeats 4000000 in
theorem divs_min (a b : Int) (near : Bool) (w : World) (ha : inR a) (hn : (near = false ∧ (-9223372036854775808) = b) ∨ (near = true ∧ b.tmod 9 = (-9223372036854775808))) :
    Calls Try.prog 6 #[.int .i64 a, .int .i64 b, .bool near] w fun e w' => e = .returned (.bool true) ∧ Below w.heap.size w w' := by
  have hc : inR (-9223372036854775808) := by decide
  have c0 : ¬ (-9223372036854775808 : Int) = 0 := by decide
  have hx : ¬ (a = -9223372036854775808 ∧ (-9223372036854775808 : Int) = -1) := by omega
  obtain ⟨d1, d2, d3, d4, d5, d6⟩ := div_facts ha hc c0 hx
  have C := Lib.hid (And.intro (fun W => Div_ok a (-9223372036854775808) W ha hc c0 hx d1) (And.intro (fun W => Rem_ok a (-9223372036854775808) W c0) (And.intro (fun W => Mul_ok _ (-9223372036854775808) W d1 hc d2) (fun W => Add_ok _ _ W d2 d3 (by rw [d4]; exact ha)))))
  rw [d4] at C
  clear d5 d1 d2 d3 d4 hx hc
  generalize a.tdiv (-9223372036854775808) * (-9223372036854775808) = m at *
  generalize a.tdiv (-9223372036854775808) = q at *
  generalize a.tmod (-9223372036854775808) = r at *
  have D := Lib.hid d6; clear d6 ha
  rcases hn with ⟨rfl, rfl⟩ | ⟨rfl, hm⟩
  all_goals
    go_enter Try.func6, Try.ntmps6
    go_wp2_with (first
      | (go_at_call 11; ((with_reducible refine (examples_any _).mono ?_); rintro e w1 ⟨rfl, b1⟩; have B := Lib.hid b1; clear b1))
      | (go_at_call 28; ((with_reducible refine (C.out.1 _).mono ?_); rintro e w1 ⟨rfl, rfl⟩))
      | (go_at_call 30; ((with_reducible refine (C.out.2.1 _).mono ?_); rintro e w1 ⟨rfl, rfl⟩))
      | (go_at_call 26; ((with_reducible refine (C.out.2.2.1 _).mono ?_); rintro e w1 ⟨rfl, rfl⟩))
      | (go_at_call 22; ((with_reducible refine (C.out.2.2.2 _).mono ?_); rintro e w1 ⟨rfl, rfl⟩)))
    all_goals (go_ret; exact ⟨by first | rfl | (simp; done) | (have H := D.out; simp; omega), B.out⟩)
set_option maxRecDepth 20000 in
set_option maxHeartbeats 4000000 in
theorem divs_zero (a b : Int) (near : Bool) (w : World) (ha : inR a) (hn : (near = false ∧ (0) = b) ∨ (near = true ∧ b.tmod 9 = (0))) :
    Calls Try.prog 6 #[.int .i64 a, .int .i64 b, .bool near] w fun e w' => e = .returned (.bool true) ∧ Below w.heap.size w w' := by
  have C := Lib.hid (And.intro (fun W => Div_no a 0 W (Or.inl rfl)) (fun W => Rem_no a W))
  have D := Lib.hid (show True from trivial)
  rcases hn with ⟨rfl, rfl⟩ | ⟨rfl, hm⟩
  all_goals
    go_enter Try.func6, Try.ntmps6
    go_wp2_with (first
      | (go_at_call 11; ((with_reducible refine (examples_any _).mono ?_); rintro e w1 ⟨rfl, b1⟩; have B := Lib.hid b1; clear b1))
      | (go_at_call 28; ((with_reducible refine (C.out.1 _).mono ?_); rintro e w1 ⟨rfl, rfl⟩))
      | (go_at_call 30; ((with_reducible refine (C.out.2 _).mono ?_); rintro e w1 ⟨rfl, rfl⟩)))
    all_goals (go_ret; exact ⟨by first | rfl | (simp; done) | (have H := D.out; simp; omega), B.out⟩)
set_option maxRecDepth 20000 in
set_option maxHeartbeats 4000000 in
theorem divs_bad (b : Int) (near : Bool) (w : World)  (hn : (near = false ∧ (-1) = b) ∨ (near = true ∧ b.tmod 9 = (-1))) :
    Calls Try.prog 6 #[.int .i64 (-9223372036854775808), .int .i64 b, .bool near] w fun e w' => e = .returned (.bool true) ∧ Below w.heap.size w w' := by
  have C := Lib.hid (And.intro (fun W => Div_no (-9223372036854775808) (-1) W (Or.inr ⟨rfl, rfl⟩)) (fun W => rem_m1 W))
  have D := Lib.hid (show True from trivial)
  rcases hn with ⟨rfl, rfl⟩ | ⟨rfl, hm⟩
  all_goals
    go_enter Try.func6, Try.ntmps6
    go_wp2_with (first
      | (go_at_call 11; ((with_reducible refine (examples_any _).mono ?_); rintro e w1 ⟨rfl, b1⟩; have B := Lib.hid b1; clear b1))
      | (go_at_call 28; ((with_reducible refine (C.out.1 _).mono ?_); rintro e w1 ⟨rfl, rfl⟩))
      | (go_at_call 30; ((with_reducible refine (C.out.2 _).mono ?_); rintro e w1 ⟨rfl, rfl⟩)))
    all_goals (go_ret; exact ⟨by first | rfl | (simp; done) | (have H := D.out; simp; omega), B.out⟩)
theorem walk_ReckonDivs (a b : Int) (near : Bool) (ha : -9223372036854775808 ≤ a) (ha' : a ≤ 9223372036854775807) (hb : -9223372036854775808 ≤ b) (hb' : b ≤ 9223372036854775807) (w : World) :
    Calls Try.prog 6 #[.int .i64 a, .int .i64 b, .bool near] w fun e w' => e = .returned (.bool true) ∧ Below w.heap.size w w' := by
  have ra : inR a := ⟨ha, ha'⟩
  have rb : inR b := ⟨hb, hb'⟩
  obtain ⟨c, rc, hn⟩ : ∃ c, inR c ∧ ((near = false ∧ c = b) ∨ (near = true ∧ b.tmod 9 = c)) := by
    cases near with
    | false => exact ⟨b, rb, Or.inl ⟨rfl, rfl⟩⟩
    | true => exact ⟨_, tmod_in rb, Or.inr ⟨rfl, rfl⟩⟩
  by_cases h0 : c = 0
  · subst h0; exact divs_zero a b near w ra hn
  by_cases h1 : 0 < c
  · exact divs_pos a b c near w ra rc h1 hn
  by_cases h2 : c = -1
  · subst h2
    by_cases h3 : a = -9223372036854775808
    · subst h3; exact divs_bad b near w hn
    · exact divs_m1 a b near w ra h3 hn
  by_cases h4 : c = -9223372036854775808
  · subst h4; exact divs_min a b near w ra hn
  · exact divs_neg a b c near w ra rc (by omega) h4 hn
end Go.Proofs.Ytjddfjapopdciaa
