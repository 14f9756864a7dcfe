/- Contracts of package reckon: checked arithmetic. -/
import Derived.Test.YtjddfjapopdciaaNum80
namespace Go.Proofs.Ytjddfjapopdciaa
open Go.ChangeShapes Go.WideShapes Go.ChangeAt Go.RowKit
open Rk (inR)
set_option linter.unusedVariables false
set_option linter.unusedSimpArgs false

/-- What a checked operation tells: the number, or none. -/
abbrev told (n : Int) (ok : Bool) : Ending := .returned (.tuple #[.int .i64 n, .bool ok])
theorem Add_ok (a b : Int) (w : World) (ha : inR a) (hb : inR b) (h : inR (a + b)) :
    Calls Try.prog 22 #[.int .i64 a, .int .i64 b] w fun e w' => e = told (a + b) true ∧ w = w' := by
  have hs := Rk.add_sign ha hb
  have H := Lib.hid hs; clear hs
  go_enter Try.func22, Try.ntmps22
  go_wp2
  · rename_i h1; exact absurd h (H.out.1 h1)
  · have hw := Rk.wrap_in h
    refine bodyPost_ret (v := .tuple #[.int .i64 (a + b), .bool true]) (by simp [results, Try.results22, go_sem, hw]) rfl ⟨rfl, rfl⟩
theorem Add_no (a b : Int) (w : World) (ha : inR a) (hb : inR b) (h : ¬ inR (a + b)) :
    Calls Try.prog 22 #[.int .i64 a, .int .i64 b] w fun e w' => e = told 0 false ∧ w = w' := by
  have hs := Rk.add_sign ha hb
  have H := Lib.hid hs; clear hs
  go_enter Try.func22, Try.ntmps22
  go_wp2
  · refine bodyPost_ret (v := .tuple #[.int .i64 0, .bool false]) (by simp [results, Try.results22, go_sem]) rfl ⟨rfl, rfl⟩
  · rename_i h1; exact absurd (H.out.2 h) (by omega)
theorem Sub_ok (a b : Int) (w : World) (ha : inR a) (hb : inR b) (h : inR (a - b)) :
    Calls Try.prog 24 #[.int .i64 a, .int .i64 b] w fun e w' => e = told (a - b) true ∧ w = w' := by
  have hs := Rk.sub_sign ha hb
  have H := Lib.hid hs; clear hs
  go_enter Try.func24, Try.ntmps24
  go_wp2
  · rename_i h1; exact absurd h (H.out.1 h1)
  · have hw := Rk.wrap_in h
    refine bodyPost_ret (v := .tuple #[.int .i64 (a - b), .bool true]) (by simp [results, Try.results24, go_sem, hw]) rfl ⟨rfl, rfl⟩
theorem Sub_no (a b : Int) (w : World) (ha : inR a) (hb : inR b) (h : ¬ inR (a - b)) :
    Calls Try.prog 24 #[.int .i64 a, .int .i64 b] w fun e w' => e = told 0 false ∧ w = w' := by
  have hs := Rk.sub_sign ha hb
  have H := Lib.hid hs; clear hs
  go_enter Try.func24, Try.ntmps24
  go_wp2
  · refine bodyPost_ret (v := .tuple #[.int .i64 0, .bool false]) (by simp [results, Try.results24, go_sem]) rfl ⟨rfl, rfl⟩
  · rename_i h1; exact absurd (H.out.2 h) (by omega)
theorem Neg_ok (a : Int) (w : World) (ha : inR a) (h : inR (-a)) :
    Calls Try.prog 20 #[.int .i64 a] w fun e w' => e = told (-a) true ∧ w = w' := by
  have cS := fun W => Sub_ok 0 a W (by unfold inR; omega) ha (by rw [Int.zero_sub]; exact h)
  rw [show (0 : Int) - a = -a by omega] at cS
  have C := Lib.hid cS; clear cS
  go_enter Try.func20, Try.ntmps20
  go_wp2_with (go_at_call 24; ((with_reducible refine (C.out _).mono ?_); rintro e w1 ⟨rfl, rfl⟩))
  refine bodyPost_ret (v := .tuple #[.int .i64 (-a), .bool true]) (by simp [results, Try.results20, go_sem]) rfl ⟨rfl, rfl⟩
theorem Neg_no (a : Int) (w : World) (ha : inR a) (h : ¬ inR (-a)) :
    Calls Try.prog 20 #[.int .i64 a] w fun e w' => e = told 0 false ∧ w = w' := by
  have cS := fun W => Sub_no 0 a W (by unfold inR; omega) ha (by rw [Int.zero_sub]; exact h)
  have C := Lib.hid cS; clear cS
  go_enter Try.func20, Try.ntmps20
  go_wp2_with (go_at_call 24; ((with_reducible refine (C.out _).mono ?_); rintro e w1 ⟨rfl, rfl⟩))
  refine bodyPost_ret (v := .tuple #[.int .i64 0, .bool false]) (by simp [results, Try.results20, go_sem]) rfl ⟨rfl, rfl⟩
theorem Mul_ok (a b : Int) (w : World) (ha : inR a) (hb : inR b) (h : inR (a * b)) :
    Calls Try.prog 26 #[.int .i64 a, .int .i64 b] w fun e w' => e = told (a * b) true ∧ w = w' := by
  by_cases h0 : b = 0
  · subst h0
    rw [Int.mul_zero]
    go_enter Try.func26, Try.ntmps26
    go_wp2
    refine bodyPost_ret (v := .tuple #[.int .i64 0, .bool true]) (by simp [results, Try.results26, go_sem]) rfl ⟨rfl, rfl⟩
  have hw := Rk.wrap_in h
  have hx : ¬ (a = -9223372036854775808 ∧ b = -1) := by rintro ⟨rfl, rfl⟩; revert h; decide
  have hbz : (b == 0) = false := by simpa using h0
  have hd : (wrap64 (a * b)).tdiv b = a := by rw [hw]; exact Rk.mul_back h0
  have hc : (wrap64 ((wrap64 (a * b)).tdiv b) != a) = false := by rw [hd, Rk.wrap_in ha]; simp
  have H := Lib.hid hw; clear hw hd
  by_cases h1 : a = -9223372036854775808
  · subst h1
    have h2b : (b == -1) = false := by simpa using (fun h => hx ⟨rfl, h⟩)
    clear hx
    go_enter Try.func26, Try.ntmps26
    go_wp2
    have hw := H.out
    refine bodyPost_ret (v := .tuple #[.int .i64 (-9223372036854775808 * b), .bool true]) (by simp [results, Try.results26, go_sem, hw]) rfl ⟨rfl, rfl⟩
  · have h1b : (a == -9223372036854775808) = false := by simpa using h1
    clear hx
    go_enter Try.func26, Try.ntmps26
    go_wp2
    have hw := H.out
    refine bodyPost_ret (v := .tuple #[.int .i64 (a * b), .bool true]) (by simp [results, Try.results26, go_sem, hw]) rfl ⟨rfl, rfl⟩
theorem Mul_no (a b : Int) (w : World) (ha : inR a) (hb : inR b) (h : ¬ inR (a * b)) :
    Calls Try.prog 26 #[.int .i64 a, .int .i64 b] w fun e w' => e = told 0 false ∧ w = w' := by
  have h0 : b ≠ 0 := by rintro rfl; rw [Int.mul_zero] at h; revert h; decide
  have hbz : (b == 0) = false := by simpa using h0
  by_cases hx : a = -9223372036854775808 ∧ b = -1
  · obtain ⟨rfl, rfl⟩ := hx
    go_enter Try.func26, Try.ntmps26
    go_wp2
    refine bodyPost_ret (v := .tuple #[.int .i64 0, .bool false]) (by simp [results, Try.results26, go_sem]) rfl ⟨rfl, rfl⟩
  have hq := Rk.wrap_in (Rk.mul_quo ha hb h0 hx)
  have ho := Rk.mul_out ha hb h0 h
  have hc : (wrap64 ((wrap64 (a * b)).tdiv b) != a) = true := by rw [hq]; simpa using ho
  clear hq ho
  by_cases h1 : a = -9223372036854775808
  · subst h1
    have h2b : (b == -1) = false := by simpa using (fun h => hx ⟨rfl, h⟩)
    clear hx
    go_enter Try.func26, Try.ntmps26
    go_wp2
    refine bodyPost_ret (v := .tuple #[.int .i64 0, .bool false]) (by simp [results, Try.results26, go_sem]) rfl ⟨rfl, rfl⟩
  · have h1b : (a == -9223372036854775808) = false := by simpa using h1
    clear hx
    go_enter Try.func26, Try.ntmps26
    go_wp2
    refine bodyPost_ret (v := .tuple #[.int .i64 0, .bool false]) (by simp [results, Try.results26, go_sem]) rfl ⟨rfl, rfl⟩
theorem Div_ok (a b : Int) (w : World) (ha : inR a) (hb : inR b) (h0 : b ≠ 0) (hx : ¬ (a = -9223372036854775808 ∧ b = -1)) (hq : inR (a.tdiv b)) :
    Calls Try.prog 28 #[.int .i64 a, .int .i64 b] w fun e w' => e = told (a.tdiv b) true ∧ w = w' := by
  have hbz : (b == 0) = false := by simpa using h0
  have H := Lib.hid (Rk.wrap_in hq)
  by_cases h1 : a = -9223372036854775808
  · subst h1
    have h2b : (b == -1) = false := by simpa using (fun h => hx ⟨rfl, h⟩)
    clear hx
    go_enter Try.func28, Try.ntmps28
    go_wp2
    have hw := H.out
    rw [show Int.tdiv (-9223372036854775808) b = -Int.tdiv 9223372036854775808 b from Int.neg_tdiv ..] at hw
    refine bodyPost_ret (v := .tuple #[.int .i64 (Int.tdiv (-9223372036854775808) b), .bool true]) (by simp [results, Try.results28, go_sem, hw]) rfl ⟨rfl, rfl⟩
  · have h1b : (a == -9223372036854775808) = false := by simpa using h1
    clear hx
    go_enter Try.func28, Try.ntmps28
    go_wp2
    have hw := H.out
    refine bodyPost_ret (v := .tuple #[.int .i64 (a.tdiv b), .bool true]) (by simp [results, Try.results28, go_sem, hw]) rfl ⟨rfl, rfl⟩
theorem Div_no (a b : Int) (w : World) (hx : b = 0 ∨ (a = -9223372036854775808 ∧ b = -1)) :
    Calls Try.prog 28 #[.int .i64 a, .int .i64 b] w fun e w' => e = told 0 false ∧ w = w' := by
  rcases hx with rfl | ⟨rfl, rfl⟩
  · go_enter Try.func28, Try.ntmps28
    go_wp2
    refine bodyPost_ret (v := .tuple #[.int .i64 0, .bool false]) (by simp [results, Try.results28, go_sem]) rfl ⟨rfl, rfl⟩
  · go_enter Try.func28, Try.ntmps28
    go_wp2
    refine bodyPost_ret (v := .tuple #[.int .i64 0, .bool false]) (by simp [results, Try.results28, go_sem]) rfl ⟨rfl, rfl⟩
theorem Rem_no (a : Int) (w : World) :
    Calls Try.prog 30 #[.int .i64 a, .int .i64 0] w fun e w' => e = told 0 false ∧ w = w' := by
  go_enter Try.func30, Try.ntmps30
  go_wp2
  refine bodyPost_ret (v := .tuple #[.int .i64 0, .bool false]) (by simp [results, Try.results30, go_sem]) rfl ⟨rfl, rfl⟩
theorem Rem_ok (a b : Int) (w : World) (h0 : b ≠ 0) :
    Calls Try.prog 30 #[.int .i64 a, .int .i64 b] w fun e w' => e = told (a.tmod b) true ∧ w = w' := by
  have hbz : (b == 0) = false := by simpa using h0
  by_cases h1 : b = -1
  · subst h1
    rw [show a.tmod (-1) = 0 by rw [Int.tmod_neg, Int.tmod_one]]
    go_enter Try.func30, Try.ntmps30
    go_wp2
    refine bodyPost_ret (v := .tuple #[.int .i64 0, .bool true]) (by simp [results, Try.results30, go_sem]) rfl ⟨rfl, rfl⟩
  · have h1b : (b == -1) = false := by simpa using h1
    go_enter Try.func30, Try.ntmps30
    go_wp2
    refine bodyPost_ret (v := .tuple #[.int .i64 (a.tmod b), .bool true]) (by simp [results, Try.results30, go_sem]) rfl ⟨rfl, rfl⟩
end Go.Proofs.Ytjddfjapopdciaa
