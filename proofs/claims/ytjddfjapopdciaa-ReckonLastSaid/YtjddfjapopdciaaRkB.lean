/- Contracts of package reckon: what one operation makes of values. -/
import Derived.Test.YtjddfjapopdciaaRkA
import Derived.Test.YtjddfjapopdciaaValueO
namespace Go.Proofs.Ytjddfjapopdciaa
open Go.ChangeShapes Go.WideShapes Go.ChangeAt Go.RowKit
open Rk (inR)
set_option linter.unusedVariables false
set_option linter.unusedSimpArgs false

/-- A value, as three. -/
abbrev V3 := Int × Int × ByteArray
abbrev v3 (v : V3) : Value := vv v.1 v.2.1 v.2.2
/-- How a reckoning ends: a value, or a panic. -/
def Res (r : Option V3) (e : Ending) : Prop :=
  match r with
  | some v => e = .returned (v3 v)
  | none => ∃ u pv, e = .panicked [{ v := .iface u pv, recovered := false }]
theorem Res.val {v : V3} {e : Ending} (h : Res (some v) e) : e = .returned (v3 v) := h
theorem Res.bad {e : Ending} (h : Res none e) : ∃ u pv, e = .panicked [{ v := .iface u pv, recovered := false }] := h
abbrev mt : ByteArray := ⟨#[]⟩
abbrev tv (b : Bool) : V3 := (2, (if b then 1 else 0), mt)

theorem need_yes (w : World) : Calls Try.prog 67 #[.bool true] w fun e w' => e = .returned (.tuple #[]) ∧ w = w' := by
  go_enter Try.func67, Try.ntmps67
  go_wp2
  go_end0
  exact ⟨rfl, rfl⟩
abbrev pMissing : List PanicEntry := [{ v := .iface 115 (.agg #[]), recovered := false }]
theorem need_no (w : World) : Calls Try.prog 67 #[.bool false] w fun e w' => e = .panicked pMissing ∧ w = w' := by
  go_enter Try.func67, Try.ntmps67
  go_wp2
  exact ⟨rfl, rfl, rfl⟩
theorem Res.no : Res none (.panicked pMissing) := ⟨_, _, rfl⟩
theorem truth_any (b : Bool) (w : World) : Calls Try.prog 45 #[.bool b] w fun e w' => e = .returned (v3 (tv b)) ∧ Below w.heap.size w w' := by
  cases b
  all_goals
    go_enter Try.func45, Try.ntmps45
    go_wp2
    exact bodyPost_ret (v := v3 (tv _)) (by simp [results, Try.results45, go_sem]) rfl ⟨rfl, ba _ _⟩
theorem number_any (n : Int) (w : World) : Calls Try.prog 51 #[.int .i64 n] w fun e w' => e = .returned (v3 (1, n, mt)) ∧ Below w.heap.size w w' := by
  go_enter Try.func51, Try.ntmps51
  go_wp2
  exact bodyPost_ret (v := v3 (1, n, mt)) (by simp [results, Try.results51, go_sem]) rfl ⟨rfl, ba _ _⟩

/-- What a checked operation of two numbers tells. -/
def wholeM (op : ByteArray) (a b : Int) : Option Int :=
  if op.toList = [43] then (if inR (a + b) then some (a + b) else none) else
  if op.toList = [45] then (if inR (a - b) then some (a - b) else none) else
  if op.toList = [42] then (if inR (a * b) then some (a * b) else none) else
  if op.toList = [47] then (if b = 0 ∨ (a = -9223372036854775808 ∧ b = -1) then none else some (a.tdiv b)) else
  (if b = 0 then none else some (a.tmod b))
def toldO (r : Option Int) : Ending := match r with | some n => told n true | none => told 0 false
theorem tdiv_in {a b : Int} (ha : inR a) (h0 : b ≠ 0) (hx : ¬ (a = -9223372036854775808 ∧ b = -1)) : inR (a.tdiv b) := by
  by_cases h1 : b = -1
  · subst h1; rw [Int.tdiv_neg, Int.tdiv_one]; unfold inR at *; omega
  by_cases h2 : b = 1
  · subst h2; rw [Int.tdiv_one]; exact ha
  have h3 : (a.tdiv b).natAbs ≤ a.natAbs / 2 := by
    rw [Int.natAbs_tdiv]; exact Nat.div_le_div_left (by omega) (by omega)
  unfold inR at *; omega
theorem tmod_in {a b : Int} (ha : inR a) : inR (a.tmod b) := by
  have h2 := Int.natAbs_tmod a b
  have h3 : a.natAbs % b.natAbs ≤ a.natAbs := Nat.mod_le _ _
  have h4 := Int.tmod_nonneg b (a := a)
  rcases Int.le_total 0 a with h | h
  · have := h4 h; unfold inR at *; omega
  · have h5 := Int.tmod_nonneg b (a := -a) (by omega)
    rw [Int.neg_tmod] at h5
    unfold inR at *; omega
theorem whole_any (op : ByteArray) (a b : Int) (w : World) (ha : inR a) (hb : inR b) (ho : op.toList = [43] ∨ op.toList = [45] ∨ op.toList = [42] ∨ op.toList = [47] ∨ op.toList = [37]) :
    Calls Try.prog 72 #[.string op, .int .i64 a, .int .i64 b] w fun e w' => e = toldO (wholeM op a b) ∧ w = w' := by
  rcases ho with h | h | h | h | h
  · by_cases hr : inR (a + b)
    · rw [show wholeM op a b = some (a + b) by unfold wholeM; simp [h, hr]]
      have C := Lib.hid (fun W => Add_ok a b W ha hb hr)
      generalize a + b = x at *
      go_enter Try.func72, Try.ntmps72
      go_wp2_with (go_at_call 22; ((with_reducible refine (C.out _).mono ?_); rintro e w1 ⟨rfl, rfl⟩))
      go_ret2
      exact ⟨rfl, rfl⟩
    · rw [show wholeM op a b = none by unfold wholeM; simp [h, hr]]
      have C := Lib.hid (fun W => Add_no a b W ha hb hr)
      go_enter Try.func72, Try.ntmps72
      go_wp2_with (go_at_call 22; ((with_reducible refine (C.out _).mono ?_); rintro e w1 ⟨rfl, rfl⟩))
      go_ret2
      exact ⟨rfl, rfl⟩
  · by_cases hr : inR (a - b)
    · rw [show wholeM op a b = some (a - b) by unfold wholeM; simp [h, hr]]
      have C := Lib.hid (fun W => Sub_ok a b W ha hb hr)
      generalize a - b = x at *
      go_enter Try.func72, Try.ntmps72
      go_wp2_with (go_at_call 24; ((with_reducible refine (C.out _).mono ?_); rintro e w1 ⟨rfl, rfl⟩))
      go_ret2
      exact ⟨rfl, rfl⟩
    · rw [show wholeM op a b = none by unfold wholeM; simp [h, hr]]
      have C := Lib.hid (fun W => Sub_no a b W ha hb hr)
      go_enter Try.func72, Try.ntmps72
      go_wp2_with (go_at_call 24; ((with_reducible refine (C.out _).mono ?_); rintro e w1 ⟨rfl, rfl⟩))
      go_ret2
      exact ⟨rfl, rfl⟩
  · by_cases hr : inR (a * b)
    · rw [show wholeM op a b = some (a * b) by unfold wholeM; simp [h, hr]]
      have C := Lib.hid (fun W => Mul_ok a b W ha hb hr)
      generalize a * b = x at *
      go_enter Try.func72, Try.ntmps72
      go_wp2_with (go_at_call 26; ((with_reducible refine (C.out _).mono ?_); rintro e w1 ⟨rfl, rfl⟩))
      go_ret2
      exact ⟨rfl, rfl⟩
    · rw [show wholeM op a b = none by unfold wholeM; simp [h, hr]]
      have C := Lib.hid (fun W => Mul_no a b W ha hb hr)
      go_enter Try.func72, Try.ntmps72
      go_wp2_with (go_at_call 26; ((with_reducible refine (C.out _).mono ?_); rintro e w1 ⟨rfl, rfl⟩))
      go_ret2
      exact ⟨rfl, rfl⟩
  · by_cases hr : b = 0 ∨ (a = -9223372036854775808 ∧ b = -1)
    · rw [show wholeM op a b = none by unfold wholeM; rw [h, if_pos hr]; rfl]
      have C := Lib.hid (fun W => Div_no a b W hr)
      clear hr
      go_enter Try.func72, Try.ntmps72
      go_wp2_with (go_at_call 28; ((with_reducible refine (C.out _).mono ?_); rintro e w1 ⟨rfl, rfl⟩))
      go_ret2
      exact ⟨rfl, rfl⟩
    · rw [show wholeM op a b = some (a.tdiv b) by unfold wholeM; rw [h, if_neg hr]; rfl]
      have C := Lib.hid (fun W => Div_ok a b W ha hb (fun h => hr (Or.inl h)) (fun h => hr (Or.inr h)) (tdiv_in ha (fun h => hr (Or.inl h)) (fun h => hr (Or.inr h))))
      clear hr
      generalize a.tdiv b = x at *
      go_enter Try.func72, Try.ntmps72
      go_wp2_with (go_at_call 28; ((with_reducible refine (C.out _).mono ?_); rintro e w1 ⟨rfl, rfl⟩))
      go_ret2
      exact ⟨rfl, rfl⟩
  · by_cases hr : b = 0
    · rw [show wholeM op a b = none by unfold wholeM; simp [h, hr]]
      subst hr
      have C := Lib.hid (fun W => Rem_no a W)
      go_enter Try.func72, Try.ntmps72
      go_wp2_with (go_at_call 30; ((with_reducible refine (C.out _).mono ?_); rintro e w1 ⟨rfl, rfl⟩))
      go_ret2
      exact ⟨rfl, rfl⟩
    · rw [show wholeM op a b = some (a.tmod b) by unfold wholeM; simp [h, hr]]
      have C := Lib.hid (fun W => Rem_ok a b W hr)
      clear hr
      generalize a.tmod b = x at *
      go_enter Try.func72, Try.ntmps72
      go_wp2_with (go_at_call 30; ((with_reducible refine (C.out _).mono ?_); rintro e w1 ⟨rfl, rfl⟩))
      go_ret2
      exact ⟨rfl, rfl⟩
end Go.Proofs.Ytjddfjapopdciaa
