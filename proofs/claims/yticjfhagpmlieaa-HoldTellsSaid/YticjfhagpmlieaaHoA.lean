/- Lists of lists of numbers, as they lie; how two stand. -/
import Derived.Test.YticjfhagpmlieaaHoM
import Derived.Test.YticjfhagpmlieaaCells2
import Derived.Deep.QuietTactic
namespace Go.Proofs.Yticjfhagpmlieaa
open Go.ChangeShapes Go.WideShapes Go.ChangeAt Go.RowKit
open Ho
set_option linter.unusedVariables false
set_option linter.unusedSimpArgs false

theorem retI {a b : Int} (h : a = b) : Ending.returned (.int .i64 a) = .returned (.int .i64 b) := by rw [h]
abbrev rowI (z : Int) : List Value := [.int .i64 z]
/-- Slices, each of which reads as a list. -/
def Ats {α : Type} (w : World) (k : Nat) (f : α → List Value) (vs : List SV) (ll : List (List α)) : Prop :=
  vs.length = ll.length ∧ ∀ j (hj : j < vs.length) (hj' : j < ll.length), At w k f (sl (vs[j]'hj)) (ll[j]'hj')
theorem Ats.later {α : Type} {w w' : World} {k : Nat} {f : α → List Value} {vs : List SV} {ll : List (List α)} (h : Ats w k f vs ll) (hb : Below w.heap.size w w') : Ats w' k f vs ll := ⟨h.1, fun j hj hj' => (h.2 j hj hj').later hb⟩
/-- A slice of slices of numbers that reads as p. -/
def PtsAt (w : World) (v : Value) (p : List (List Int)) : Prop := ∃ vs, At w 1 slc v vs ∧ Ats w 1 rowI vs p
theorem PtsAt.later {w w' : World} {v : Value} {p : List (List Int)} (h : PtsAt w v p) (hb : Below w.heap.size w w') : PtsAt w' v p := by
  obtain ⟨vs, h1, h2⟩ := h
  exact ⟨vs, h1.later hb, h2.later hb⟩
theorem PtsAt.nil (w : World) : PtsAt w (.slice none 0 0) [] := ⟨[], At.nil _ _ _, rfl, fun j hj => absurd hj (by simp)⟩
theorem nan_any (x : Int) (w : World) : Calls Try.prog 47 #[.int .i64 x] w fun e w' => e = .returned (.bool false) ∧ Below w.heap.size w w' := by
  go_enter Try.func47, Try.ntmps47
  go_wp2
  go_ret
  exact ⟨rfl, Below.refl _ _⟩
theorem nan64_any (x : Int) (w : World) : Calls Try.prog 39 #[.int .i64 x] w fun e w' => e = .returned (.bool false) ∧ Below w.heap.size w w' := by
  go_enter Try.func39, Try.ntmps39
  go_wp2
  go_ret
  exact ⟨rfl, Below.refl _ _⟩
theorem cmp_any (a b : Int) (w : World) : Calls Try.prog 45 #[.int .i64 a, .int .i64 b] w fun e w' => e = .returned (.int .i64 (cmpI a b)) ∧ Below w.heap.size w w' := by
  have hc : (a < b ∧ cmpI a b = -1) ∨ (¬ a < b ∧ b < a ∧ cmpI a b = 1) ∨ (¬ a < b ∧ ¬ b < a ∧ cmpI a b = 0) := by
    unfold cmpI; repeat' split
    all_goals omega
  rcases hc with ⟨h1, e⟩ | ⟨h1, h2, e⟩ | ⟨h1, h2, e⟩
  all_goals
    rw [e]
    go_enter Try.func45, Try.ntmps45
    go_wp2_with (go_at_call 47; ((with_reducible refine (nan_any _ _).mono ?_); rintro e w1 ⟨rfl, b1⟩; have K := Lib.hid b1; clear b1; go_wp2_with (go_at_call 47; ((with_reducible refine (nan_any _ _).mono ?_); rintro e w2 ⟨rfl, b2⟩; replace K := Lib.hid (bt K.out b2); clear b2))))
    go_ret
    exact ⟨rfl, K.out⟩
theorem cmp64_any (a b : Int) (w : World) : Calls Try.prog 30 #[.int .i64 a, .int .i64 b] w fun e w' => e = .returned (.int .i64 (cmpI a b)) ∧ Below w.heap.size w w' := by
  have hc : (a < b ∧ cmpI a b = -1) ∨ (¬ a < b ∧ b < a ∧ cmpI a b = 1) ∨ (¬ a < b ∧ ¬ b < a ∧ cmpI a b = 0) := by
    unfold cmpI; repeat' split
    all_goals omega
  rcases hc with ⟨h1, e⟩ | ⟨h1, h2, e⟩ | ⟨h1, h2, e⟩
  all_goals
    rw [e]
    go_enter Try.func30, Try.ntmps30
    go_wp2_with (go_at_call 39; ((with_reducible refine (nan64_any _ _).mono ?_); rintro e w1 ⟨rfl, b1⟩; have K := Lib.hid b1; clear b1; go_wp2_with (go_at_call 39; ((with_reducible refine (nan64_any _ _).mono ?_); rintro e w2 ⟨rfl, b2⟩; replace K := Lib.hid (bt K.out b2); clear b2))))
    go_ret
    exact ⟨rfl, K.out⟩
set_option maxHeartbeats 1000000 in
theorem ordL_any (v1 v2 : Value) (p q : List Int) (w : World) (h1 : At w 1 rowI v1 p) (h2 : At w 1 rowI v2 q) :
    Calls Try.prog 38 #[v1, v2] w fun e w' => e = .returned (.int .i64 (ordL p q)) ∧ Below w.heap.size w w' := by
  obtain ⟨A, c, rfl, a1, a2, _⟩ := h1.shape
  obtain ⟨B, d, rfl, d1, d2, _⟩ := h2.shape
  have m1 : p.length ≤ 9223372036854775807 := by unfold maxLen at a2; omega
  have m2 : q.length ≤ 9223372036854775807 := by unfold maxLen at d2; omega
  have H := Lib.hid (And.intro h1 h2); clear h1 h2
  go_enter Try.func38, Try.ntmps38
  go_wp2
  go_loopw [11] (fun i wr => ∃ k : Nat, k ≤ p.length ∧ i = .int .i64 k ∧ k ≤ q.length ∧ (∀ j (hj : j < p.length) (hj' : j < q.length), j < k → cmpI (p[j]'hj) (q[j]'hj') = 0) ∧ Below w.heap.size w wr) (fun i _ => p.length - (intOf i).toNat)
  case atStart => exact ⟨0, Nat.zero_le _, rfl, Nat.zero_le _, fun j hj hj' h => by omega, Below.refl _ _⟩
  case round =>
    obtain ⟨k, hk, rfl, hkq, hall, hb⟩ := hrel
    by_cases hlt : k < p.length
    · obtain ⟨a, rfl, hc⟩ := H.out.1.cells rfl (by omega)
      have x0 := (hc.later hb).row1 k hlt rfl
      rw [Nat.mul_one] at x0
      by_cases hq : k < q.length
      · obtain ⟨a2, rfl, hc2⟩ := H.out.2.cells rfl (by omega)
        have y0 := (hc2.later hb).row1 k hq rfl
        rw [Nat.mul_one] at y0
        have hA := lex_at c3I p q k hlt hq (fun j h1 h2 h3 => hall j h1 h2 h3)
        have hall' : cmpI (p[k]'hlt) (q[k]'hq) = 0 → ∀ j (hj : j < p.length) (hj' : j < q.length), j < k + 1 → cmpI (p[j]'hj) (q[j]'hj') = 0 := fun h j hj hj' hlt' => by
          rcases Nat.lt_succ_iff_lt_or_eq.1 hlt' with h2 | rfl
          · exact hall j hj hj' h2
          · exact h
        generalize p[k]'hlt = x at *
        generalize q[k]'hq = y at *
        by_cases h0 : cmpI x y = 0
        · have cC : ∀ W, Calls Try.prog 45 #[.int .i64 x, .int .i64 y] W fun e w' => e = .returned (.int .i64 0) ∧ Below W.heap.size W w' := fun W => by have := cmp_any x y W; rwa [h0] at this
          have K := Lib.hid (And.intro cC (And.intro (hall' h0) hb)); clear cC hall hall' hb hA hc hc2 h0
          go_wp2_with (go_at_call 45; ((with_reducible refine (K.out.1 _).mono ?_); rintro e w1 ⟨rfl, b1⟩; have M := Lib.hid b1; clear b1))
          go_roundw
          case rel => exact ⟨k + 1, by omega, by go_num, by omega, K.out.2.1, bt K.out.2.2 M.out⟩
          case measure => simp [intOf]; omega
        · have hE : ordL p q = cmpI x y := hA h0
          obtain ⟨z, hz⟩ : ∃ z, z = cmpI x y := ⟨_, rfl⟩
          have cC : ∀ W, Calls Try.prog 45 #[.int .i64 x, .int .i64 y] W fun e w' => e = .returned (.int .i64 z) ∧ Below W.heap.size W w' := fun W => by rw [hz]; exact cmp_any x y W
          rw [← hz] at h0 hE
          have h0' : (z == 0) = false := by simpa using h0
          have K := Lib.hid (And.intro cC (And.intro hE hb)); clear cC hall hall' hb hA hc hc2 hE hz
          go_wp2_with (go_at_call 45; ((with_reducible refine (K.out.1 _).mono ?_); rintro e w1 ⟨rfl, b1⟩; have M := Lib.hid b1; clear b1))
          go_ret
          exact ⟨retI K.out.2.1.symm, bt K.out.2.2 M.out⟩
      · have hE : ordL p q = 1 := by
          have := lex_end (c := cmpI) p q (fun j h1 h2 => hall j h1 h2 (by omega))
          unfold ordL; rw [this, if_neg (by omega), if_pos (by omega)]
        obtain rfl : k = q.length := by omega
        have K := Lib.hid (And.intro hE hb); clear hE hall hb hc
        go_wp2
        go_ret
        exact ⟨retI K.out.1.symm, K.out.2⟩
    · have hE : ordL p q = if p.length < q.length then -1 else 0 := by
        have := lex_end (c := cmpI) p q (fun j h1 h2 => hall j h1 h2 (by omega))
        unfold ordL; rw [this]
        by_cases h : p.length < q.length
        · rw [if_pos h, if_pos h]
        · rw [if_neg h, if_neg h, if_neg (by omega)]
      by_cases h : p.length < q.length
      · rw [if_pos h] at hE
        have K := Lib.hid (And.intro hE hb); clear hE hall hb
        go_wp2
        go_ret
        exact ⟨retI K.out.1.symm, K.out.2⟩
      · rw [if_neg h] at hE
        have K := Lib.hid (And.intro hE hb); clear hE hall hb
        go_wp2
        go_ret
        exact ⟨retI K.out.1.symm, K.out.2⟩
set_option maxHeartbeats 1000000 in
theorem ordF_any (v1 v2 : Value) (p q : List (List Int)) (w : World) (h1 : PtsAt w v1 p) (h2 : PtsAt w v2 q) :
    Calls Try.prog 37 #[v1, v2, .func (.func 38) #[] #[]] w fun e w' => e = .returned (.int .i64 (ordP p q)) ∧ Below w.heap.size w w' := by
  obtain ⟨vs, h1, e1, g1⟩ := h1
  obtain ⟨us, h2, e2, g2⟩ := h2
  obtain ⟨A, c, rfl, a1, a2, _⟩ := h1.shape
  obtain ⟨B, d, rfl, d1, d2, _⟩ := h2.shape
  have m1 : vs.length ≤ 9223372036854775807 := by unfold maxLen at a2; omega
  have m2 : us.length ≤ 9223372036854775807 := by unfold maxLen at d2; omega
  have H := Lib.hid (And.intro h1 (And.intro h2 (And.intro g1 (And.intro g2 (And.intro e1 e2))))); clear h1 h2 g1 g2 e1 e2
  go_enter Try.func37, Try.ntmps37
  go_wp2
  go_loopw [13] (fun i wr => ∃ k : Nat, k ≤ vs.length ∧ i = .int .i64 k ∧ k ≤ us.length ∧ (∀ j (hj : j < p.length) (hj' : j < q.length), j < k → ordL (p[j]'hj) (q[j]'hj') = 0) ∧ Below w.heap.size w wr) (fun i _ => vs.length - (intOf i).toNat)
  case atStart => exact ⟨0, Nat.zero_le _, rfl, Nat.zero_le _, fun j hj hj' h => by omega, Below.refl _ _⟩
  case round =>
    obtain ⟨k, hk, rfl, hkq, hall, hb⟩ := hrel
    by_cases hlt : k < vs.length
    · obtain ⟨a, rfl, hc⟩ := H.out.1.cells rfl (by omega)
      have x0 := (hc.later hb).row1 k hlt rfl
      rw [Nat.mul_one] at x0
      have hlp : k < p.length := by rw [← H.out.2.2.2.2.1]; exact hlt
      have gx := H.out.2.2.1 k hlt hlp
      by_cases hq : k < us.length
      · obtain ⟨a2, rfl, hc2⟩ := H.out.2.1.cells rfl (by omega)
        have y0 := (hc2.later hb).row1 k hq rfl
        rw [Nat.mul_one] at y0
        have hlq : k < q.length := by rw [← H.out.2.2.2.2.2]; exact hq
        have gy := H.out.2.2.2.1 k hq hlq
        have hA := lex_at (c3L c3I) p q k hlp hlq (fun j h1 h2 h3 => hall j h1 h2 h3)
        have hall' : ordL (p[k]'hlp) (q[k]'hlq) = 0 → ∀ j (hj : j < p.length) (hj' : j < q.length), j < k + 1 → ordL (p[j]'hj) (q[j]'hj') = 0 := fun h j hj hj' hlt' => by
          rcases Nat.lt_succ_iff_lt_or_eq.1 hlt' with h2 | rfl
          · exact hall j hj hj' h2
          · exact h
        have cC : ∀ W, Below w.heap.size w W → Calls Try.prog 38 #[sl (vs[k]'hlt), sl (us[k]'hq)] W fun e w' => e = .returned (.int .i64 (ordL (p[k]'hlp) (q[k]'hlq))) ∧ Below W.heap.size W w' := fun W hW => ordL_any _ _ _ _ W (gx.later hW) (gy.later hW)
        change wr.cell? (a.add k) = some (sl (vs[k]'hlt)) at x0
        change wr.cell? (a2.add k) = some (sl (us[k]'hq)) at y0
        generalize p[k]'hlp = x at *
        generalize q[k]'hlq = y at *
        generalize vs[k]'hlt = s at *
        generalize us[k]'hq = t at *
        obtain ⟨sA, sn, sc⟩ := s
        obtain ⟨tA, tn, tc⟩ := t
        change wr.cell? (a.add k) = some (.slice sA sn sc) at x0
        change wr.cell? (a2.add k) = some (.slice tA tn tc) at y0
        by_cases h0 : ordL x y = 0
        · rw [h0] at cC
          have K := Lib.hid (And.intro (cC wr hb) (And.intro (hall' h0) hb)); clear cC hall hall' hb hA hc hc2 h0 gx gy
          go_wp2_with (go_at_call 38; ((with_reducible refine (K.out.1).mono ?_); rintro e w1 ⟨rfl, b1⟩; have M := Lib.hid b1; clear b1))
          go_roundw
          case rel => exact ⟨k + 1, by omega, by go_num, by omega, K.out.2.1, bt K.out.2.2 M.out⟩
          case measure => simp [intOf]; omega
        · have hE : ordP p q = ordL x y := hA h0
          obtain ⟨z, hz⟩ : ∃ z, z = ordL x y := ⟨_, rfl⟩
          rw [← hz] at h0 hE cC
          have h0' : (z == 0) = false := by simpa using h0
          have K := Lib.hid (And.intro (cC wr hb) (And.intro hE hb)); clear cC hall hall' hb hA hc hc2 hE hz gx gy
          go_wp2_with (go_at_call 38; ((with_reducible refine (K.out.1).mono ?_); rintro e w1 ⟨rfl, b1⟩; have M := Lib.hid b1; clear b1))
          go_ret
          exact ⟨retI K.out.2.1.symm, bt K.out.2.2 M.out⟩
      · have hE : ordP p q = 1 := by
          have := lex_end (c := ordL) p q (fun j h1 h2 => hall j h1 h2 (by have := H.out.2.2.2.2; omega))
          have e := H.out.2.2.2.2
          unfold ordP; rw [this, if_neg (by omega), if_pos (by omega)]
        obtain rfl : k = us.length := by omega
        clear gx
        have y1 : wr.cell? (a.add us.length) = some (sl (vs[us.length]'hlt)) := x0
        generalize vs[us.length]'hlt = s at *
        obtain ⟨sA, sn, sc⟩ := s
        change wr.cell? (a.add us.length) = some (.slice sA sn sc) at x0
        have K := Lib.hid (And.intro hE hb); clear hE hall hb hc y1
        go_wp2
        go_ret
        exact ⟨retI K.out.1.symm, K.out.2⟩
    · have hE : ordP p q = if vs.length < us.length then -1 else 0 := by
        have e := H.out.2.2.2.2
        have := lex_end (c := ordL) p q (fun j h1 h2 => hall j h1 h2 (by omega))
        unfold ordP; rw [this, e.1, e.2]
        by_cases h : p.length < q.length
        · rw [if_pos h, if_pos h]
        · rw [if_neg h, if_neg h, if_neg (by omega)]
      by_cases h : vs.length < us.length
      · rw [if_pos h] at hE
        have K := Lib.hid (And.intro hE hb); clear hE hall hb
        go_wp2
        go_ret
        exact ⟨retI K.out.1.symm, K.out.2⟩
      · rw [if_neg h] at hE
        have K := Lib.hid (And.intro hE hb); clear hE hall hb
        go_wp2
        go_ret
        exact ⟨retI K.out.1.symm, K.out.2⟩
theorem order_any (v1 v2 : Value) (p q : List (List Int)) (w : World) (h1 : PtsAt w v1 p) (h2 : PtsAt w v2 q) :
    Calls Try.prog 26 #[v1, v2] w fun e w' => e = .returned (.int .i64 (ordP p q)) ∧ Below w.heap.size w w' := by
  have cF := ordF_any v1 v2 p q w h1 h2
  obtain ⟨_, h1, _⟩ := h1
  obtain ⟨_, h2, _⟩ := h2
  obtain ⟨A, c, rfl, _⟩ := h1.shape
  obtain ⟨B, d, rfl, _⟩ := h2.shape
  clear h1 h2
  have H := Lib.hid cF; clear cF
  go_enter Try.func26, Try.ntmps26
  go_wp2_with (go_at_call 37; ((with_reducible refine (H.out).mono ?_); rintro e w1 ⟨rfl, b1⟩; have M := Lib.hid b1; clear b1))
  go_ret
  exact ⟨rfl, M.out⟩
end Go.Proofs.Yticjfhagpmlieaa
