/- Contracts of package value: orders. -/
import Derived.Test.YtjddfjapopdciaaValR
import Derived.Test.YtjddfjapopdciaaLift
import Derived.WalkLawsBesides
namespace Go.Proofs.Ytjddfjapopdciaa
open Go.ChangeShapes Go.WideShapes Go.ChangeAt Go.RowKit
open Num (zig zag)
set_option linter.unusedVariables false
set_option linter.unusedSimpArgs false

theorem isNaN_s (s : ByteArray) (w : World) : Calls Try.prog 87 #[.string s] w fun e w' => e = .returned (.bool false) ∧ w = w' := by
  go_enter Try.func87, Try.ntmps87
  go_wp2
  go_ret
  exact ⟨retB (by simp), rfl⟩
theorem isNaN_i (n : Int) (w : World) : Calls Try.prog 88 #[.int .i64 n] w fun e w' => e = .returned (.bool false) ∧ w = w' := by
  go_enter Try.func88, Try.ntmps88
  go_wp2
  go_ret
  exact ⟨retB (by simp), rfl⟩
theorem Compare_s (s t : ByteArray) (w : World) : Calls Try.prog 84 #[.string s, .string t] w fun e w' => e = .returned (.int .i64 (Val.cmpS s t)) ∧ w = w' := by
  rcases hl : Op.bytesLess s.toList t.toList with _ | _ <;> rcases hg : (s.toList == t.toList) with _ | _
  all_goals
    have H := Lib.hid (And.intro hl hg)
    go_enter Try.func84, Try.ntmps84
    go_wp2_with (go_at_call 87; ((with_reducible refine (isNaN_s _ _).mono ?_); rintro e w' ⟨rfl, rfl⟩))
    go_ret
    exact ⟨ret_int (by unfold Val.cmpS; rw [H.out.1, H.out.2]; rfl), rfl⟩
theorem Compare_i (n m : Int) (w : World) : Calls Try.prog 85 #[.int .i64 n, .int .i64 m] w fun e w' => e = .returned (.int .i64 (Val.cmpI n m)) ∧ w = w' := by
  rcases (by omega : n < m ∨ m < n ∨ n = m) with h | h | rfl
  all_goals
    go_enter Try.func85, Try.ntmps85
    go_wp2_with (go_at_call 88; ((with_reducible refine (isNaN_i _ _).mono ?_); rintro e w' ⟨rfl, rfl⟩))
    go_ret
    refine ⟨ret_int ?_, rfl⟩
    unfold Val.cmpI
    first | (rw [if_pos h]; done) | (rw [if_neg (by omega), if_pos h]; done) | (rw [if_neg (by omega), if_neg (by omega)])

/-- What Order answers. -/
def orderV (k n : Int) (s : ByteArray) (l m : Int) (t : ByteArray) : Value :=
  if Val.right k n s = true ∧ Val.right l m t = true ∧ k = l then .tuple #[.int .i64 (if k = 3 then Val.cmpS s t else Val.cmpI n m), .bool true] else .tuple #[.int .i64 0, .bool false]

theorem orderV_no {k n : Int} {s : ByteArray} {l m : Int} {t : ByteArray} (h : Val.right k n s = false ∨ Val.right l m t = false ∨ k ≠ l) : orderV k n s l m t = .tuple #[.int .i64 0, .bool false] := by
  unfold orderV; rw [if_neg]
  rintro ⟨h1, h2, h3⟩
  rcases h with h | h | h
  · rw [h] at h1; exact absurd h1 (by simp)
  · rw [h] at h2; exact absurd h2 (by simp)
  · exact h h3
theorem orderV_text {n : Int} {s : ByteArray} {m : Int} {t : ByteArray} (h1 : Val.right 3 n s = true) (h2 : Val.right 3 m t = true) : orderV 3 n s 3 m t = .tuple #[.int .i64 (Val.cmpS s t), .bool true] := by
  unfold orderV; rw [if_pos ⟨h1, h2, rfl⟩, if_pos rfl]
theorem orderV_num {k n : Int} {s : ByteArray} {m : Int} {t : ByteArray} (h1 : Val.right k n s = true) (h2 : Val.right k m t = true) (h3 : k ≠ 3) : orderV k n s k m t = .tuple #[.int .i64 (Val.cmpI n m), .bool true] := by
  unfold orderV; rw [if_pos ⟨h1, h2, rfl⟩, if_neg h3]

set_option maxRecDepth 20000 in
theorem Order_any (k n : Int) (s : ByteArray) (l m : Int) (t : ByteArray) (w : World) (hs : s.size ≤ maxLen) (ht : t.size ≤ maxLen) :
    Calls Try.prog 82 #[vv k n s, vv l m t] w fun e w' => e = .returned (orderV k n s l m t) ∧ Below w.heap.size w w' := by
  have cR := fun w => Right_any k n s w hs
  have cT := fun w => Right_any l m t w ht
  have hb0 : Below w.heap.size w ((w.alloc (.cells #[.int .i64 k, .int .i64 n, .string s] 23)).alloc (.cells #[.int .i64 l, .int .i64 m, .string t] 23)) := ((Below.refl _ _).alloc (Nat.le_refl _) _).alloc (by simp) _
  rcases hr : Val.right k n s with _ | _
  · have E := Lib.hid (orderV_no (k := k) (n := n) (s := s) (l := l) (m := m) (t := t) (Or.inl hr))
    rw [hr] at cR
    have H := Lib.hid cR; clear cR cT hr
    go_enter Try.func82, Try.ntmps82
    go_wp2_with (go_at_call 68; ((with_reducible refine (H.out _).mono ?_); rintro e w1 ⟨rfl, b1⟩))
    go_ret2
    rw [E.out]
    exact ⟨rfl, bt hb0 b1⟩
  · rcases hq : Val.right l m t with _ | _
    · have E := Lib.hid (orderV_no (k := k) (n := n) (s := s) (l := l) (m := m) (t := t) (Or.inr (Or.inl hq)))
      rw [hr] at cR
      rw [hq] at cT
      have H := Lib.hid cR
      have H' := Lib.hid cT; clear cR cT hr hq
      go_enter Try.func82, Try.ntmps82
      go_wp2_with fail
      go_at_call 68
      ((with_reducible refine (H.out _).mono ?_); rintro e w1 ⟨rfl, b1⟩)
      obtain ⟨hc1, hf1⟩ := bcell b1
      go_wp2_with fail
      go_at_call 68
      ((with_reducible refine (H'.out _).mono ?_); rintro e w2 ⟨rfl, b2⟩)
      go_wp2_with fail
      go_ret2
      rw [E.out]
      exact ⟨rfl, bt hb0 (bt b1 b2)⟩
    · by_cases hkl : k = l
      · subst hkl
        by_cases h3 : k = 3
        · subst h3
          have E := Lib.hid (orderV_text hr hq)
          rw [hr] at cR
          rw [hq] at cT
          have H := Lib.hid cR
          have H' := Lib.hid cT; clear cR cT hr hq
          go_enter Try.func82, Try.ntmps82
          go_wp2_with fail
          go_at_call 68
          ((with_reducible refine (H.out _).mono ?_); rintro e w1 ⟨rfl, b1⟩)
          obtain ⟨hc1, hf1⟩ := bcell b1
          go_wp2_with fail
          go_at_call 68
          ((with_reducible refine (H'.out _).mono ?_); rintro e w2 ⟨rfl, b2⟩)
          have b12 := bt b1 b2
          obtain ⟨hc2, hf2⟩ := bcell b12
          go_wp2_with (go_at_call 84; ((with_reducible refine (Compare_s _ _ _).mono ?_); rintro e w3 ⟨rfl, rfl⟩))
          go_ret2
          rw [E.out]
          exact ⟨rfl, bt hb0 (bt b1 b2)⟩
        · have E := Lib.hid (orderV_num hr hq h3)
          rw [hr] at cR
          rw [hq] at cT
          have H := Lib.hid cR
          have H' := Lib.hid cT; clear cR cT hr hq
          go_enter Try.func82, Try.ntmps82
          go_wp2_with fail
          go_at_call 68
          ((with_reducible refine (H.out _).mono ?_); rintro e w1 ⟨rfl, b1⟩)
          obtain ⟨hc1, hf1⟩ := bcell b1
          go_wp2_with fail
          go_at_call 68
          ((with_reducible refine (H'.out _).mono ?_); rintro e w2 ⟨rfl, b2⟩)
          have b12 := bt b1 b2
          obtain ⟨hc2, hf2⟩ := bcell b12
          go_wp2_with (go_at_call 85; ((with_reducible refine (Compare_i _ _ _).mono ?_); rintro e w3 ⟨rfl, rfl⟩))
          go_ret2
          rw [E.out]
          exact ⟨rfl, bt hb0 (bt b1 b2)⟩
      · have E := Lib.hid (orderV_no (n := n) (s := s) (m := m) (t := t) (Or.inr (Or.inr hkl)))
        rw [hr] at cR
        rw [hq] at cT
        have H := Lib.hid cR
        have H' := Lib.hid cT; clear cR cT hr hq
        go_enter Try.func82, Try.ntmps82
        go_wp2_with fail
        go_at_call 68
        ((with_reducible refine (H.out _).mono ?_); rintro e w1 ⟨rfl, b1⟩)
        obtain ⟨hc1, hf1⟩ := bcell b1
        go_wp2_with fail
        go_at_call 68
        ((with_reducible refine (H'.out _).mono ?_); rintro e w2 ⟨rfl, b2⟩)
        have b12 := bt b1 b2
        obtain ⟨hc2, hf2⟩ := bcell b12
        go_wp2_with fail
        go_ret2
        rw [E.out]
        exact ⟨rfl, bt hb0 (bt b1 b2)⟩
end Go.Proofs.Ytjddfjapopdciaa
