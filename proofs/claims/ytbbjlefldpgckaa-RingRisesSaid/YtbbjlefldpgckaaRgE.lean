/- Contracts of package event alone that a ring wants: Same, Right, SameItem (as XEventP, XEventI have them; there a seat wants all of package event). -/
import Derived.Test.YtbbjlefldpgckaaEventE
import Derived.Test.YtbbjlefldpgckaaBlk
namespace Go.Proofs.Ytbbjlefldpgckaa
open Go.ChangeShapes Go.WideShapes Go.ChangeAt Go.RowKit
open Ev (V3 rightV OkV)
set_option linter.unusedVariables false
set_option linter.unusedSimpArgs false

theorem Same_any (t : Int) (v : Value) (l : List V3) (t' : Int) (v' : Value) (l' : List V3) (w : World) (hv : ValsAt w v l) (hv' : ValsAt w v' l') :
    Calls Try.prog 47 #[ev t v, ev t' v'] w fun e w' => e = .returned (.bool (decide (t = t') && decide (l = l'))) ∧ Below w.heap.size w w' := by
  have bA : Below w.heap.size w ((w.alloc (.cells #[.int .i64 t, v] 35)).alloc (.cells #[.int .i64 t', v'] 35)) := bt (ba _ _) (ba _ _)
  have cE := fun (w0 : World) (b : Below w.heap.size w w0) => Equal_any v l v' l' w0 (hv.later b) (hv'.later b)
  have HE := Lib.hid cE; clear cE hv hv'
  generalize decide (l = l') = q at *
  by_cases h : t = t'
  · subst h
    rw [decide_eq_true rfl]
    go_enter Try.func47, Try.ntmps47
    go_wp2_with (go_at_call 56; ((with_reducible refine (HE.out _ bA).mono ?_); rintro e w1 ⟨rfl, b1⟩))
    go_ret
    exact ⟨by simp, bt bA b1⟩
  · rw [decide_eq_false h]
    go_enter Try.func47, Try.ntmps47
    go_wp2
    go_ret
    exact ⟨by simp, bA⟩

/-- An item, as the program has it. -/
abbrev item (m : Bool) (t : Int) (v : Value) : Value := .agg #[.bool m, .int .i64 t, v]

theorem Right_i (m : Bool) (t : Int) (v : Value) (l : List V3) (w : World) (hv : ValsAt w v l) (hs : ∀ x ∈ l, x.2.2.size ≤ maxLen) :
    Calls Try.prog 43 #[item m t v] w fun e w' => e = .returned (.bool (Ev.rightI m t l)) ∧ Below w.heap.size w w' := by
  have bA := ba w (.cells #[.bool m, .int .i64 t, v] 37)
  have cP := fun (w0 : World) (b : Below w.heap.size w w0) => Plain_any t v l w0 (hv.later b) hs
  have B0 := Box3.new w (.bool m) (.int .i64 t) v 37
  obtain ⟨A, cap, rfl, h1, h2, h3⟩ := hv
  have hm : l.length ≤ 9223372036854775807 := by unfold maxLen at h2; omega
  have H := Lib.hid (And.intro cP B0); clear cP B0 h3 hs
  have hr : Ev.rightI m t l = (Ev.plain t l && (!m || decide (l.length = 0))) := rfl
  rw [hr]; clear hr
  generalize Ev.plain t l = p at *
  cases p
  · go_enter Try.func43, Try.ntmps43
    go_wp2_with (go_at_call 53; ((with_reducible refine (H.out.1 _ bA).mono ?_); rintro e w1 ⟨rfl, b1⟩; obtain ⟨c0, c1, c2⟩ := H.out.2.later b1))
    go_ret
    exact ⟨by simp, bt bA b1⟩
  · cases m
    · go_enter Try.func43, Try.ntmps43
      go_wp2_with (go_at_call 53; ((with_reducible refine (H.out.1 _ bA).mono ?_); rintro e w1 ⟨rfl, b1⟩; obtain ⟨c0, c1, c2⟩ := H.out.2.later b1))
      go_ret
      exact ⟨by simp, bt bA b1⟩
    · go_enter Try.func43, Try.ntmps43
      go_wp2_with (go_at_call 53; ((with_reducible refine (H.out.1 _ bA).mono ?_); rintro e w1 ⟨rfl, b1⟩; obtain ⟨c0, c1, c2⟩ := H.out.2.later b1))
      go_ret
      have hh : (((l.length : Nat) : Int) == 0) = decide (l.length = 0) := by rw [Bool.eq_iff_iff]; simp
      exact ⟨by simp [hh], bt bA b1⟩

theorem SameItem_any (m : Bool) (t : Int) (v : Value) (l : List V3) (m' : Bool) (t' : Int) (v' : Value) (l' : List V3) (w : World) (hv : ValsAt w v l) (hv' : ValsAt w v' l') :
    Calls Try.prog 18 #[item m t v, item m' t' v'] w fun e w' => e = .returned (.bool (decide (m = m') && (decide (t = t') && decide (l = l')))) ∧ Below w.heap.size w w' := by
  have bA : Below w.heap.size w ((w.alloc (.cells #[.bool m, .int .i64 t, v] 37)).alloc (.cells #[.bool m', .int .i64 t', v'] 37)) := bt (ba _ _) (ba _ _)
  have cS := fun (w0 : World) (b : Below w.heap.size w w0) => Same_any t v l t' v' l' w0 (hv.later b) (hv'.later b)
  have H := Lib.hid cS; clear cS hv hv'
  generalize (decide (t = t') && decide (l = l')) = q at *
  cases m <;> cases m'
  all_goals
    go_enter Try.func18, Try.ntmps18
    go_wp2_with (go_at_call 47; ((with_reducible refine (H.out _ bA).mono ?_); rintro e w1 ⟨rfl, b1⟩; have b2 := bt bA b1))
    go_ret
    first | exact ⟨by simp, b2⟩ | exact ⟨by simp, bA⟩

end Go.Proofs.Ytbbjlefldpgckaa
