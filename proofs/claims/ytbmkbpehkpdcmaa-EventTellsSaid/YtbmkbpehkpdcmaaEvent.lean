/- Contracts of package event: what is plain, what is the same. -/
import Derived.Test.YtbmkbpehkpdcmaaMem
import Derived.Test.YtbmkbpehkpdcmaaValR
import Derived.Test.YtbmkbpehkpdcmaaNum40
import Derived.BigQuiet
namespace Go.Proofs.Ytbmkbpehkpdcmaa
open Go.ChangeShapes Go.WideShapes Go.ChangeAt Go.RowKit
open Ev (V3 rightV OkV)
set_option linter.unusedVariables false
set_option linter.unusedSimpArgs false

/-- A slice of values that reads as l. -/
def ValsAt (w : World) (v : Value) (l : List V3) : Prop :=
  ∃ (A : Option Addr) (cap : Nat), v = .slice A l.length cap ∧ l.length ≤ cap ∧ cap ≤ maxLen ∧
    (0 < l.length → ∃ a, A = some a ∧ ∀ j (hj : j < l.length), Row3 w (a.add (j * 3)) (.int .i64 (l[j]'hj).1) (.int .i64 (l[j]'hj).2.1) (.string (l[j]'hj).2.2))
theorem ValsAt.later {w w' : World} {v : Value} {l : List V3} (h : ValsAt w v l) (hb : Below w.heap.size w w') : ValsAt w' v l := by
  obtain ⟨A, cap, rfl, h1, h2, h3⟩ := h
  refine ⟨A, cap, rfl, h1, h2, fun h0 => ?_⟩
  obtain ⟨a, rfl, h4⟩ := h3 h0
  exact ⟨a, rfl, fun j hj => (h4 j hj).later hb⟩
theorem ValsAt.nil (w : World) : ValsAt w (.slice none 0 0) [] := ⟨none, 0, rfl, Nat.le_refl _, Nat.zero_le _, fun h => absurd h (by simp)⟩

theorem all_take {l : List V3} {k : Nat} (h : k < l.length) (h1 : (l.take k).all rightV = true) (h2 : rightV (l[k]'h) = true) : (l.take (k + 1)).all rightV = true := by
  rw [List.take_succ_eq_append_getElem h, List.all_append, h1]; simp [h2]
theorem all_not {l : List V3} {k : Nat} (h : k < l.length) (h2 : rightV (l[k]'h) = false) : l.all rightV = false := by
  rw [List.all_eq_false]; exact ⟨_, List.getElem_mem h, by simp [h2]⟩
theorem every_any (v : Value) (l : List V3) (w : World) (hv : ValsAt w v l) (hs : ∀ x ∈ l, x.2.2.size ≤ maxLen) :
    Calls Try.prog 34 #[v, .func (.func 35) #[] #[]] w fun e w' => e = .returned (.bool (l.all rightV)) ∧ Below w.heap.size w w' := by
  obtain ⟨A, cap, rfl, h1, h2, h3⟩ := hv
  have hm : l.length ≤ 9223372036854775807 := by unfold maxLen at h2; omega
  have H := Lib.hid (And.intro h3 hs); clear h3 hs
  go_enter Try.func34, Try.ntmps34
  go_wp2
  go_loopw [9] (fun i wr => ∃ k : Nat, k ≤ l.length ∧ i = .int .i64 k ∧ (l.take k).all rightV = true ∧ Below w.heap.size w wr) (fun i _ => l.length - (intOf i).toNat)
  case atStart => exact ⟨0, Nat.zero_le _, rfl, rfl, Below.refl _ _⟩
  case round =>
    obtain ⟨k, hk, rfl, hall, hb⟩ := hrel
    have HK := Lib.hid (And.intro hall hb); clear hall hb
    by_cases hlt : k < l.length
    · obtain ⟨a, rfl, hc⟩ := H.out.1 (by omega)
      have hk3 := (hc k hlt).later HK.out.2
      obtain ⟨c0, c1, c2⟩ := hk3
      have cR := fun w => Right_any (l[k]'hlt).1 (l[k]'hlt).2.1 (l[k]'hlt).2.2 w (H.out.2 _ (List.getElem_mem hlt))
      have h1' : Val.right (l[k]'hlt).1 (l[k]'hlt).2.1 (l[k]'hlt).2.2 = true → (l.take (k + 1)).all rightV = true := fun h => all_take hlt HK.out.1 h
      have h0' : Val.right (l[k]'hlt).1 (l[k]'hlt).2.1 (l[k]'hlt).2.2 = false → l.all rightV = false := fun h => all_not (l := l) hlt h
      generalize (l[k]'hlt).1 = x at *
      generalize (l[k]'hlt).2.1 = y at *
      generalize (l[k]'hlt).2.2 = z at *
      clear hc
      rcases hr : Val.right x y z with _ | _
      · rw [hr] at cR
        have hE := h0' hr
        have HC := Lib.hid (And.intro cR hE); clear cR hr h0' h1' hE
        go_wp2_with (go_at_call 35; ((with_reducible refine (HC.out.1 _).mono ?_); rintro e w1 ⟨rfl, b1⟩))
        go_ret
        exact ⟨by rw [HC.out.2]; rfl, bt HK.out.2 (bt (ba _ _) b1)⟩
      · rw [hr] at cR
        have hE := h1' hr
        have HC := Lib.hid (And.intro cR hE); clear cR hr h0' h1' hE
        go_wp2_with (go_at_call 35; ((with_reducible refine (HC.out.1 _).mono ?_); rintro e w1 ⟨rfl, b1⟩))
        go_roundw
        case rel => exact ⟨k + 1, by omega, by go_num, HC.out.2, bt HK.out.2 (bt (ba _ _) b1)⟩
        case measure => simp [intOf]; omega
    · have hE : l.all rightV = true := by have := HK.out.1; rwa [List.take_of_length_le (by omega)] at this
      have HE := Lib.hid hE; clear hE
      go_wp2
      go_ret
      exact ⟨by rw [HE.out]; rfl, HK.out.2⟩

/-- An event, as the program has it. -/
abbrev ev (t : Int) (v : Value) : Value := .agg #[.int .i64 t, v]
theorem Plain_any (t : Int) (v : Value) (l : List V3) (w : World) (hv : ValsAt w v l) (hs : ∀ x ∈ l, x.2.2.size ≤ maxLen) :
    Calls Try.prog 20 #[ev t v] w fun e w' => e = .returned (.bool (Ev.plain t l)) ∧ Below w.heap.size w w' := by
  have cE := fun w' (h : ValsAt w' v l) => every_any v l w' h hs
  have hp : Ev.plain t l = (decide (0 ≤ t) && decide (t ≤ 2305843009213693952) && decide (l.length ≤ 6) && l.all rightV) := rfl
  have hv' := hv.later (ba w (.cells #[.int .i64 t, v] 24))
  obtain ⟨A, cap, rfl, h1, h2, h3⟩ := hv
  have hm : l.length ≤ 9223372036854775807 := by unfold maxLen at h2; omega
  rw [hp]
  have H := Lib.hid (And.intro cE hv'); clear cE h3 hp hv' hs
  generalize l.all rightV = b at *
  rcases (by omega : ¬ 0 ≤ t ∨ (0 ≤ t ∧ ¬ t ≤ 2305843009213693952) ∨ (0 ≤ t ∧ t ≤ 2305843009213693952 ∧ ¬ l.length ≤ 6) ∨ (0 ≤ t ∧ t ≤ 2305843009213693952 ∧ l.length ≤ 6)) with h | ⟨ha, h⟩ | ⟨ha, hb, h⟩ | ⟨ha, hb, h⟩
  · rw [decide_eq_false h]
    go_enter Try.func20, Try.ntmps20
    go_wp2
    go_ret
    exact ⟨by simp, ba _ _⟩
  · rw [decide_eq_true ha, decide_eq_false h]
    go_enter Try.func20, Try.ntmps20
    go_wp2
    go_ret
    exact ⟨by simp, ba _ _⟩
  · rw [decide_eq_true ha, decide_eq_true hb, decide_eq_false h]
    go_enter Try.func20, Try.ntmps20
    go_wp2
    go_ret
    exact ⟨by simp, ba _ _⟩
  · rw [decide_eq_true ha, decide_eq_true hb, decide_eq_true h]
    go_enter Try.func20, Try.ntmps20
    go_wp2_with (go_at_call 34; ((with_reducible refine (H.out.1 _ H.out.2).mono ?_); rintro e w1 ⟨rfl, b1⟩))
    go_ret
    exact ⟨by simp, bt (ba _ _) b1⟩

end Go.Proofs.Ytbmkbpehkpdcmaa
