/- Contracts of package merge: Pick. -/
import Derived.Test.YtcggkbopipnnoaaHead2
import Derived.Deep.QuietTactic
namespace Go.Proofs.Ytcggkbopipnnoaa
open Go.ChangeShapes Go.WideShapes Go.ChangeAt Go.RowKit
open Mrg (Hd hlt ilt Least PickIs LowIs liveB keyI holdsB IsBest NoneHas)
set_option linter.unusedVariables false
set_option linter.unusedSimpArgs false

theorem holds_cases (x : Bool) (t l : Int) (d : Bool) (j q : Nat) (s : Int) :
    (x = true ∧ holdsB (x, t, l, d) j q s = false) ∨ (x = false ∧ d = true ∧ holdsB (x, t, l, d) j q s = false) ∨ (x = false ∧ d = false ∧ l < s ∧ holdsB (x, t, l, d) j q s = true) ∨
    (x = false ∧ d = false ∧ ¬ l < s ∧ l = s ∧ j < q ∧ holdsB (x, t, l, d) j q s = true) ∨ (x = false ∧ d = false ∧ ¬ l < s ∧ l = s ∧ ¬ j < q ∧ holdsB (x, t, l, d) j q s = false) ∨ (x = false ∧ d = false ∧ ¬ l < s ∧ ¬ l = s ∧ holdsB (x, t, l, d) j q s = false) := by
  unfold holdsB
  cases x <;> cases d <;> simp
  by_cases h1 : l < s
  · simp [h1]
  · by_cases h2 : l = s
    · by_cases h3 : j < q <;> simp [h1, h2, h3] <;> omega
    · simp [h1, h2] <;> omega
set_option maxRecDepth 20000 in
set_option maxHeartbeats 2000000 in
theorem Pick_any (l : List Hd) (v : Value) (w : World) (hv : HeadsAt w v l) :
    Calls Try.prog 12 #[v] w fun e w' => ∃ r : Int, (e = .returned (.int .i64 r) ∧ PickIs l r) ∧ Below w.heap.size w w' := by
  have cL := head_least l v w hv
  have hv' := hv
  obtain ⟨A, cap, rfl, h1, h2, h3⟩ := hv'
  have hm : l.length ≤ 9223372036854775807 := by unfold maxLen at h2; omega
  have H := Lib.hid (And.intro h3 cL); clear h3 cL hv
  go_enter Try.func12, Try.ntmps12
  go_wp2_with fail
  go_at_call 22
  ((with_reducible refine (H.out.2).mono ?_); rintro e w1 ⟨p, ⟨rfl, hL⟩, b1⟩)
  rcases Mrg.least_best hL with ⟨rfl, rfl⟩ | ⟨q, hq, rfl, ⟨hh, hn⟩ | ⟨hh, hB⟩⟩
  · clear hL
    have HE := Lib.hid b1; clear b1
    go_wp2
    go_ret
    exact ⟨-1, ⟨rfl, Or.inl ⟨rfl, fun j hj => absurd hj (by simp)⟩⟩, HE.out⟩
  · clear hL
    obtain ⟨a, rfl, hc⟩ := H.out.1 (by omega)
    obtain ⟨c0, _⟩ := (hc q hq).later b1
    rw [hh] at c0
    have HE := Lib.hid (And.intro b1 hn); clear b1 hn hc hh
    go_wp2
    go_ret
    exact ⟨-1, ⟨rfl, Or.inl ⟨rfl, HE.out.2⟩⟩, HE.out.1⟩
  · clear hL
    obtain ⟨a, rfl, hc⟩ := H.out.1 (by omega)
    obtain ⟨c0, c1, _⟩ := (hc q hq).later b1
    rw [hh] at c0
    have HE := Lib.hid (And.intro b1 (And.intro hB (hc q hq))); clear b1 hB hc hh
    go_wp2_with fail
    clear c0 c1
    go_loopw [20] (fun iv wr => ∃ (k : Nat), k ≤ l.length ∧ iv = .int .i64 k ∧ (∀ j (hj : j < l.length), j < k → holdsB (l[j]'hj) j q (l[q]'hq).2.1 = false) ∧ Below w.heap.size w wr) (fun i _ => l.length - (intOf i).toNat)
    case atStart => exact ⟨0, Nat.zero_le _, rfl, fun j hj h => absurd h (by omega), HE.out.1⟩
    case round =>
      obtain ⟨k, hk, rfl, hN, hb⟩ := hrel
      by_cases hlt : k < l.length
      · obtain ⟨a', ha', hc⟩ := H.out.1 (by omega)
        obtain rfl : a = a' := by simpa using ha'
        have bA := ba wr (.cells #[.bool (l[k]'hlt).1, .int .i64 (l[k]'hlt).2.1, .int .i64 (l[k]'hlt).2.2.1, .bool (l[k]'hlt).2.2.2] 28)
        obtain ⟨c0, c1, c2, c3⟩ := (hc k hlt).later hb
        obtain ⟨_, d1, _⟩ := HE.out.2.2.later (bt hb bA)
        have hn1 : holdsB (l[k]'hlt) k q (l[q]'hq).2.1 = false → ∀ j (hj : j < l.length), j < k + 1 → holdsB (l[j]'hj) j q (l[q]'hq).2.1 = false := fun h j hj hjk => by
          rcases Nat.lt_succ_iff_lt_or_eq.1 hjk with h5 | rfl
          · exact hN j hj h5
          · exact h
        have hn2 : holdsB (l[k]'hlt) k q (l[q]'hq).2.1 = true → PickIs l (-1) := fun h => Or.inr ⟨q, hq, HE.out.2.1, Or.inr ⟨rfl, k, hlt, h⟩⟩
        have hcs := holds_cases (l[k]'hlt).1 (l[k]'hlt).2.1 (l[k]'hlt).2.2.1 (l[k]'hlt).2.2.2 k q (l[q]'hq).2.1
        clear hc ha'
        generalize (l[q]'hq).2.1 = s at *
        generalize l[k]'hlt = hh at *
        obtain ⟨x, t, y, d⟩ := hh
        simp only at c0 c1 c2 c3 d1 hcs bA
        have HO := Lib.hid (And.intro hb (And.intro bA (And.intro hn1 hn2))); clear hb bA hN hn1 hn2
        rcases hcs with ⟨rfl, hB⟩ | ⟨rfl, rfl, hB⟩ | ⟨rfl, rfl, e1, hB⟩ | ⟨rfl, rfl, e1, rfl, e2, hB⟩ | ⟨rfl, rfl, e1, rfl, e2, hB⟩ | ⟨rfl, rfl, e1, e2, hB⟩
        all_goals
          have HB := Lib.hid hB; clear hB
          go_wp2
          try go_quiet (fail)
          go_wp2
          first
            | (go_ret; exact ⟨-1, ⟨rfl, HO.out.2.2.2 HB.out⟩, below_drewN (bt HO.out.1 HO.out.2.1) _⟩)
            | (go_roundw
               case rel => exact ⟨k + 1, by omega, by go_num, HO.out.2.2.1 HB.out, below_drewN (bt HO.out.1 HO.out.2.1) _⟩
               case measure => simp [intOf]; omega)
      · have HO := Lib.hid (And.intro hb (show PickIs l q from Or.inr ⟨q, hq, HE.out.2.1, Or.inl ⟨rfl, fun j hj => hN j hj (by omega)⟩⟩)); clear hb hN
        go_wp2
        go_ret
        exact ⟨_, ⟨rfl, HO.out.2⟩, HO.out.1⟩
end Go.Proofs.Ytcggkbopipnnoaa
