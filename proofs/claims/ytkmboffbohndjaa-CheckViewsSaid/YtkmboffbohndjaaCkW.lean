/- Layer 11: the same events; an event by bytes. -/
import Derived.Test.YtkmboffbohndjaaCkV
import Derived.Test.YtkmboffbohndjaaRowB
import Derived.BigQuiet
namespace Go.Proofs.Ytkmboffbohndjaa
open Go.ChangeShapes Go.WideShapes Go.ChangeAt Go.RowKit Go.Maps
set_option linter.unusedVariables false
set_option linter.unusedSimpArgs false

theorem vals_of_at {w : World} {v : Value} {l : List VL} (h : At w 3 vlF v l) : ∃ (A : Option Addr) (cap : Nat), v = .slice A l.length cap ∧ l.length ≤ cap ∧ cap ≤ maxLen ∧
    (0 < l.length → ∃ a, A = some a ∧ ∀ j (hj : j < l.length), Row3 w (a.add (j * 3)) (.int .i64 (l[j]'hj).1) (.int .i64 (l[j]'hj).2.1) (.string (l[j]'hj).2.2)) := by
  obtain ⟨A, cap, rfl, h1, h2, _⟩ := h.shape
  refine ⟨A, cap, rfl, h1, h2, fun h0 => ?_⟩
  obtain ⟨a, rfl, hc⟩ := h.cells rfl h0
  exact ⟨a, rfl, fun j hj => hc.row3 j hj rfl⟩
theorem sameV (a b : VL) : a = b ↔ (a.1 = b.1 ∧ a.2.1 = b.2.1 ∧ a.2.2 = b.2.2) := by
  obtain ⟨x, y, z⟩ := a; obtain ⟨x', y', z'⟩ := b; simp
theorem take_same {l m : List VL} (hl : l.length = m.length) {k : Nat} (h : k < l.length) (h1 : l.take k = m.take k) (h2 : l[k]'h = m[k]'(by omega)) : l.take (k + 1) = m.take (k + 1) := by
  rw [List.take_succ_eq_append_getElem h, List.take_succ_eq_append_getElem (by omega), h1, h2]
theorem not_same {l m : List VL} (hl : l.length = m.length) {k : Nat} (h : k < l.length) (h2 : ¬ l[k]'h = m[k]'(by omega)) : ¬ l = m := by
  intro e; subst e; exact h2 rfl
set_option maxRecDepth 20000 in
theorem Equal_any (v : Value) (l : List VL) (u : Value) (m : List VL) (w : World) (hv : At w 3 vlF v l) (hu : At w 3 vlF u m) :
    Calls Try.prog 25 #[v, u] w fun e w' => e = .returned (.bool (decide (l = m))) ∧ Below w.heap.size w w' := by
  obtain ⟨A, cap, rfl, h1, h2, h3⟩ := vals_of_at hv
  obtain ⟨B, dap, rfl, k1, k2, k3⟩ := vals_of_at hu
  have hm : l.length ≤ 9223372036854775807 := by unfold maxLen at h2; omega
  have hm' : m.length ≤ 9223372036854775807 := by unfold maxLen at k2; omega
  have H := Lib.hid (And.intro h3 k3); clear h3 k3
  by_cases hn : l.length = m.length
  · rw [← hn]
    have HN := Lib.hid hn; clear hn k1 hm'
    go_enter Try.func25, Try.ntmps25
    go_wp2
    go_loopw [13] (fun i wr => ∃ k : Nat, k ≤ l.length ∧ i = .int .i64 k ∧ l.take k = m.take k ∧ Below w.heap.size w wr) (fun i _ => l.length - (intOf i).toNat)
    case atStart => exact ⟨0, Nat.zero_le _, rfl, rfl, Below.refl _ _⟩
    case round =>
      obtain ⟨k, hk, rfl, hall, hb⟩ := hrel
      have HK := Lib.hid (And.intro hall hb); clear hall hb
      by_cases hlt : k < l.length
      · have hlt' : k < m.length := by have := HN.out; omega
        obtain ⟨a, rfl, hc⟩ := H.out.1 (by omega)
        obtain ⟨b, rfl, hd⟩ := H.out.2 (by omega)
        have q1 := (hc k hlt).later HK.out.2
        have q2 := (hd k hlt').later HK.out.2
        have e1 : (l[k]'hlt).1 = (m[k]'hlt').1 ∧ (l[k]'hlt).2.1 = (m[k]'hlt').2.1 ∧ (l[k]'hlt).2.2 = (m[k]'hlt').2.2 → l.take (k + 1) = m.take (k + 1) := fun h => take_same HN.out hlt HK.out.1 ((sameV _ _).2 h)
        have e2 : ¬ ((l[k]'hlt).1 = (m[k]'hlt').1 ∧ (l[k]'hlt).2.1 = (m[k]'hlt').2.1 ∧ (l[k]'hlt).2.2 = (m[k]'hlt').2.2) → decide (l = m) = false := fun h => decide_eq_false (not_same HN.out hlt (fun h' => h ((sameV _ _).1 h')))
        clear hc hd
        generalize (l[k]'hlt).1 = x1 at *
        generalize (l[k]'hlt).2.1 = y1 at *
        generalize (l[k]'hlt).2.2 = z1 at *
        generalize (m[k]'_).1 = x2 at *
        generalize (m[k]'_).2.1 = y2 at *
        generalize (m[k]'_).2.2 = z2 at *
        obtain ⟨c0, c1, c2⟩ := q1
        obtain ⟨d0, d1, d2⟩ := q2
        rcases same3 x1 y1 z1 x2 y2 z2 with ⟨rfl, rfl, rfl⟩ | ⟨hne, hway⟩
        · have HE := Lib.hid (e1 ⟨rfl, rfl, rfl⟩); clear e1 e2
          go_wp2
          go_quiet (fail)
          go_wp2
          go_roundw
          case rel => exact ⟨k + 1, by omega, by go_num, HE.out, below_drewN HK.out.2 _⟩
          case measure => simp [intOf]; omega
        · have HE := Lib.hid (e2 hne); clear e1 e2 hne
          rcases hway with h | h | ⟨h, hb⟩
          all_goals
            go_wp2
            go_quiet (fail)
            go_wp2
            go_ret
            exact ⟨by rw [HE.out]; rfl, below_drewN HK.out.2 _⟩
      · have hE : decide (l = m) = true := decide_eq_true (by have h1 := HK.out.1; have h2 := HN.out; rwa [List.take_of_length_le (by omega), List.take_of_length_le (by omega)] at h1)
        have HE := Lib.hid hE; clear hE
        go_wp2
        go_ret
        exact ⟨by rw [HE.out]; rfl, HK.out.2⟩
  · have hE : decide (l = m) = false := decide_eq_false (fun h => hn (by rw [h]))
    have HE := Lib.hid hE; clear hE
    have hn' : ¬ (l.length : Int) = (m.length : Int) := by omega
    clear hn
    go_enter Try.func25, Try.ntmps25
    go_wp2
    go_ret
    exact ⟨by rw [HE.out]; rfl, Below.refl _ _⟩
theorem SameE_any (t : Int) (v : Value) (l : List VL) (t' : Int) (v' : Value) (l' : List VL) (w : World) (hv : At w 3 vlF v l) (hv' : At w 3 vlF v' l') :
    Calls Try.prog 17 #[.agg #[.int .i64 t, v], .agg #[.int .i64 t', v']] w fun e w' => e = .returned (.bool (decide (t = t') && decide (l = l'))) ∧ Below w.heap.size w w' := by
  have bA : Below w.heap.size w ((w.alloc (.cells #[.int .i64 t, v] 53)).alloc (.cells #[.int .i64 t', v'] 53)) := bt (ba _ _) (ba _ _)
  have cE := fun (w0 : World) (b : Below w.heap.size w w0) => Equal_any v l v' l' w0 (hv.later b) (hv'.later b)
  have HE := Lib.hid cE; clear cE hv hv'
  generalize decide (l = l') = q at *
  by_cases h : t = t'
  · subst h
    rw [decide_eq_true rfl]
    go_enter Try.func17, Try.ntmps17
    go_wp2_with (go_at_call 25; ((with_reducible refine (HE.out _ bA).mono ?_); rintro e w1 ⟨rfl, b1⟩))
    go_ret
    exact ⟨by simp, bt bA b1⟩
  · rw [decide_eq_false h]
    go_enter Try.func17, Try.ntmps17
    go_wp2
    go_ret
    exact ⟨by simp, bA⟩


end Go.Proofs.Ytkmboffbohndjaa
