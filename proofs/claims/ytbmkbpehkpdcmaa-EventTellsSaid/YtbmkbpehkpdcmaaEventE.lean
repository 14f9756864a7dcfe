/- Contracts of package event: the same. -/
import Derived.Test.YtbmkbpehkpdcmaaMem
import Derived.Test.YtbmkbpehkpdcmaaEvent
import Derived.Deep.QuietTactic
import Derived.BigQuiet
namespace Go.Proofs.Ytbmkbpehkpdcmaa
open Go.ChangeShapes Go.WideShapes Go.ChangeAt Go.RowKit
open Ev (V3 rightV OkV)
set_option linter.unusedVariables false
set_option linter.unusedSimpArgs false

theorem sameV (a b : V3) : a = b ↔ (a.1 = b.1 ∧ a.2.1 = b.2.1 ∧ a.2.2 = b.2.2) := by
  obtain ⟨x, y, z⟩ := a; obtain ⟨x', y', z'⟩ := b; simp
theorem take_same {l m : List V3} (hl : l.length = m.length) {k : Nat} (h : k < l.length) (h1 : l.take k = m.take k) (h2 : l[k]'h = m[k]'(by omega)) : l.take (k + 1) = m.take (k + 1) := by
  rw [List.take_succ_eq_append_getElem h, List.take_succ_eq_append_getElem (by omega), h1, h2]
theorem not_same {l m : List V3} (hl : l.length = m.length) {k : Nat} (h : k < l.length) (h2 : ¬ l[k]'h = m[k]'(by omega)) : ¬ l = m := by
  intro e; subst e; exact h2 rfl
set_option maxRecDepth 20000 in
theorem Equal_any (v : Value) (l : List V3) (u : Value) (m : List V3) (w : World) (hv : ValsAt w v l) (hu : ValsAt w u m) :
    Calls Try.prog 33 #[v, u] w fun e w' => e = .returned (.bool (decide (l = m))) ∧ Below w.heap.size w w' := by
  obtain ⟨A, cap, rfl, h1, h2, h3⟩ := hv
  obtain ⟨B, dap, rfl, k1, k2, k3⟩ := hu
  have hm : l.length ≤ 9223372036854775807 := by unfold maxLen at h2; omega
  have hm' : m.length ≤ 9223372036854775807 := by unfold maxLen at k2; omega
  have H := Lib.hid (And.intro h3 k3); clear h3 k3
  by_cases hn : l.length = m.length
  · rw [← hn]
    have HN := Lib.hid hn; clear hn k1 hm'
    go_enter Try.func33, Try.ntmps33
    go_wp2
    go_loopw [13] (fun i wr => ∃ k : Nat, k ≤ l.length ∧ i = .int .i64 k ∧ l.take k = m.take k ∧ Below w.heap.size w wr) (fun i _ => l.length - (intOf i).toNat)
    case atStart => exact ⟨0, Nat.zero_le _, rfl, rfl, Below.refl _ _⟩
    case round =>
      obtain ⟨k, hk, rfl, hall, hb⟩ := hrel
      have HK := Lib.hid (And.intro hall hb); clear hall hb
      by_cases hlt : k < l.length
      · have hlt' : k < m.length := by have := HN.out; omega
        obtain ⟨a, rfl, hc⟩ := H.out.1 (by omega)
        obtain ⟨b, rfl, hd⟩ := H.out.2 (by omega)
        have q1 := (hc k hlt).later HK.out.2
        have q2 := (hd k hlt').later HK.out.2
        have e1 : (l[k]'hlt).1 = (m[k]'hlt').1 ∧ (l[k]'hlt).2.1 = (m[k]'hlt').2.1 ∧ (l[k]'hlt).2.2 = (m[k]'hlt').2.2 → l.take (k + 1) = m.take (k + 1) := fun h => take_same HN.out hlt HK.out.1 ((sameV _ _).2 h)
        have e2 : ¬ ((l[k]'hlt).1 = (m[k]'hlt').1 ∧ (l[k]'hlt).2.1 = (m[k]'hlt').2.1 ∧ (l[k]'hlt).2.2 = (m[k]'hlt').2.2) → decide (l = m) = false := fun h => decide_eq_false (not_same HN.out hlt (fun h' => h ((sameV _ _).1 h')))
        clear hc hd
        generalize (l[k]'hlt).1 = x1 at *
        generalize (l[k]'hlt).2.1 = y1 at *
        generalize (l[k]'hlt).2.2 = z1 at *
        generalize (m[k]'_).1 = x2 at *
        generalize (m[k]'_).2.1 = y2 at *
        generalize (m[k]'_).2.2 = z2 at *
        obtain ⟨c0, c1, c2⟩ := q1
        obtain ⟨d0, d1, d2⟩ := q2
        rcases same3 x1 y1 z1 x2 y2 z2 with ⟨rfl, rfl, rfl⟩ | ⟨hne, hway⟩
        · have HE := Lib.hid (e1 ⟨rfl, rfl, rfl⟩); clear e1 e2
          go_wp2
          go_quiet (fail)
          go_wp2
          go_roundw
          case rel => exact ⟨k + 1, by omega, by go_num, HE.out, below_drewN HK.out.2 _⟩
          case measure => simp [intOf]; omega
        · have HE := Lib.hid (e2 hne); clear e1 e2 hne
          rcases hway with h | h | ⟨h, hb⟩
          all_goals
            go_wp2
            go_quiet (fail)
            go_wp2
            go_ret
            exact ⟨by rw [HE.out]; rfl, below_drewN HK.out.2 _⟩
      · have hE : decide (l = m) = true := decide_eq_true (by have h1 := HK.out.1; have h2 := HN.out; rwa [List.take_of_length_le (by omega), List.take_of_length_le (by omega)] at h1)
        have HE := Lib.hid hE; clear hE
        go_wp2
        go_ret
        exact ⟨by rw [HE.out]; rfl, HK.out.2⟩
  · have hE : decide (l = m) = false := decide_eq_false (fun h => hn (by rw [h]))
    have HE := Lib.hid hE; clear hE
    have hn' : ¬ (l.length : Int) = (m.length : Int) := by omega
    clear hn
    go_enter Try.func33, Try.ntmps33
    go_wp2
    go_ret
    exact ⟨by rw [HE.out]; rfl, Below.refl _ _⟩
end Go.Proofs.Ytbmkbpehkpdcmaa
