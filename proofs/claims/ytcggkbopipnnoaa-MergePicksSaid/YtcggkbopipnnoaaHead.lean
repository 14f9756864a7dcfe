/- Contracts of package merge: what is least. -/
import Derived.Test.YtcggkbopipnnoaaMem
import Derived.Test.YtcggkbopipnnoaaMrg
import Derived.Deep.QuietTactic
namespace Go.Proofs.Ytcggkbopipnnoaa
open Go.ChangeShapes Go.WideShapes Go.ChangeAt Go.RowKit
open Mrg (Hd hlt ilt Least)
set_option linter.unusedVariables false
set_option linter.unusedSimpArgs false

/-- Four cells in a row, at whatever address. -/
def Row4 (w : World) (a : Addr) (x y z u : Value) : Prop := w.cell? a = some x ∧ w.cell? ⟨a.block, a.off + 1, none⟩ = some y ∧ w.cell? ⟨a.block, a.off + 2, none⟩ = some z ∧ w.cell? ⟨a.block, a.off + 3, none⟩ = some u
theorem Row4.later {w w' : World} {a : Addr} {x y z u : Value} (h : Row4 w a x y z u) (hb : Below w.heap.size w w') : Row4 w' a x y z u := by
  obtain ⟨h0, h1, h2, h3⟩ := h
  exact ⟨by rw [hb.cell (World.block_lt_of_cell? w _ h0)]; exact h0, by rw [hb.cell (World.block_lt_of_cell? w _ h1)]; exact h1, by rw [hb.cell (World.block_lt_of_cell? w _ h2)]; exact h2, by rw [hb.cell (World.block_lt_of_cell? w _ h3)]; exact h3⟩
abbrev hd (x : Bool) (t l : Int) (d : Bool) : Value := .agg #[.bool x, .int .i64 t, .int .i64 l, .bool d]
/-- A slice of heads that reads as l. -/
def HeadsAt (w : World) (v : Value) (l : List Hd) : Prop :=
  ∃ (A : Option Addr) (cap : Nat), v = .slice A l.length cap ∧ l.length ≤ cap ∧ cap ≤ maxLen ∧
    (0 < l.length → ∃ a, A = some a ∧ ∀ j (hj : j < l.length), Row4 w (a.add (j * 4)) (.bool (l[j]'hj).1) (.int .i64 (l[j]'hj).2.1) (.int .i64 (l[j]'hj).2.2.1) (.bool (l[j]'hj).2.2.2))
theorem HeadsAt.later {w w' : World} {v : Value} {l : List Hd} (h : HeadsAt w v l) (hb : Below w.heap.size w w') : HeadsAt w' v l := by
  obtain ⟨A, cap, rfl, h1, h2, h3⟩ := h
  refine ⟨A, cap, rfl, h1, h2, fun h0 => ?_⟩
  obtain ⟨a, rfl, h4⟩ := h3 h0
  exact ⟨a, rfl, fun j hj => (h4 j hj).later hb⟩
theorem HeadsAt.nil (w : World) : HeadsAt w (.slice none 0 0) [] := ⟨none, 0, rfl, Nat.le_refl _, Nat.zero_le _, fun h => absurd h (by simp)⟩

theorem pick1_any (a b : Hd) (w : World) :
    Calls Try.prog 23 #[hd a.1 a.2.1 a.2.2.1 a.2.2.2, hd b.1 b.2.1 b.2.2.1 b.2.2.2] w fun e w' => e = .returned (.bool (hlt a b)) ∧ Below w.heap.size w w' := by
  obtain ⟨x, t, l, d⟩ := a
  obtain ⟨y, u, m, e⟩ := b
  have hb := bt (ba w (.cells #[.bool x, .int .i64 t, .int .i64 l, .bool d] 28)) (ba _ (.cells #[.bool y, .int .i64 u, .int .i64 m, .bool e] 28))
  have e0 : hlt (x, t, l, d) (y, u, m, e) = (x && (!y || decide (t < u))) := rfl
  rw [e0]
  clear e0
  have H := Lib.hid hb; clear hb
  cases x <;> cases y
  all_goals
    go_enter Try.func23, Try.ntmps23
    go_wp2
    go_ret
    exact ⟨by simp, H.out⟩
theorem low1_any (a b : Int) (w : World) :
    Calls Try.prog 21 #[.int .i64 a, .int .i64 b] w fun e w' => e = .returned (.bool (ilt a b)) ∧ Below w.heap.size w w' := by
  have e0 : ilt a b = decide (a < b) := rfl
  rw [e0]
  clear e0
  go_enter Try.func21, Try.ntmps21
  go_wp2
  go_ret
  exact ⟨rfl, Below.refl _ _⟩
theorem head_least (l : List Hd) (v : Value) (w : World) (hv : HeadsAt w v l) :
    Calls Try.prog 22 #[v, .func (.func 23) #[] #[]] w fun e w' => ∃ p : Int, (e = .returned (.int .i64 p) ∧ Least hlt l l.length p) ∧ Below w.heap.size w w' := by
  obtain ⟨A, cap, rfl, h1, h2, h3⟩ := hv
  have hm : l.length ≤ 9223372036854775807 := by unfold maxLen at h2; omega
  have H := Lib.hid h3; clear h3
  go_enter Try.func22, Try.ntmps22
  go_wp2
  go_loopw [5, 9] (fun pv iv wr => ∃ (k : Nat) (p : Int), k ≤ l.length ∧ iv = .int .i64 k ∧ pv = .int .i64 p ∧ Least hlt l k p ∧ Below w.heap.size w wr) (fun _ i _ => l.length - (intOf i).toNat)
  case atStart => exact ⟨0, -1, Nat.zero_le _, rfl, rfl, Least.start _ _, Below.refl _ _⟩
  case round =>
    obtain ⟨k, p, hk, rfl, rfl, hL, hb⟩ := hrel
    have K := Lib.hid (And.intro hL hb); clear hb
    by_cases hlt : k < l.length
    · rcases hL with ⟨rfl, rfl⟩ | ⟨q, hq, rfl, hqk, _, _⟩
      · go_wp2_with fail
        refine wp_region_quiet_below (by kernel_rfl) (by kernel_rfl) ?_
        repeat (go_big_quiet_step (fail))
        refine wpQuiet_nil ?_
        intro wq hw'
        have bq : Below wr.heap.size wr wq := by obtain ⟨p, rfl⟩ := hw'; exact below_regrown _ _ _
        clear hw'
        go_wp2
        go_roundw
        case rel => exact ⟨1, 0, by omega, rfl, rfl, Least.first Mrg.hlt_as hlt, bt K.out.2 bq⟩
        case measure => simp [intOf]; omega
      · obtain ⟨a, rfl, hc⟩ := H.out (by omega)
        obtain ⟨c0, c1, c2, c3⟩ := (hc k hlt).later K.out.2
        obtain ⟨d0, d1, d2, d3⟩ := (hc q hq).later K.out.2
        have hq0 := fun d os => cell_regrown c0 d os
        have hq1 := fun d os => cell_regrown c1 d os
        have hq2 := fun d os => cell_regrown c2 d os
        have hq3 := fun d os => cell_regrown c3 d os
        have hp0 := fun d os => cell_regrown d0 d os
        have hp1 := fun d os => cell_regrown d1 d os
        have hp2 := fun d os => cell_regrown d2 d os
        have hp3 := fun d os => cell_regrown d3 d os
        have cP := fun W => pick1_any (l[k]'hlt) (l[q]'hq) W
        have hS := K.out.1.stay (by omega) hlt q hq rfl
        have hT := K.out.1.turn Mrg.hlt_co Mrg.hlt_as (by omega) hlt q hq rfl
        clear hc c0 c1 c2 c3 d0 d1 d2 d3
        have g1 : decide ((q : Int) < 0) = false := decide_eq_false (by omega)
        have g2 : ¬ (q : Int) < 0 := by omega
        generalize l[k]'hlt = x at *
        generalize l[q]'hq = y at *
        rcases hB : Mrg.hlt x y with _ | _
        · rw [hB] at cP
          have HS := Lib.hid (And.intro cP (hS hB)); clear hS hT cP hB
          go_wp2_with fail
          refine wp_region_quiet_below (by kernel_rfl) (by kernel_rfl) ?_
          repeat (go_big_quiet_step ((go_at_call 23; with_reducible exact Calls.regrown_of (HS.out.1 _))))
          refine wpQuiet_nil ?_
          intro wq hw'
          have bq : Below wr.heap.size wr wq := by obtain ⟨p, rfl⟩ := hw'; exact below_regrown _ _ _
          clear hw'
          go_wp2
          go_roundw
          case rel => exact ⟨k + 1, _, by omega, by go_num, rfl, HS.out.2, bt K.out.2 bq⟩
          case measure => simp [intOf]; omega
        · rw [hB] at cP
          have HS := Lib.hid (And.intro cP (hT hB)); clear hS hT cP hB
          go_wp2_with fail
          refine wp_region_quiet_below (by kernel_rfl) (by kernel_rfl) ?_
          repeat (go_big_quiet_step ((go_at_call 23; with_reducible exact Calls.regrown_of (HS.out.1 _))))
          refine wpQuiet_nil ?_
          intro wq hw'
          have bq : Below wr.heap.size wr wq := by obtain ⟨p, rfl⟩ := hw'; exact below_regrown _ _ _
          clear hw'
          go_wp2
          go_roundw
          case rel => exact ⟨k + 1, _, by omega, by go_num, rfl, HS.out.2, bt K.out.2 bq⟩
          case measure => simp [intOf]; omega
    · obtain rfl : k = l.length := by omega
      clear hL
      go_wp2
      go_ret
      exact ⟨_, ⟨rfl, K.out.1⟩, K.out.2⟩
end Go.Proofs.Ytcggkbopipnnoaa
