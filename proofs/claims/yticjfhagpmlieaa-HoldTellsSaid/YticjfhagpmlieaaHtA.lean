/- The document's own order of parts, and which of two waits is first. -/
import Derived.Test.YticjfhagpmlieaaHoO
import Derived.BigQuiet
namespace Go.Proofs.Yticjfhagpmlieaa
open Go.ChangeShapes Go.WideShapes Go.ChangeAt Go.RowKit
open Ho
set_option linter.unusedVariables false
set_option linter.unusedSimpArgs false

theorem cmpI_lt {x y : Int} (h : x < y) : cmpI x y = -1 := by unfold cmpI; rw [if_pos h]
theorem cmpI_gt {x y : Int} (h : y < x) : cmpI x y = 1 := by unfold cmpI; rw [if_neg (by omega), if_pos h]
theorem cmpI_eq {x y : Int} (h1 : ¬ x < y) (h2 : ¬ y < x) : cmpI x y = 0 := by unfold cmpI; rw [if_neg h1, if_neg h2]
set_option maxRecDepth 20000 in
set_option maxHeartbeats 4000000 in
theorem rOrder_any (v1 v2 : Value) (p q : List (List Int)) (w : World) (h1 : PtsAt w v1 p) (h2 : PtsAt w v2 q) :
    Calls Try.prog 43 #[v1, v2] w fun e w' => e = .returned (.int .i64 (ordP p q)) ∧ Below w.heap.size w w' := by
  obtain ⟨vs, h1, e1, g1⟩ := h1
  obtain ⟨us, h2, e2, g2⟩ := h2
  obtain ⟨A, c, rfl, a1, a2, _⟩ := h1.shape
  obtain ⟨B, d, rfl, d1, d2, _⟩ := h2.shape
  have m1 : vs.length ≤ 9223372036854775807 := by unfold maxLen at a2; omega
  have m2 : us.length ≤ 9223372036854775807 := by unfold maxLen at d2; omega
  have H := Lib.hid (And.intro h1 (And.intro h2 (And.intro g1 (And.intro g2 (And.intro e1 e2))))); clear h1 h2 g1 g2 e1 e2 a1 d1
  go_enter Try.func43, Try.ntmps43
  go_wp2
  go_loopw [5] (fun i wr => ∃ k : Nat, k ≤ vs.length ∧ i = .int .i64 k ∧ k ≤ us.length ∧ (∀ j (hj : j < p.length) (hj' : j < q.length), j < k → ordL (p[j]'hj) (q[j]'hj') = 0) ∧ Below w.heap.size w wr) (fun i _ => vs.length - (intOf i).toNat)
  case atStart => exact ⟨0, Nat.zero_le _, rfl, Nat.zero_le _, fun j hj hj' h => by omega, Below.refl _ _⟩
  case round =>
    rename World => wr0
    obtain ⟨k, hk, rfl, hkq, hall, hb⟩ := hrel
    have hend : (vs.length ≤ k ∨ us.length ≤ k) → ordP p q = if vs.length < us.length then -1 else if us.length < vs.length then 1 else 0 := fun hh => by
      have := lex_end (c := ordL) p q (fun j h1 h2 => hall j h1 h2 (by have := H.out.2.2.2.2.1; have := H.out.2.2.2.2.2; omega))
      rw [← H.out.2.2.2.2.1, ← H.out.2.2.2.2.2] at this
      exact this
    by_cases hlt : k < vs.length
    · by_cases hq : k < us.length
      · obtain ⟨a, rfl, hc⟩ := H.out.1.cells rfl (by omega)
        obtain ⟨a2', rfl, hc2⟩ := H.out.2.1.cells rfl (by omega)
        have hlp : k < p.length := by rw [← H.out.2.2.2.2.1]; exact hlt
        have hlq : k < q.length := by rw [← H.out.2.2.2.2.2]; exact hq
        have gx := H.out.2.2.1 k hlt hlp
        have gy := H.out.2.2.2.1 k hq hlq
        have hA := lex_at (c3L c3I) p q k hlp hlq (fun j h1 h2 h3 => hall j h1 h2 h3)
        have hall' : ordL (p[k]'hlp) (q[k]'hlq) = 0 → ∀ j (hj : j < p.length) (hj' : j < q.length), j < k + 1 → ordL (p[j]'hj) (q[j]'hj') = 0 := fun h j hj hj' hlt' => by
          rcases Nat.lt_succ_iff_lt_or_eq.1 hlt' with h2 | rfl
          · exact hall j hj hj' h2
          · exact h
        have X0 : ∀ W, Below w.heap.size w W → W.cell? (a.add k) = some (sl (vs[k]'hlt)) := fun W hW => by have := (hc.later hW).row1 k hlt rfl; rwa [Nat.mul_one] at this
        have Y0 : ∀ W, Below w.heap.size w W → W.cell? (a2'.add k) = some (sl (us[k]'hq)) := fun W hW => by have := (hc2.later hW).row1 k hq rfl; rwa [Nat.mul_one] at this
        generalize vs[k]'hlt = sx at *
        generalize us[k]'hq = sy at *
        generalize p[k]'hlp = P at *
        generalize q[k]'hlq = R at *
        obtain ⟨xA, xn, xc⟩ := sx
        obtain ⟨yA, yn, yc⟩ := sy
        obtain ⟨_, _, hsx, x1, x2, _⟩ := gx.shape
        obtain ⟨_, _, hsy, y1, y2, _⟩ := gy.shape
        simp only [sl, Value.slice.injEq] at hsx hsy
        obtain ⟨rfl, rfl, rfl⟩ := hsx
        obtain ⟨rfl, rfl, rfl⟩ := hsy
        have n1 : P.length ≤ 9223372036854775807 := by unfold maxLen at x2; omega
        have n2 : R.length ≤ 9223372036854775807 := by unfold maxLen at y2; omega
        replace gx : At w 1 rowI (.slice xA P.length xc) P := gx
        replace gy : At w 1 rowI (.slice yA R.length yc) R := gy
        have x0 : wr0.cell? (a.add k) = some (.slice xA P.length xc) := X0 wr0 hb
        have y0 : wr0.cell? (a2'.add k) = some (.slice yA R.length yc) := Y0 wr0 hb
        have K := Lib.hid (And.intro gx (And.intro gy (And.intro hA (And.intro hall' (And.intro X0 (And.intro Y0 hb)))))); clear gx gy hA hall hall' X0 Y0 hb hend hc hc2 x1 y1
        go_wp2
        clear x0 y0
        go_loopw [6] (fun jv wr => ∃ j : Nat, j ≤ P.length ∧ jv = .int .i64 j ∧ j ≤ R.length ∧ (∀ i (hi : i < P.length) (hi' : i < R.length), i < j → cmpI (P[i]'hi) (R[i]'hi') = 0) ∧ Below w.heap.size w wr) (fun i _ => P.length - (intOf i).toNat)
        case atStart => exact ⟨0, Nat.zero_le _, rfl, Nat.zero_le _, fun j hj hj' h => by omega, K.out.2.2.2.2.2.2⟩
        case round =>
          rename World => wr1
          obtain ⟨j, hj, rfl, hjq, hal, hb⟩ := hrel
          have x0 : wr1.cell? (a.add k) = some (.slice xA P.length xc) := K.out.2.2.2.2.1 wr1 hb
          have y0 : wr1.cell? (a2'.add k) = some (.slice yA R.length yc) := K.out.2.2.2.2.2.1 wr1 hb
          by_cases hjl : j < P.length
          · by_cases hjr : j < R.length
            · obtain ⟨xa, rfl, xc1⟩ := K.out.1.cells rfl (by omega)
              obtain ⟨ya, rfl, yc1⟩ := K.out.2.1.cells rfl (by omega)
              have u0 := (xc1.later hb).row1 j hjl rfl
              have u1 := (yc1.later hb).row1 j hjr rfl
              rw [Nat.mul_one] at u0 u1
              have hL := lex_at c3I P R j hjl hjr (fun i h1 h2 h3 => hal i h1 h2 h3)
              have hal' : cmpI (P[j]'hjl) (R[j]'hjr) = 0 → ∀ i (hi : i < P.length) (hi' : i < R.length), i < j + 1 → cmpI (P[i]'hi) (R[i]'hi') = 0 := fun h i hi hi' hlt' => by
                rcases Nat.lt_succ_iff_lt_or_eq.1 hlt' with h2 | rfl
                · exact hal i hi hi' h2
                · exact h
              generalize P[j]'hjl = x at *
              generalize R[j]'hjr = y at *
              clear xc1 yc1 hal
              by_cases hxy : x < y
              · have hxd : decide (x < y) = true := decide_eq_true hxy
                have hE : ordP p q = -1 := by
                  have e1 : ordL P R = -1 := by unfold ordL; rw [hL (by rw [cmpI_lt hxy]; decide), cmpI_lt hxy]
                  have := K.out.2.2.1 (by show ordL P R ≠ 0; rw [e1]; decide)
                  exact Eq.trans this e1
                have V := Lib.hid (And.intro hE hb); clear hE hb hL hal'
                go_wp2_with fail
                go_quiet (fail)
                go_wp2
                go_ret
                exact ⟨retI V.out.1.symm, by first | exact below_drewN V.out.2 _ | exact below_drewN (below_drewN V.out.2 _) _⟩
              · have hxd : decide (x < y) = false := decide_eq_false hxy
                by_cases hyx : y < x
                · have hyd : decide (y < x) = true := decide_eq_true hyx
                  have hE : ordP p q = 1 := by
                    have e1 : ordL P R = 1 := by unfold ordL; rw [hL (by rw [cmpI_gt hyx]; decide), cmpI_gt hyx]
                    have := K.out.2.2.1 (by show ordL P R ≠ 0; rw [e1]; decide)
                    exact Eq.trans this e1
                  have V := Lib.hid (And.intro hE hb); clear hE hb hL hal'
                  go_wp2_with fail
                  go_quiet (fail)
                  go_wp2_with fail
                  go_quiet (fail)
                  go_wp2
                  go_ret
                  exact ⟨retI V.out.1.symm, by first | exact below_drewN V.out.2 _ | exact below_drewN (below_drewN V.out.2 _) _⟩
                · have hyd : decide (y < x) = false := decide_eq_false hyx
                  have V := Lib.hid (And.intro (hal' (cmpI_eq hxy hyx)) hb); clear hb hL hal'
                  go_wp2_with fail
                  go_quiet (fail)
                  go_wp2_with fail
                  go_quiet (fail)
                  go_wp2
                  go_roundw
                  case rel => exact ⟨j + 1, by omega, by go_num, by omega, V.out.1, by first | exact below_drewN V.out.2 _ | exact below_drewN (below_drewN V.out.2 _) _⟩
                  case measure => simp [intOf]; omega
            · have hL := lex_end (c := cmpI) P R (fun i h1 h2 => hal i h1 h2 (by omega))
              clear hal
              by_cases h3 : P.length < R.length
              · have hE : ordP p q = -1 := by
                  have e1 : ordL P R = -1 := by unfold ordL; rw [hL, if_pos h3]
                  have := K.out.2.2.1 (by show ordL P R ≠ 0; rw [e1]; decide)
                  exact Eq.trans this e1
                have h3i : (P.length : Int) < (R.length : Int) := by omega
                have V := Lib.hid (And.intro hE hb); clear hE hb hL
                go_wp2_with fail
                go_quiet (fail)
                go_wp2
                go_ret
                exact ⟨retI V.out.1.symm, by first | exact below_drewN V.out.2 _ | exact below_drewN (below_drewN V.out.2 _) _⟩
              · by_cases h4 : R.length < P.length
                · have hE : ordP p q = 1 := by
                    have e1 : ordL P R = 1 := by unfold ordL; rw [hL, if_neg h3, if_pos h4]
                    have := K.out.2.2.1 (by show ordL P R ≠ 0; rw [e1]; decide)
                    exact Eq.trans this e1
                  have h3i : ¬ (P.length : Int) < (R.length : Int) := by omega
                  have h4i : (R.length : Int) < (P.length : Int) := by omega
                  have V := Lib.hid (And.intro hE hb); clear hE hb hL
                  go_wp2_with fail
                  go_quiet (fail)
                  go_wp2_with fail
                  go_quiet (fail)
                  go_wp2
                  go_ret
                  exact ⟨retI V.out.1.symm, by first | exact below_drewN V.out.2 _ | exact below_drewN (below_drewN V.out.2 _) _⟩
                · have e1 : ordL P R = 0 := by unfold ordL; rw [hL, if_neg h3, if_neg h4]
                  have h3i : ¬ (P.length : Int) < (R.length : Int) := by omega
                  have h4i : ¬ (R.length : Int) < (P.length : Int) := by omega
                  have V := Lib.hid (And.intro (K.out.2.2.2.1 e1) hb); clear hb hL e1
                  go_wp2_with fail
                  go_quiet (fail)
                  go_wp2_with fail
                  go_quiet (fail)
                  go_wp2
                  go_roundw
                  case rel => exact ⟨k + 1, by omega, by go_num, by omega, V.out.1, by first | exact below_drewN V.out.2 _ | exact below_drewN (below_drewN V.out.2 _) _⟩
                  case measure => simp [intOf]; omega
          · have hL := lex_end (c := cmpI) P R (fun i h1 h2 => hal i h1 h2 (by omega))
            clear hal
            by_cases h3 : P.length < R.length
            · have hE : ordP p q = -1 := by
                have e1 : ordL P R = -1 := by unfold ordL; rw [hL, if_pos h3]
                have := K.out.2.2.1 (by show ordL P R ≠ 0; rw [e1]; decide)
                exact Eq.trans this e1
              have h3i : (P.length : Int) < (R.length : Int) := by omega
              have V := Lib.hid (And.intro hE hb); clear hE hb hL
              go_wp2_with fail
              go_quiet (fail)
              go_wp2
              go_ret
              exact ⟨retI V.out.1.symm, by first | exact below_drewN V.out.2 _ | exact below_drewN (below_drewN V.out.2 _) _⟩
            · by_cases h4 : R.length < P.length
              · have hE : ordP p q = 1 := by
                  have e1 : ordL P R = 1 := by unfold ordL; rw [hL, if_neg h3, if_pos h4]
                  have := K.out.2.2.1 (by show ordL P R ≠ 0; rw [e1]; decide)
                  exact Eq.trans this e1
                have h3i : ¬ (P.length : Int) < (R.length : Int) := by omega
                have h4i : (R.length : Int) < (P.length : Int) := by omega
                have V := Lib.hid (And.intro hE hb); clear hE hb hL
                go_wp2_with fail
                go_quiet (fail)
                go_wp2_with fail
                go_quiet (fail)
                go_wp2
                go_ret
                exact ⟨retI V.out.1.symm, by first | exact below_drewN V.out.2 _ | exact below_drewN (below_drewN V.out.2 _) _⟩
              · have e1 : ordL P R = 0 := by unfold ordL; rw [hL, if_neg h3, if_neg h4]
                have h3i : ¬ (P.length : Int) < (R.length : Int) := by omega
                have h4i : ¬ (R.length : Int) < (P.length : Int) := by omega
                have V := Lib.hid (And.intro (K.out.2.2.2.1 e1) hb); clear hb hL e1
                go_wp2_with fail
                go_quiet (fail)
                go_wp2_with fail
                go_quiet (fail)
                go_wp2
                go_roundw
                case rel => exact ⟨k + 1, by omega, by go_num, by omega, V.out.1, by first | exact below_drewN V.out.2 _ | exact below_drewN (below_drewN V.out.2 _) _⟩
                case measure => simp [intOf]; omega
      · have hE := hend (by omega)
        clear hend hall
        by_cases h3 : vs.length < us.length
        · rw [if_pos h3] at hE
          have h3i : (vs.length : Int) < (us.length : Int) := by omega
          have V := Lib.hid (And.intro hE hb); clear hE hb
          go_wp2
          go_ret
          exact ⟨retI V.out.1.symm, V.out.2⟩
        · rw [if_neg h3] at hE
          have h3i : ¬ (vs.length : Int) < (us.length : Int) := by omega
          by_cases h4 : us.length < vs.length
          · rw [if_pos h4] at hE
            have h4i : (us.length : Int) < (vs.length : Int) := by omega
            have V := Lib.hid (And.intro hE hb); clear hE hb
            go_wp2
            go_ret
            exact ⟨retI V.out.1.symm, V.out.2⟩
          · rw [if_neg h4] at hE
            have h4i : ¬ (us.length : Int) < (vs.length : Int) := by omega
            have V := Lib.hid (And.intro hE hb); clear hE hb
            go_wp2
            go_ret
            exact ⟨retI V.out.1.symm, V.out.2⟩
    · have hE := hend (by omega)
      clear hend hall
      by_cases h3 : vs.length < us.length
      · rw [if_pos h3] at hE
        have h3i : (vs.length : Int) < (us.length : Int) := by omega
        have V := Lib.hid (And.intro hE hb); clear hE hb
        go_wp2
        go_ret
        exact ⟨retI V.out.1.symm, V.out.2⟩
      · rw [if_neg h3] at hE
        have h3i : ¬ (vs.length : Int) < (us.length : Int) := by omega
        by_cases h4 : us.length < vs.length
        · rw [if_pos h4] at hE
          have h4i : (us.length : Int) < (vs.length : Int) := by omega
          have V := Lib.hid (And.intro hE hb); clear hE hb
          go_wp2
          go_ret
          exact ⟨retI V.out.1.symm, V.out.2⟩
        · rw [if_neg h4] at hE
          have h4i : ¬ (us.length : Int) < (vs.length : Int) := by omega
          have V := Lib.hid (And.intro hE hb); clear hE hb
          go_wp2
          go_ret
          exact ⟨retI V.out.1.symm, V.out.2⟩
end Go.Proofs.Yticjfhagpmlieaa
