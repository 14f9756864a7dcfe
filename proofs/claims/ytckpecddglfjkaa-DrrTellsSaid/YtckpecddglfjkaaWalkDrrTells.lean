/- The walk of DrrTells. -/
import Derived.Test.YtckpecddglfjkaaDrU
import Derived.Test.YtckpecddglfjkaaDrN
namespace Go.Proofs.Ytckpecddglfjkaa
open Go.ChangeShapes Go.WideShapes Go.ChangeAt Go.RowKit
open Dr
set_option linter.unusedVariables false
set_option linter.unusedSimpArgs false

theorem act_cells {w : World} {A : Option Addr} {n c : Nat} {L : List AcD} (h : At w 5 rowAcD (.slice A n c) L) (j : Nat) (hj : j < L.length) : ∃ a, A = some a ∧ w.cell? (a.add (j * 5)) = some (.int .u8 (L[j]'hj).k) ∧ w.cell? ⟨(a.add (j * 5)).block, (a.add (j * 5)).off + 1, none⟩ = some (.int .i64 (L[j]'hj).x) ∧ w.cell? ⟨(a.add (j * 5)).block, (a.add (j * 5)).off + 2, none⟩ = some (.int .i64 (L[j]'hj).n) ∧ w.cell? ⟨(a.add (j * 5)).block, (a.add (j * 5)).off + 3, none⟩ = some (sl (L[j]'hj).s) ∧ w.cell? ⟨(a.add (j * 5)).block, (a.add (j * 5)).off + 4, none⟩ = some (sl (L[j]'hj).b) := by
  obtain ⟨a, rfl, hc⟩ := h.cells rfl (by omega)
  exact ⟨a, rfl, hc j hj 0 _ rfl, by rw [addr_in _ _ _ (by omega)]; exact hc j hj 1 _ rfl, by rw [addr_in _ _ _ (by omega)]; exact hc j hj 2 _ rfl, by rw [addr_in _ _ _ (by omega)]; exact hc j hj 3 _ rfl, by rw [addr_in _ _ _ (by omega)]; exact hc j hj 4 _ rfl⟩
theorem wrap_wf (z : Int) : wfI (wrap64 z) := by unfold wrap64 wfI; omega
structure Rd (w W : World) (d m : Nat) (R : List Fl) (fr : Bool) : Prop where
  th : Th w W d m R fr R fr
  ok : OkS R fr
set_option maxRecDepth 20000 in
set_option maxHeartbeats 8000000 in
theorem walk_DrrTells (v0 : Value) (L : List AcD) (w : World) (h0 : ActsD w v0 L) (b0 : ∀ a ∈ L, FitD a) :
    Calls Try.prog 3 #[v0] w fun e w' => e = .returned (.bool true) ∧ Below w.heap.size w w' := by
  obtain ⟨A, c, rfl, a1, a2, _⟩ := h0.1.shape
  have hm : L.length ≤ 9223372036854775807 := by unfold maxLen at a2; omega
  have H := Lib.hid (And.intro h0.1 (And.intro h0.2 b0)); clear h0 b0 a1
  go_enter Try.func3, Try.ntmps3
  go_wp2_with (first
    | (go_at_call 9; ((with_reducible refine (examples_any _).mono ?_); rintro e x1 ⟨rfl, bx1⟩))
    | (go_at_call 10; refine (New_any _).mono ?_; rintro e x2 ⟨rfl, hD, bx2⟩; have K := Lib.hid (And.intro bx1 (And.intro hD bx2)); clear bx1 hD bx2))
  obtain ⟨x3, hx3⟩ : ∃ x3, x3 = x2.alloc (.cells #[.slice none 0 0, .bool false] 29) := ⟨_, rfl⟩
  have hb3 : Below x2.heap.size x2 x3 := by rw [hx3]; exact ba _ _
  have hB3 : Blk x3 x2.heap.size 29 #[.slice none 0 0, .bool false] := by rw [hx3]; exact Blk.new _ _ _
  rw [← hx3]
  clear hx3
  have hT3 : Th x1 x3 x1.heap.size x2.heap.size [] false [] false := by
    obtain ⟨v, l, c, h1, h2⟩ := K.out.2.1
    exact Th.start ⟨v, l, c, h1.later hb3, h2⟩ K.out.2.2.size hB3 (bt K.out.2.2 hb3)
  have K3 := Lib.hid (And.intro K.out.1 hT3); clear K hT3 hb3 hB3
  generalize hd : x1.heap.size = d at *
  generalize hmm : x2.heap.size = m at *
  go_loopw [6] (fun iv wr => ∃ (k : Nat) (R : List Fl) (fr : Bool), k ≤ L.length ∧ k ≤ 40 ∧ iv = .int .i64 k ∧ R.length ≤ k ∧ OkS R fr ∧ Th x1 wr d m R fr R fr) (fun i _ => L.length - (intOf i).toNat)
  case atStart => exact ⟨0, [], false, Nat.zero_le _, Nat.zero_le _, rfl, Nat.le_refl _, OkS.nil _, K3.out.2⟩
  case round =>
    rename World => wr0
    obtain ⟨k, R, fr, hk, hk40, rfl, hRk, hS, hT⟩ := hrel
    have hbw := bt K3.out.1 (by have := hT.bel; exact this)
    by_cases hlt : k < L.length
    · by_cases h40 : k < 40
      · have h40i : (k : Int) < 40 := by omega
        obtain ⟨a, rfl, y0, y1, y2, y3, y4⟩ := act_cells (H.out.1.later hbw) k hlt
        have hA := H.out.2.1 _ (List.getElem_mem hlt)
        have hF := H.out.2.2 _ (List.getElem_mem hlt)
        generalize L[k]'hlt = y at *
        obtain ⟨ak, ax, an, s, b, cs, bs⟩ := y
        obtain ⟨⟨k0, k1⟩, ⟨xl, xh⟩, ⟨nl, nh⟩, hcs, hbs, hwf⟩ := hA
        simp only at y0 y1 y2 y3 y4 k0 k1 xl xh nl nh hcs hbs hwf hF
        have hcs1 := hcs.later K3.out.1
        have hbs1 := hbs.later K3.out.1
        have hcs0 := hcs.later hbw
        have hbs0 := hbs.later hbw
        have hfit := all_fit cs bs hF hwf
        have hcsX : ∀ X, Below x1.heap.size x1 X → At X 2 rowC (sl s) cs := fun X hX => hcs1.later hX
        have hbsX : ∀ X, Below x1.heap.size x1 X → At X 1 rowB (sl b) bs := fun X hX => hbs1.later hX
        have M := Lib.hid (And.intro hT (And.intro hS (And.intro hcs0 (And.intro hbs0 (And.intro hfit (And.intro hF hbw)))))); clear hT hS hcs hbs hcs1 hbs1 hcs0 hbs0 hfit hwf hF hbw
        by_cases hq : 0 < ak % 4
        · obtain ⟨id, hid⟩ : ∃ id, wrap64 ((IntKind.u64.wrap ax).tmod 6) = id := ⟨_, rfl⟩
          obtain ⟨n1, hn1⟩ : ∃ n1, wrap64 ((IntKind.u64.wrap an).tmod 40) = n1 := ⟨_, rfl⟩
          obtain ⟨qn, hnq⟩ : ∃ qn, wrap64 (1 + n1) = qn := ⟨_, rfl⟩
          have hidw : wfI id := by rw [← hid]; exact wrap_wf _
          by_cases h2 : ak / 4 % 8 < 2
          · go_wp2_with fail
            go_at_call 11
            refine (thA (M.out.1.later (ba _ _)) (by omega) id qn).mono ?_
            rintro e x4 ⟨r4, P4, p4, ⟨rfl, hR1, hT4⟩, hF4⟩
            have Z4 := Lib.hid (And.intro hR1 hT4); clear hR1 hT4 hF4
            go_wp2_with fail
            go_at_call 12
            refine (thRA Z4.out.2 (by omega) id qn).mono ?_
            rintro e x5 ⟨r5, R5, f5, ⟨rfl, hR2, hT5⟩, hF5⟩
            obtain ⟨hs1, hs2, hs3⟩ := AddR.same Z4.out.1 hR2
            rw [hs2, hs3] at hT5
            rw [hs1]
            have Z5 := Lib.hid (And.intro hT5 hR2); clear hT5 hR2 hF5 hs1 hs2 hs3
            have hn41 : R5.length ≤ k + 1 := by have := add_len Z5.out.2; omega
            have hS5 := Z5.out.2.ok M.out.2.1 (by omega) hidw
            obtain ⟨vr, hrm⟩ := Z5.out.1.rms
            obtain ⟨gA, gc, rfl, _, g1, g2⟩ := hrm.row.shape
            obtain ⟨nn, hnn⟩ : ∃ nn, nn = (R5.map gl).length := ⟨_, rfl⟩
            have hnl : nn = R5.length := by rw [hnn, List.length_map]
            rw [← hnn] at hrm
            obtain ⟨d0, d1, dl, df⟩ := hrm.cells
            have N5 := Lib.hid (And.intro hrm (And.intro hnn (And.intro hnl (And.intro hn41 hS5)))); clear hrm hnn hnl hn41 hS5 g1
            go_wp2_with fail
            go_at_call 19
            refine (thF Z5.out.1 (by have := N5.out.2.2.2.1; omega)).mono ?_
            rintro e x6 ⟨fv, ⟨rfl, hO6⟩, b6⟩
            obtain ⟨fA, fc, rfl, _, f1, f2⟩ := hO6.shape
            rw [← N5.out.2.1] at hO6
            rw [← N5.out.2.1]
            have hat := Own.at_ (f := rowG) (k := 3) (fun _ => rfl) hO6
            have hr6 := N5.out.1.later b6
            clear d0 d1 dl df
            obtain ⟨d0, d1, dl, df⟩ := hr6.cells
            have hnm : nn ≤ 9223372036854775807 := by have := N5.out.2.2.1; have := N5.out.2.2.2.1; omega
            have hnn2 : ((nn : Int) != (nn : Int)) = false := by simp
            have T6 := Lib.hid (And.intro (Z5.out.1.later b6) (And.intro hat hr6)); clear hO6 hat hr6 b6 f1
            go_wp2_with fail
            clear d0 d1 dl df
            go_loopw [17] (fun iv wr => ∃ j : Nat, j ≤ nn ∧ iv = .int .i64 j ∧ Below x6.heap.size x6 wr) (fun i _ => nn - (intOf i).toNat)
            case atStart => exact ⟨0, Nat.zero_le _, rfl, Below.refl _ _⟩
            case round =>
              obtain ⟨j, hj, rfl, hbj⟩ := hrel
              by_cases hjl : j < nn
              · have hjl2 : j < R5.length := by have := N5.out.2.2.1; omega
                obtain ⟨d0, d1, dl, df⟩ := (T6.out.2.2.later hbj).cells
                obtain ⟨g, rfl, u0, u1, u2, uf, ul, _⟩ := (T6.out.2.2.later hbj).flP j hjl2
                obtain ⟨fa, rfl, hfc⟩ := (T6.out.2.1.later hbj).cells rfl (by rw [List.length_map]; omega)
                obtain ⟨v0, v1, v2⟩ := hfc.row3 j (by rw [List.length_map]; omega) rfl
                simp only [List.getElem_map] at v0 v1 v2
                unfold gl at v0 v1 v2
                simp only at v0 v1 v2
                generalize R5[j]'hjl2 = z at *
                obtain ⟨z0, z1, z2, z3⟩ := z
                simp only at u0 u1 u2 v0 v1 v2
                have hz0 : (z0 != z0) = false := by simp
                have hz1 : (z1 != z1) = false := by simp
                have hz2 : (z2 != z2) = false := by simp
                have hji : (j : Int) < (nn : Int) := by omega
                have V := Lib.hid hbj; clear hbj hfc
                go_wp2_with fail
                go_quiet (fail)
                go_wp2
                go_roundw
                case rel => exact ⟨j + 1, by omega, by go_num, below_drewN V.out _⟩
                case measure => simp [intOf]; omega
              · obtain rfl : j = nn := by omega
                have V := Lib.hid hbj; clear hbj
                go_wp2
                go_roundw
                case rel => exact ⟨k + 1, R5, f5, by omega, by omega, by go_num, N5.out.2.2.2.1, N5.out.2.2.2.2, T6.out.1.later V.out⟩
                case measure => simp [intOf]; omega
          · by_cases h3 : ak / 4 % 8 < 3
            · go_wp2_with fail
              go_at_call 13
              refine (thD (M.out.1.later (ba _ _)) M.out.2.1 id).mono ?_
              rintro e x4 ⟨r4, P4, p4, ⟨rfl, hR1, hT4⟩, hF4⟩
              have Z4 := Lib.hid (And.intro hR1 hT4); clear hR1 hT4 hF4
              go_wp2_with fail
              go_at_call 14
              refine (thRD Z4.out.2 M.out.2.1 id).mono ?_
              rintro e x5 ⟨r5, R5, f5, ⟨rfl, hR2, hT5⟩, hF5⟩
              obtain ⟨hs1, hs2, hs3⟩ := DropR.same Z4.out.1 hR2
              rw [hs2, hs3] at hT5
              rw [hs1]
              have Z5 := Lib.hid (And.intro hT5 hR2); clear hT5 hR2 hF5 hs1 hs2 hs3
              have hn41 : R5.length ≤ k + 1 := by have := drop_len Z5.out.2; omega
              have hS5 := Z5.out.2.ok M.out.2.1
              obtain ⟨vr, hrm⟩ := Z5.out.1.rms
              obtain ⟨gA, gc, rfl, _, g1, g2⟩ := hrm.row.shape
              obtain ⟨nn, hnn⟩ : ∃ nn, nn = (R5.map gl).length := ⟨_, rfl⟩
              have hnl : nn = R5.length := by rw [hnn, List.length_map]
              rw [← hnn] at hrm
              obtain ⟨d0, d1, dl, df⟩ := hrm.cells
              have N5 := Lib.hid (And.intro hrm (And.intro hnn (And.intro hnl (And.intro hn41 hS5)))); clear hrm hnn hnl hn41 hS5 g1
              go_wp2_with fail
              go_at_call 19
              refine (thF Z5.out.1 (by have := N5.out.2.2.2.1; omega)).mono ?_
              rintro e x6 ⟨fv, ⟨rfl, hO6⟩, b6⟩
              obtain ⟨fA, fc, rfl, _, f1, f2⟩ := hO6.shape
              rw [← N5.out.2.1] at hO6
              rw [← N5.out.2.1]
              have hat := Own.at_ (f := rowG) (k := 3) (fun _ => rfl) hO6
              have hr6 := N5.out.1.later b6
              clear d0 d1 dl df
              obtain ⟨d0, d1, dl, df⟩ := hr6.cells
              have hnm : nn ≤ 9223372036854775807 := by have := N5.out.2.2.1; have := N5.out.2.2.2.1; omega
              have hnn2 : ((nn : Int) != (nn : Int)) = false := by simp
              have T6 := Lib.hid (And.intro (Z5.out.1.later b6) (And.intro hat hr6)); clear hO6 hat hr6 b6 f1
              go_wp2_with fail
              clear d0 d1 dl df
              go_loopw [17] (fun iv wr => ∃ j : Nat, j ≤ nn ∧ iv = .int .i64 j ∧ Below x6.heap.size x6 wr) (fun i _ => nn - (intOf i).toNat)
              case atStart => exact ⟨0, Nat.zero_le _, rfl, Below.refl _ _⟩
              case round =>
                obtain ⟨j, hj, rfl, hbj⟩ := hrel
                by_cases hjl : j < nn
                · have hjl2 : j < R5.length := by have := N5.out.2.2.1; omega
                  obtain ⟨d0, d1, dl, df⟩ := (T6.out.2.2.later hbj).cells
                  obtain ⟨g, rfl, u0, u1, u2, uf, ul, _⟩ := (T6.out.2.2.later hbj).flP j hjl2
                  obtain ⟨fa, rfl, hfc⟩ := (T6.out.2.1.later hbj).cells rfl (by rw [List.length_map]; omega)
                  obtain ⟨v0, v1, v2⟩ := hfc.row3 j (by rw [List.length_map]; omega) rfl
                  simp only [List.getElem_map] at v0 v1 v2
                  unfold gl at v0 v1 v2
                  simp only at v0 v1 v2
                  generalize R5[j]'hjl2 = z at *
                  obtain ⟨z0, z1, z2, z3⟩ := z
                  simp only at u0 u1 u2 v0 v1 v2
                  have hz0 : (z0 != z0) = false := by simp
                  have hz1 : (z1 != z1) = false := by simp
                  have hz2 : (z2 != z2) = false := by simp
                  have hji : (j : Int) < (nn : Int) := by omega
                  have V := Lib.hid hbj; clear hbj hfc
                  go_wp2_with fail
                  go_quiet (fail)
                  go_wp2
                  go_roundw
                  case rel => exact ⟨j + 1, by omega, by go_num, below_drewN V.out _⟩
                  case measure => simp [intOf]; omega
                · obtain rfl : j = nn := by omega
                  have V := Lib.hid hbj; clear hbj
                  go_wp2
                  go_roundw
                  case rel => exact ⟨k + 1, R5, f5, by omega, by omega, by go_num, N5.out.2.2.2.1, N5.out.2.2.2.2, T6.out.1.later V.out⟩
                  case measure => simp [intOf]; omega
            · go_wp2_with fail
              obtain ⟨w4, hw4⟩ : ∃ w4, w4 = wr0.alloc (.cells #[.int .u8 ak, .int .i64 ax, .int .i64 an, .slice s.1 s.2.1 s.2.2, .slice b.1 b.2.1 b.2.2] 33) := ⟨_, rfl⟩
              have hb4 : Below wr0.heap.size wr0 w4 := by rw [hw4]; exact ba _ _
              have hB4 : Blk w4 wr0.heap.size 33 #[.int .u8 ak, .int .i64 ax, .int .i64 an, .slice s.1 s.2.1 s.2.2, .slice b.1 b.2.1 b.2.2] := by rw [hw4]; exact Blk.new _ _ _
              rw [← hw4]
              clear hw4
              go_at_call 16
              refine (costs_any ak ax an s b cs bs w4 (M.out.2.2.1.later hb4) (M.out.2.2.2.1.later hb4) M.out.2.2.2.2.2.1).mono ?_
              rintro e w5 ⟨cv, ⟨rfl, hO5⟩, b5⟩
              have K5 := Lib.hid (And.intro (M.out.1.later (bt hb4 b5)) (And.intro (hB4.later b5) (And.intro (Own.at_ (f := rowC) (k := 2) (fun _ => rfl) hO5) (bt hb4 b5)))); clear hB4 hb4 b5 hO5
              go_wp2_with fail
              go_at_call 15
              refine (thT K5.out.1 M.out.2.1 cv (allC cs bs) K5.out.2.2.1 M.out.2.2.2.2.1.1).mono ?_
              rintro e x4 ⟨i4, r4, P4, p4, ⟨rfl, hR1, hT4⟩, hF4⟩
              have hB6 := K5.out.2.1.frm hF4 (by decide) (by decide)
              obtain ⟨q0, q1, q2, q3, q4⟩ : x4.cell? ⟨wr0.heap.size, 0, none⟩ = some (.int .u8 ak) ∧ x4.cell? ⟨wr0.heap.size, 1, none⟩ = some (.int .i64 ax) ∧ x4.cell? ⟨wr0.heap.size, 2, none⟩ = some (.int .i64 an) ∧ x4.cell? ⟨wr0.heap.size, 3, none⟩ = some (sl s) ∧ x4.cell? ⟨wr0.heap.size, 4, none⟩ = some (sl b) := ⟨hB6.cell 0, hB6.cell 1, hB6.cell 2, hB6.cell 3, hB6.cell 4⟩
              have Z4 := Lib.hid (And.intro hR1 hT4); clear hR1 hT4 hF4 hB6
              go_wp2_with fail
              go_at_call 16
              refine (costs_any ak ax an s b cs bs x4 (hcsX x4 Z4.out.2.bel) (hbsX x4 Z4.out.2.bel) M.out.2.2.2.2.2.1).mono ?_
              rintro e w6 ⟨cw, ⟨rfl, hO6⟩, b6⟩
              clear q0 q1 q2 q3 q4
              have K6 := Lib.hid (And.intro (Z4.out.2.later b6) (Own.at_ (f := rowC) (k := 2) (fun _ => rfl) hO6)); clear hO6 b6
              go_wp2_with fail
              go_at_call 18
              refine (refCosts_any cw (allC cs bs) w6 K6.out.2 M.out.2.2.2.2.1.2).mono ?_
              rintro e w7 ⟨cx, ⟨rfl, hO7⟩, b7⟩
              have K7 := Lib.hid (And.intro (K6.out.1.later b7) hO7); clear hO7 b7
              go_wp2_with fail
              go_at_call 17
              refine (thRT K7.out.1 M.out.2.1 cx (allC cs bs) K7.out.2).mono ?_
              rintro e x5 ⟨i5, r5, R5, f5, ⟨rfl, hR2, hT5⟩, hF5⟩
              obtain ⟨hs0, hs1, hs2, hs3⟩ := TurnR.same Z4.out.1 hR2
              rw [hs2, hs3] at hT5
              rw [hs0, hs1]
              have Z5 := Lib.hid (And.intro hT5 hR2); clear hT5 hR2 hF5 hs1 hs2 hs3
              have hn41 : R5.length ≤ k + 1 := by have := (TurnR.keys Z5.out.2).length_eq; simp only [List.length_map] at this; omega
              have hS5 := Z5.out.2.ok M.out.2.1
              obtain ⟨vr, hrm⟩ := Z5.out.1.rms
              obtain ⟨gA, gc, rfl, _, g1, g2⟩ := hrm.row.shape
              obtain ⟨nn, hnn⟩ : ∃ nn, nn = (R5.map gl).length := ⟨_, rfl⟩
              have hnl : nn = R5.length := by rw [hnn, List.length_map]
              rw [← hnn] at hrm
              obtain ⟨d0, d1, dl, df⟩ := hrm.cells
              have N5 := Lib.hid (And.intro hrm (And.intro hnn (And.intro hnl (And.intro hn41 hS5)))); clear hrm hnn hnl hn41 hS5 g1
              go_wp2_with fail
              go_at_call 19
              refine (thF Z5.out.1 (by have := N5.out.2.2.2.1; omega)).mono ?_
              rintro e x6 ⟨fv, ⟨rfl, hO6⟩, b6⟩
              obtain ⟨fA, fc, rfl, _, f1, f2⟩ := hO6.shape
              rw [← N5.out.2.1] at hO6
              rw [← N5.out.2.1]
              have hat := Own.at_ (f := rowG) (k := 3) (fun _ => rfl) hO6
              have hr6 := N5.out.1.later b6
              clear d0 d1 dl df
              obtain ⟨d0, d1, dl, df⟩ := hr6.cells
              have hnm : nn ≤ 9223372036854775807 := by have := N5.out.2.2.1; have := N5.out.2.2.2.1; omega
              have hnn2 : ((nn : Int) != (nn : Int)) = false := by simp
              have T6 := Lib.hid (And.intro (Z5.out.1.later b6) (And.intro hat hr6)); clear hO6 hat hr6 b6 f1
              go_wp2_with fail
              clear d0 d1 dl df
              go_loopw [17] (fun iv wr => ∃ j : Nat, j ≤ nn ∧ iv = .int .i64 j ∧ Below x6.heap.size x6 wr) (fun i _ => nn - (intOf i).toNat)
              case atStart => exact ⟨0, Nat.zero_le _, rfl, Below.refl _ _⟩
              case round =>
                obtain ⟨j, hj, rfl, hbj⟩ := hrel
                by_cases hjl : j < nn
                · have hjl2 : j < R5.length := by have := N5.out.2.2.1; omega
                  obtain ⟨d0, d1, dl, df⟩ := (T6.out.2.2.later hbj).cells
                  obtain ⟨g, rfl, u0, u1, u2, uf, ul, _⟩ := (T6.out.2.2.later hbj).flP j hjl2
                  obtain ⟨fa, rfl, hfc⟩ := (T6.out.2.1.later hbj).cells rfl (by rw [List.length_map]; omega)
                  obtain ⟨v0, v1, v2⟩ := hfc.row3 j (by rw [List.length_map]; omega) rfl
                  simp only [List.getElem_map] at v0 v1 v2
                  unfold gl at v0 v1 v2
                  simp only at v0 v1 v2
                  generalize R5[j]'hjl2 = z at *
                  obtain ⟨z0, z1, z2, z3⟩ := z
                  simp only at u0 u1 u2 v0 v1 v2
                  have hz0 : (z0 != z0) = false := by simp
                  have hz1 : (z1 != z1) = false := by simp
                  have hz2 : (z2 != z2) = false := by simp
                  have hji : (j : Int) < (nn : Int) := by omega
                  have V := Lib.hid hbj; clear hbj hfc
                  go_wp2_with fail
                  go_quiet (fail)
                  go_wp2
                  go_roundw
                  case rel => exact ⟨j + 1, by omega, by go_num, below_drewN V.out _⟩
                  case measure => simp [intOf]; omega
                · obtain rfl : j = nn := by omega
                  have V := Lib.hid hbj; clear hbj
                  go_wp2
                  go_roundw
                  case rel => exact ⟨k + 1, R5, f5, by omega, by omega, by go_num, N5.out.2.2.2.1, N5.out.2.2.2.2, T6.out.1.later V.out⟩
                  case measure => simp [intOf]; omega
        · obtain ⟨id, hid⟩ : ∃ id, id = ax := ⟨_, rfl⟩
          obtain ⟨qn, hnq⟩ : ∃ qn, qn = an := ⟨_, rfl⟩
          have hidw : wfI id := by rw [hid]; exact ⟨xl, xh⟩
          rw [← hid] at y1 xl xh
          rw [← hnq] at y2 nl nh
          clear hid hnq
          by_cases h2 : ak / 4 % 8 < 2
          · go_wp2_with fail
            go_at_call 11
            refine (thA (M.out.1.later (ba _ _)) (by omega) id qn).mono ?_
            rintro e x4 ⟨r4, P4, p4, ⟨rfl, hR1, hT4⟩, hF4⟩
            have Z4 := Lib.hid (And.intro hR1 hT4); clear hR1 hT4 hF4
            go_wp2_with fail
            go_at_call 12
            refine (thRA Z4.out.2 (by omega) id qn).mono ?_
            rintro e x5 ⟨r5, R5, f5, ⟨rfl, hR2, hT5⟩, hF5⟩
            obtain ⟨hs1, hs2, hs3⟩ := AddR.same Z4.out.1 hR2
            rw [hs2, hs3] at hT5
            rw [hs1]
            have Z5 := Lib.hid (And.intro hT5 hR2); clear hT5 hR2 hF5 hs1 hs2 hs3
            have hn41 : R5.length ≤ k + 1 := by have := add_len Z5.out.2; omega
            have hS5 := Z5.out.2.ok M.out.2.1 (by omega) hidw
            obtain ⟨vr, hrm⟩ := Z5.out.1.rms
            obtain ⟨gA, gc, rfl, _, g1, g2⟩ := hrm.row.shape
            obtain ⟨nn, hnn⟩ : ∃ nn, nn = (R5.map gl).length := ⟨_, rfl⟩
            have hnl : nn = R5.length := by rw [hnn, List.length_map]
            rw [← hnn] at hrm
            obtain ⟨d0, d1, dl, df⟩ := hrm.cells
            have N5 := Lib.hid (And.intro hrm (And.intro hnn (And.intro hnl (And.intro hn41 hS5)))); clear hrm hnn hnl hn41 hS5 g1
            go_wp2_with fail
            go_at_call 19
            refine (thF Z5.out.1 (by have := N5.out.2.2.2.1; omega)).mono ?_
            rintro e x6 ⟨fv, ⟨rfl, hO6⟩, b6⟩
            obtain ⟨fA, fc, rfl, _, f1, f2⟩ := hO6.shape
            rw [← N5.out.2.1] at hO6
            rw [← N5.out.2.1]
            have hat := Own.at_ (f := rowG) (k := 3) (fun _ => rfl) hO6
            have hr6 := N5.out.1.later b6
            clear d0 d1 dl df
            obtain ⟨d0, d1, dl, df⟩ := hr6.cells
            have hnm : nn ≤ 9223372036854775807 := by have := N5.out.2.2.1; have := N5.out.2.2.2.1; omega
            have hnn2 : ((nn : Int) != (nn : Int)) = false := by simp
            have T6 := Lib.hid (And.intro (Z5.out.1.later b6) (And.intro hat hr6)); clear hO6 hat hr6 b6 f1
            go_wp2_with fail
            clear d0 d1 dl df
            go_loopw [17] (fun iv wr => ∃ j : Nat, j ≤ nn ∧ iv = .int .i64 j ∧ Below x6.heap.size x6 wr) (fun i _ => nn - (intOf i).toNat)
            case atStart => exact ⟨0, Nat.zero_le _, rfl, Below.refl _ _⟩
            case round =>
              obtain ⟨j, hj, rfl, hbj⟩ := hrel
              by_cases hjl : j < nn
              · have hjl2 : j < R5.length := by have := N5.out.2.2.1; omega
                obtain ⟨d0, d1, dl, df⟩ := (T6.out.2.2.later hbj).cells
                obtain ⟨g, rfl, u0, u1, u2, uf, ul, _⟩ := (T6.out.2.2.later hbj).flP j hjl2
                obtain ⟨fa, rfl, hfc⟩ := (T6.out.2.1.later hbj).cells rfl (by rw [List.length_map]; omega)
                obtain ⟨v0, v1, v2⟩ := hfc.row3 j (by rw [List.length_map]; omega) rfl
                simp only [List.getElem_map] at v0 v1 v2
                unfold gl at v0 v1 v2
                simp only at v0 v1 v2
                generalize R5[j]'hjl2 = z at *
                obtain ⟨z0, z1, z2, z3⟩ := z
                simp only at u0 u1 u2 v0 v1 v2
                have hz0 : (z0 != z0) = false := by simp
                have hz1 : (z1 != z1) = false := by simp
                have hz2 : (z2 != z2) = false := by simp
                have hji : (j : Int) < (nn : Int) := by omega
                have V := Lib.hid hbj; clear hbj hfc
                go_wp2_with fail
                go_quiet (fail)
                go_wp2
                go_roundw
                case rel => exact ⟨j + 1, by omega, by go_num, below_drewN V.out _⟩
                case measure => simp [intOf]; omega
              · obtain rfl : j = nn := by omega
                have V := Lib.hid hbj; clear hbj
                go_wp2
                go_roundw
                case rel => exact ⟨k + 1, R5, f5, by omega, by omega, by go_num, N5.out.2.2.2.1, N5.out.2.2.2.2, T6.out.1.later V.out⟩
                case measure => simp [intOf]; omega
          · by_cases h3 : ak / 4 % 8 < 3
            · go_wp2_with fail
              go_at_call 13
              refine (thD (M.out.1.later (ba _ _)) M.out.2.1 id).mono ?_
              rintro e x4 ⟨r4, P4, p4, ⟨rfl, hR1, hT4⟩, hF4⟩
              have Z4 := Lib.hid (And.intro hR1 hT4); clear hR1 hT4 hF4
              go_wp2_with fail
              go_at_call 14
              refine (thRD Z4.out.2 M.out.2.1 id).mono ?_
              rintro e x5 ⟨r5, R5, f5, ⟨rfl, hR2, hT5⟩, hF5⟩
              obtain ⟨hs1, hs2, hs3⟩ := DropR.same Z4.out.1 hR2
              rw [hs2, hs3] at hT5
              rw [hs1]
              have Z5 := Lib.hid (And.intro hT5 hR2); clear hT5 hR2 hF5 hs1 hs2 hs3
              have hn41 : R5.length ≤ k + 1 := by have := drop_len Z5.out.2; omega
              have hS5 := Z5.out.2.ok M.out.2.1
              obtain ⟨vr, hrm⟩ := Z5.out.1.rms
              obtain ⟨gA, gc, rfl, _, g1, g2⟩ := hrm.row.shape
              obtain ⟨nn, hnn⟩ : ∃ nn, nn = (R5.map gl).length := ⟨_, rfl⟩
              have hnl : nn = R5.length := by rw [hnn, List.length_map]
              rw [← hnn] at hrm
              obtain ⟨d0, d1, dl, df⟩ := hrm.cells
              have N5 := Lib.hid (And.intro hrm (And.intro hnn (And.intro hnl (And.intro hn41 hS5)))); clear hrm hnn hnl hn41 hS5 g1
              go_wp2_with fail
              go_at_call 19
              refine (thF Z5.out.1 (by have := N5.out.2.2.2.1; omega)).mono ?_
              rintro e x6 ⟨fv, ⟨rfl, hO6⟩, b6⟩
              obtain ⟨fA, fc, rfl, _, f1, f2⟩ := hO6.shape
              rw [← N5.out.2.1] at hO6
              rw [← N5.out.2.1]
              have hat := Own.at_ (f := rowG) (k := 3) (fun _ => rfl) hO6
              have hr6 := N5.out.1.later b6
              clear d0 d1 dl df
              obtain ⟨d0, d1, dl, df⟩ := hr6.cells
              have hnm : nn ≤ 9223372036854775807 := by have := N5.out.2.2.1; have := N5.out.2.2.2.1; omega
              have hnn2 : ((nn : Int) != (nn : Int)) = false := by simp
              have T6 := Lib.hid (And.intro (Z5.out.1.later b6) (And.intro hat hr6)); clear hO6 hat hr6 b6 f1
              go_wp2_with fail
              clear d0 d1 dl df
              go_loopw [17] (fun iv wr => ∃ j : Nat, j ≤ nn ∧ iv = .int .i64 j ∧ Below x6.heap.size x6 wr) (fun i _ => nn - (intOf i).toNat)
              case atStart => exact ⟨0, Nat.zero_le _, rfl, Below.refl _ _⟩
              case round =>
                obtain ⟨j, hj, rfl, hbj⟩ := hrel
                by_cases hjl : j < nn
                · have hjl2 : j < R5.length := by have := N5.out.2.2.1; omega
                  obtain ⟨d0, d1, dl, df⟩ := (T6.out.2.2.later hbj).cells
                  obtain ⟨g, rfl, u0, u1, u2, uf, ul, _⟩ := (T6.out.2.2.later hbj).flP j hjl2
                  obtain ⟨fa, rfl, hfc⟩ := (T6.out.2.1.later hbj).cells rfl (by rw [List.length_map]; omega)
                  obtain ⟨v0, v1, v2⟩ := hfc.row3 j (by rw [List.length_map]; omega) rfl
                  simp only [List.getElem_map] at v0 v1 v2
                  unfold gl at v0 v1 v2
                  simp only at v0 v1 v2
                  generalize R5[j]'hjl2 = z at *
                  obtain ⟨z0, z1, z2, z3⟩ := z
                  simp only at u0 u1 u2 v0 v1 v2
                  have hz0 : (z0 != z0) = false := by simp
                  have hz1 : (z1 != z1) = false := by simp
                  have hz2 : (z2 != z2) = false := by simp
                  have hji : (j : Int) < (nn : Int) := by omega
                  have V := Lib.hid hbj; clear hbj hfc
                  go_wp2_with fail
                  go_quiet (fail)
                  go_wp2
                  go_roundw
                  case rel => exact ⟨j + 1, by omega, by go_num, below_drewN V.out _⟩
                  case measure => simp [intOf]; omega
                · obtain rfl : j = nn := by omega
                  have V := Lib.hid hbj; clear hbj
                  go_wp2
                  go_roundw
                  case rel => exact ⟨k + 1, R5, f5, by omega, by omega, by go_num, N5.out.2.2.2.1, N5.out.2.2.2.2, T6.out.1.later V.out⟩
                  case measure => simp [intOf]; omega
            · go_wp2_with fail
              obtain ⟨w4, hw4⟩ : ∃ w4, w4 = wr0.alloc (.cells #[.int .u8 ak, .int .i64 id, .int .i64 qn, .slice s.1 s.2.1 s.2.2, .slice b.1 b.2.1 b.2.2] 33) := ⟨_, rfl⟩
              have hb4 : Below wr0.heap.size wr0 w4 := by rw [hw4]; exact ba _ _
              have hB4 : Blk w4 wr0.heap.size 33 #[.int .u8 ak, .int .i64 id, .int .i64 qn, .slice s.1 s.2.1 s.2.2, .slice b.1 b.2.1 b.2.2] := by rw [hw4]; exact Blk.new _ _ _
              rw [← hw4]
              clear hw4
              go_at_call 16
              refine (costs_any ak id qn s b cs bs w4 (M.out.2.2.1.later hb4) (M.out.2.2.2.1.later hb4) M.out.2.2.2.2.2.1).mono ?_
              rintro e w5 ⟨cv, ⟨rfl, hO5⟩, b5⟩
              have K5 := Lib.hid (And.intro (M.out.1.later (bt hb4 b5)) (And.intro (hB4.later b5) (And.intro (Own.at_ (f := rowC) (k := 2) (fun _ => rfl) hO5) (bt hb4 b5)))); clear hB4 hb4 b5 hO5
              go_wp2_with fail
              go_at_call 15
              refine (thT K5.out.1 M.out.2.1 cv (allC cs bs) K5.out.2.2.1 M.out.2.2.2.2.1.1).mono ?_
              rintro e x4 ⟨i4, r4, P4, p4, ⟨rfl, hR1, hT4⟩, hF4⟩
              have hB6 := K5.out.2.1.frm hF4 (by decide) (by decide)
              obtain ⟨q0, q1, q2, q3, q4⟩ : x4.cell? ⟨wr0.heap.size, 0, none⟩ = some (.int .u8 ak) ∧ x4.cell? ⟨wr0.heap.size, 1, none⟩ = some (.int .i64 id) ∧ x4.cell? ⟨wr0.heap.size, 2, none⟩ = some (.int .i64 qn) ∧ x4.cell? ⟨wr0.heap.size, 3, none⟩ = some (sl s) ∧ x4.cell? ⟨wr0.heap.size, 4, none⟩ = some (sl b) := ⟨hB6.cell 0, hB6.cell 1, hB6.cell 2, hB6.cell 3, hB6.cell 4⟩
              have Z4 := Lib.hid (And.intro hR1 hT4); clear hR1 hT4 hF4 hB6
              go_wp2_with fail
              go_at_call 16
              refine (costs_any ak id qn s b cs bs x4 (hcsX x4 Z4.out.2.bel) (hbsX x4 Z4.out.2.bel) M.out.2.2.2.2.2.1).mono ?_
              rintro e w6 ⟨cw, ⟨rfl, hO6⟩, b6⟩
              clear q0 q1 q2 q3 q4
              have K6 := Lib.hid (And.intro (Z4.out.2.later b6) (Own.at_ (f := rowC) (k := 2) (fun _ => rfl) hO6)); clear hO6 b6
              go_wp2_with fail
              go_at_call 18
              refine (refCosts_any cw (allC cs bs) w6 K6.out.2 M.out.2.2.2.2.1.2).mono ?_
              rintro e w7 ⟨cx, ⟨rfl, hO7⟩, b7⟩
              have K7 := Lib.hid (And.intro (K6.out.1.later b7) hO7); clear hO7 b7
              go_wp2_with fail
              go_at_call 17
              refine (thRT K7.out.1 M.out.2.1 cx (allC cs bs) K7.out.2).mono ?_
              rintro e x5 ⟨i5, r5, R5, f5, ⟨rfl, hR2, hT5⟩, hF5⟩
              obtain ⟨hs0, hs1, hs2, hs3⟩ := TurnR.same Z4.out.1 hR2
              rw [hs2, hs3] at hT5
              rw [hs0, hs1]
              have Z5 := Lib.hid (And.intro hT5 hR2); clear hT5 hR2 hF5 hs1 hs2 hs3
              have hn41 : R5.length ≤ k + 1 := by have := (TurnR.keys Z5.out.2).length_eq; simp only [List.length_map] at this; omega
              have hS5 := Z5.out.2.ok M.out.2.1
              obtain ⟨vr, hrm⟩ := Z5.out.1.rms
              obtain ⟨gA, gc, rfl, _, g1, g2⟩ := hrm.row.shape
              obtain ⟨nn, hnn⟩ : ∃ nn, nn = (R5.map gl).length := ⟨_, rfl⟩
              have hnl : nn = R5.length := by rw [hnn, List.length_map]
              rw [← hnn] at hrm
              obtain ⟨d0, d1, dl, df⟩ := hrm.cells
              have N5 := Lib.hid (And.intro hrm (And.intro hnn (And.intro hnl (And.intro hn41 hS5)))); clear hrm hnn hnl hn41 hS5 g1
              go_wp2_with fail
              go_at_call 19
              refine (thF Z5.out.1 (by have := N5.out.2.2.2.1; omega)).mono ?_
              rintro e x6 ⟨fv, ⟨rfl, hO6⟩, b6⟩
              obtain ⟨fA, fc, rfl, _, f1, f2⟩ := hO6.shape
              rw [← N5.out.2.1] at hO6
              rw [← N5.out.2.1]
              have hat := Own.at_ (f := rowG) (k := 3) (fun _ => rfl) hO6
              have hr6 := N5.out.1.later b6
              clear d0 d1 dl df
              obtain ⟨d0, d1, dl, df⟩ := hr6.cells
              have hnm : nn ≤ 9223372036854775807 := by have := N5.out.2.2.1; have := N5.out.2.2.2.1; omega
              have hnn2 : ((nn : Int) != (nn : Int)) = false := by simp
              have T6 := Lib.hid (And.intro (Z5.out.1.later b6) (And.intro hat hr6)); clear hO6 hat hr6 b6 f1
              go_wp2_with fail
              clear d0 d1 dl df
              go_loopw [17] (fun iv wr => ∃ j : Nat, j ≤ nn ∧ iv = .int .i64 j ∧ Below x6.heap.size x6 wr) (fun i _ => nn - (intOf i).toNat)
              case atStart => exact ⟨0, Nat.zero_le _, rfl, Below.refl _ _⟩
              case round =>
                obtain ⟨j, hj, rfl, hbj⟩ := hrel
                by_cases hjl : j < nn
                · have hjl2 : j < R5.length := by have := N5.out.2.2.1; omega
                  obtain ⟨d0, d1, dl, df⟩ := (T6.out.2.2.later hbj).cells
                  obtain ⟨g, rfl, u0, u1, u2, uf, ul, _⟩ := (T6.out.2.2.later hbj).flP j hjl2
                  obtain ⟨fa, rfl, hfc⟩ := (T6.out.2.1.later hbj).cells rfl (by rw [List.length_map]; omega)
                  obtain ⟨v0, v1, v2⟩ := hfc.row3 j (by rw [List.length_map]; omega) rfl
                  simp only [List.getElem_map] at v0 v1 v2
                  unfold gl at v0 v1 v2
                  simp only at v0 v1 v2
                  generalize R5[j]'hjl2 = z at *
                  obtain ⟨z0, z1, z2, z3⟩ := z
                  simp only at u0 u1 u2 v0 v1 v2
                  have hz0 : (z0 != z0) = false := by simp
                  have hz1 : (z1 != z1) = false := by simp
                  have hz2 : (z2 != z2) = false := by simp
                  have hji : (j : Int) < (nn : Int) := by omega
                  have V := Lib.hid hbj; clear hbj hfc
                  go_wp2_with fail
                  go_quiet (fail)
                  go_wp2
                  go_roundw
                  case rel => exact ⟨j + 1, by omega, by go_num, below_drewN V.out _⟩
                  case measure => simp [intOf]; omega
                · obtain rfl : j = nn := by omega
                  have V := Lib.hid hbj; clear hbj
                  go_wp2
                  go_roundw
                  case rel => exact ⟨k + 1, R5, f5, by omega, by omega, by go_num, N5.out.2.2.2.1, N5.out.2.2.2.2, T6.out.1.later V.out⟩
                  case measure => simp [intOf]; omega
      · obtain rfl : k = 40 := by omega
        have M := Lib.hid hbw; clear hbw hT hS
        go_wp2
        go_ret
        exact ⟨rfl, M.out⟩
    · obtain rfl : k = L.length := by omega
      have M := Lib.hid hbw; clear hbw hT hS
      go_wp2
      go_ret
      exact ⟨rfl, M.out⟩
end Go.Proofs.Ytckpecddglfjkaa
