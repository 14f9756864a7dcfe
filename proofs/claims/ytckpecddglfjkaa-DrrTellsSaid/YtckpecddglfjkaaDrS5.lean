/- The document's own round: Turn, where one is ready. -/
import Derived.Test.YtckpecddglfjkaaDrS4
import Derived.Deep.LoopGhost
import Derived.StillTailTactics
namespace Go.Proofs.Ytckpecddglfjkaa
open Go.ChangeShapes Go.WideShapes Go.ChangeAt Go.RowKit
open Dr
set_option linter.unusedVariables false
set_option linter.unusedSimpArgs false

def RYesP (B m : Nat) (RES : List Fl × Bool) (w : World) (e : Ending) (w' : World) : Prop :=
  (∃ f r, RES.1 = f :: r ∧ e = .returned (.tuple #[.int .i64 f.1, .bool true]) ∧ RmS w' B m (RES.1.map gl) RES.2) ∧ ChR B w w'
set_option maxRecDepth 20000 in
set_option maxHeartbeats 4000000 in
theorem rTurn_yes (B m n0 : Nat) (P : List Fl) (fr : Bool) (RES : List Fl × Bool) (cs : List (Int × Int)) (lv : Value) (w : World) (h : RmS w B m (P.map gl) fr) (hcP : ∀ f ∈ P, f.2.2.2 = costOf cs f.1) (hr : ready P = true) (hl : ∀ W, ChR B w W → At W 2 rowC lv cs) (hT : turn n0 P fr = some RES) (hS : OkS P fr) :
    Calls Try.prog 17 #[.pointer (some ⟨m, 0, none⟩), lv] w (RYesP B m RES w) := by
  obtain ⟨v, h⟩ := h
  have hln := hS.2.2.2
  obtain ⟨A, c, rfl, _, a1, a2⟩ := h.row.shape
  have hlg : (P.map gl).length = P.length := List.length_map _
  rw [hlg] at h
  have hml : P.length ≤ 9223372036854775807 := by omega
  have H := Lib.hid (And.intro h (And.intro hcP (And.intro hr (And.intro hl h.low')))); clear h hcP hr hl a1 hlg
  have HT := Lib.hid (And.intro hT hS); clear hT hS
  go_enter Try.func17, Try.ntmps17
  go_wp2
  go_loopw [6, 7] (fun sv iv wr => ∃ k : Nat, k ≤ P.length ∧ iv = .int .i64 k ∧ sv = .bool (ready (P.take k)) ∧ Below w.heap.size w wr) (fun _ i _ => P.length - (intOf i).toNat)
  case atStart => exact ⟨0, Nat.zero_le _, rfl, rfl, Below.refl _ _⟩
  case round =>
    obtain ⟨k, hk, rfl, rfl, hb⟩ := hrel
    obtain ⟨d0, d1, dl, df⟩ := (H.out.1.later hb).cells
    by_cases hlt : k < P.length
    · obtain ⟨g, rfl, x0, _, _, xf, xl, _⟩ := (H.out.1.later hb).flP k hlt
      have hsn := rd_snoc P k hlt
      rw [H.out.2.1 _ (List.getElem_mem hlt)] at hsn
      generalize (P[k]'hlt).1 = y at *
      rename World => wr0
      have cC := rcost_any lv cs y wr0 (H.out.2.2.2.1 wr0 (ChR.later H.out.2.2.2.2 hb))
      generalize costOf cs y = z at *
      generalize ready (P.take k) = bb at *
      cases bb with
      | true =>
        rw [Bool.true_or] at hsn
        have K := Lib.hid (And.intro cC (And.intro hsn hb)); clear cC hsn hb
        go_wp2
        go_roundw
        case rel => exact ⟨k + 1, by omega, by go_num, by rw [K.out.2.1], K.out.2.2⟩
        case measure => simp [intOf]; omega
      | false =>
        rw [Bool.false_or] at hsn
        by_cases hz : 0 < z
        · rw [decide_eq_true hz] at hsn
          have hzz : decide (0 < z) = true := decide_eq_true hz
          have K := Lib.hid (And.intro cC (And.intro hsn hb)); clear cC hsn hb
          go_wp2_with (go_at_call 29; ((with_reducible refine (K.out.1).mono ?_); rintro e w1 ⟨rfl, b1⟩; have Z := Lib.hid b1; clear b1))
          go_roundw
          case rel => exact ⟨k + 1, by omega, by go_num, by rw [K.out.2.1]; first | done | rfl | exact congrArg Value.bool (by first | (simp; done) | (simp; omega)), bt K.out.2.2 Z.out⟩
          case measure => simp [intOf]; omega
        · rw [decide_eq_false hz] at hsn
          have hzz : decide (0 < z) = false := decide_eq_false hz
          have K := Lib.hid (And.intro cC (And.intro hsn hb)); clear cC hsn hb
          go_wp2_with (go_at_call 29; ((with_reducible refine (K.out.1).mono ?_); rintro e w1 ⟨rfl, b1⟩; have Z := Lib.hid b1; clear b1))
          go_roundw
          case rel => exact ⟨k + 1, by omega, by go_num, by rw [K.out.2.1]; first | done | rfl | exact congrArg Value.bool (by first | (simp; done) | (simp; omega)), bt K.out.2.2 Z.out⟩
          case measure => simp [intOf]; omega
    · obtain rfl : k = P.length := by omega
      rw [List.take_length, H.out.2.2.1]
      have HB := Lib.hid hb; clear hb
      go_wp2
      go_loopg [9] n0 (fun k _ wr => ∃ P fr v, RmAt wr B m v (P.map gl) fr ∧ turn k P fr = some RES ∧ OkS P fr ∧ (∀ f ∈ P, f.2.2.2 = costOf cs f.1) ∧ ChR B w wr)
      case atStart => exact ⟨P, fr, _, H.out.1.later HB.out, HT.out.1, HT.out.2, H.out.2.1, ChR.later H.out.2.2.2.2 HB.out⟩
      case round =>
        clear HB HT
        obtain ⟨P2, fr2, v, hD, hT, hO, hC, hX⟩ := hrel
        obtain ⟨k, rfl⟩ : ∃ k, gk = k + 1 := by
          cases gk with
          | zero => simp [turn] at hT
          | succ k => exact ⟨k, rfl⟩
        cases P2 with
        | nil => simp [turn] at hT
        | cons f r =>
          obtain ⟨i, q, d, cst⟩ := f
          have hce : cst = costOf cs i := hC _ (List.mem_cons_self ..)
          have hC2 : ∀ D, ∀ f ∈ r ++ [((i, q, D, cst) : Fl)], f.2.2.2 = costOf cs f.1 := fun D f hf => by
            rcases List.mem_append.1 hf with hf | hf
            · exact hC f (List.mem_cons_of_mem _ hf)
            · obtain rfl : f = _ := by simpa using hf
              exact hce
          obtain ⟨q1, q2, hd0, hc0, hc1, _, _⟩ := hO.1 _ (List.mem_cons_self ..)
          have hd1 := hO.2.1.1
          have hrl : r.length < 1000 := by have := hO.2.2.2; simp only [List.length_cons] at this; omega
          simp only at q1 q2 hd0 hc0 hc1 hd1
          have hd2 : d ≤ 2000 := by
            cases fr2
            · simp only [Bool.false_eq_true, if_false] at hd1; omega
            · simp only [if_true] at hd1; omega
          replace hD : RmAt _ B m v ((i, q, d) :: r.map gl) fr2 := hD
          have hrg : (r.map gl).length < 1000 := by rw [List.length_map]; exact hrl
          obtain ⟨A2, c2, rfl, _, n1, n2⟩ := hD.row.shape
          obtain ⟨n, hn⟩ : ∃ n, n = ((i, q, d) :: r.map gl).length := ⟨_, rfl⟩
          rw [← hn] at hD
          have hn0 : 0 < n := by rw [hn]; simp
          obtain ⟨g, rfl, _⟩ := hD.fl 0 (by simp)
          rename World => wr0
          have cC := rcost_any lv cs i wr0 (H.out.2.2.2.1 wr0 hX)
          rw [← hce] at cC
          obtain ⟨⟨d0, d1, dl, df⟩, x0, x1, x2, xf, xl, hgm⟩ := hD.flH
          have tp := turn_pass hT hO
          have ts := turn_serve hT
          have hw1 : IntKind.i64.wrap (d + q) = d + q := IntWalk.i64_in _ (by omega)
          clear hn n1 n2 hce hC hO hT hd1
          have hon := fun (D : Int) (W : World) (v' : Value) (f2 : Bool) (g' : RmAt W B m v' ((i, q, D) :: r.map gl) f2) => ron_any B m i q D (r.map gl) f2 W ⟨_, g'⟩ hrg
          have hM : ∀ D, r.map gl ++ [(i, q, D)] = (r ++ [((i, q, D, cst) : Fl)]).map gl := fun D => by rw [List.map_append]; rfl
          have M := Lib.hid (And.intro hD (And.intro hX (And.intro cC (And.intro tp (And.intro ts (And.intro hon (And.intro hM hC2))))))); clear hD hX cC tp ts hon hM hC2
          by_cases hz : cst = 0
          · have hzb : (cst == 0) = true := by simpa using hz
            subst hz
            go_wp2_with fail
            go_at_call 29
            (with_reducible refine (M.out.2.2.1).mono ?_)
            rintro e w2 ⟨rfl, b2⟩
            clear d0 d1 dl df x0 x1 x2 xf xl
            obtain ⟨⟨d0, d1, dl, df⟩, x0, x1, x2, xf, xl, _⟩ := (M.out.1.later b2).flH
            have K := Lib.hid b2; clear b2
            obtain ⟨s1, s2⟩ := (M.out.1.later K.out).head 0
            have S := Lib.hid (And.intro s1 s2); clear s1 s2
            go_wp2_with (go_at_call 30; ((with_reducible refine (M.out.2.2.2.2.2.1 0 _ _ _ S.out.1).mono ?_); rintro e w3 ⟨rfl, hR3, hX3⟩; have Z := Lib.hid (And.intro hR3 hX3); clear hR3 hX3))
            go_roundg k
            case measure => omega
            case rel =>
              obtain ⟨v3, hv3⟩ := Z.out.1
              rw [M.out.2.2.2.2.2.2.1 0] at hv3
              have e1 := serve_zero i q d fr2
              have t1 := M.out.2.2.2.1 (by rw [e1])
              rw [e1] at t1
              exact ⟨_, true, v3, hv3, t1.1, t1.2, M.out.2.2.2.2.2.2.2 0, ((M.out.2.1.trans (ChR.later M.out.1.low' K.out)).trans S.out.2).trans Z.out.2⟩
          · have hzb : (cst == 0) = false := by simpa using hz
            cases fr2 with
            | true =>
              go_wp2_with fail
              go_at_call 29
              (with_reducible refine (M.out.2.2.1).mono ?_)
              rintro e w2 ⟨rfl, b2⟩
              clear d0 d1 dl df x0 x1 x2 xf xl
              obtain ⟨⟨d0, d1, dl, df⟩, x0, x1, x2, xf, xl, _⟩ := (M.out.1.later b2).flH
              have K := Lib.hid b2; clear b2
              go_upto_region 17 with fail
              go_still_tail 21, (by kernel_rfl)
              go_upto_region 19 with fail
              obtain ⟨s1, s2⟩ := (M.out.1.later K.out).head (d + q)
              obtain ⟨s3, s4⟩ := s1.fresh false
              have s5 := (((M.out.2.1.trans (ChR.later M.out.1.low' K.out)).trans s2).trans s4).drew s3.low'
              replace s3 := s3.drew
              clear d0 d1 dl df x0 x1 x2 xf xl s1 s2 s4 K
              generalize ((w2.setCell ⟨g, 2, none⟩ (.int .i64 (d + q))).setCell ⟨m, 1, none⟩ (.bool false)).drew = W at *
              obtain ⟨DD, hDD⟩ : ∃ DD, DD = d + q := ⟨_, rfl⟩
              have hbD : DD ≤ 4000 ∧ 0 ≤ DD := by omega
              rw [← hDD] at s3
              clear hw1
              have hDe := Lib.hid hDD; clear hDD
              obtain ⟨⟨d0, d1, dl, df⟩, x0, x1, x2, xf, xl, _⟩ := s3.flH
              have hdl := s3.low'
              by_cases hlc : DD < cst
              · have hge : ¬ cst ≤ DD := by omega
                have e1 := serve_less i q d cst true DD (by rw [hDe.out]; rfl) hz hlc
                have t1 := M.out.2.2.2.1 (by rw [e1])
                rw [e1] at t1
                have S := Lib.hid (And.intro s3 (And.intro s5 t1)); clear s3 s5 t1 e1
                go_wp2_with (go_at_call 30; ((with_reducible refine (M.out.2.2.2.2.2.1 DD _ _ _ S.out.1).mono ?_); rintro e w3 ⟨rfl, hR3, hX3⟩; have Z := Lib.hid (And.intro hR3 hX3); clear hR3 hX3))
                go_roundg k
                case measure => omega
                case rel =>
                  obtain ⟨v3, hv3⟩ := Z.out.1
                  rw [M.out.2.2.2.2.2.2.1 DD] at hv3
                  exact ⟨_, true, v3, hv3, S.out.2.2.1, S.out.2.2.2, M.out.2.2.2.2.2.2.2 DD, S.out.2.1.trans Z.out.2⟩
              · have hge : cst ≤ DD := by omega
                have hw2 : IntKind.i64.wrap (DD - cst) = DD - cst := IntWalk.i64_in _ (by omega)
                have e1 := serve_more i q d cst true DD (by rw [hDe.out]; rfl) hz hlc
                have t1 := M.out.2.2.2.2.1 (by rw [e1])
                rw [e1] at t1
                have S := Lib.hid (And.intro s3 (And.intro s5 t1)); clear s3 s5 t1 e1 hlc
                go_upto_region 20 with fail
                go_still_tail 15, (by kernel_rfl)
                go_wp2
                go_ret2
                obtain ⟨r1, r2⟩ := S.out.1.drew.head (DD - cst)
                have t1 := S.out.2.2
                subst t1
                exact ⟨⟨(i, q, DD - cst, cst), r, rfl, rfl, _, r1⟩, (S.out.2.1.drew hdl).trans r2⟩
            | false =>
              go_wp2_with fail
              go_at_call 29
              (with_reducible refine (M.out.2.2.1).mono ?_)
              rintro e w2 ⟨rfl, b2⟩
              clear d0 d1 dl df x0 x1 x2 xf xl
              obtain ⟨⟨d0, d1, dl, df⟩, x0, x1, x2, xf, xl, _⟩ := (M.out.1.later b2).flH
              have K := Lib.hid b2; clear b2
              go_upto_region 19 with fail
              have s3 := M.out.1.later K.out
              have s5 := M.out.2.1.trans (ChR.later M.out.1.low' K.out)
              clear d0 d1 dl df x0 x1 x2 xf xl K
              generalize w2 = W at *
              have hbD : d ≤ 4000 ∧ 0 ≤ d := by omega
              obtain ⟨⟨d0, d1, dl, df⟩, x0, x1, x2, xf, xl, _⟩ := s3.flH
              have hdl := s3.low'
              by_cases hlc : d < cst
              · have hge : ¬ cst ≤ d := by omega
                have e1 := serve_less i q d cst false d rfl hz hlc
                have t1 := M.out.2.2.2.1 (by rw [e1])
                rw [e1] at t1
                have S := Lib.hid (And.intro s3 (And.intro s5 t1)); clear s3 s5 t1 e1
                go_wp2_with (go_at_call 30; ((with_reducible refine (M.out.2.2.2.2.2.1 d _ _ _ S.out.1).mono ?_); rintro e w3 ⟨rfl, hR3, hX3⟩; have Z := Lib.hid (And.intro hR3 hX3); clear hR3 hX3))
                go_roundg k
                case measure => omega
                case rel =>
                  obtain ⟨v3, hv3⟩ := Z.out.1
                  rw [M.out.2.2.2.2.2.2.1 d] at hv3
                  exact ⟨_, true, v3, hv3, S.out.2.2.1, S.out.2.2.2, M.out.2.2.2.2.2.2.2 d, S.out.2.1.trans Z.out.2⟩
              · have hge : cst ≤ d := by omega
                have hw2 : IntKind.i64.wrap (d - cst) = d - cst := IntWalk.i64_in _ (by omega)
                have e1 := serve_more i q d cst false d rfl hz hlc
                have t1 := M.out.2.2.2.2.1 (by rw [e1])
                rw [e1] at t1
                have S := Lib.hid (And.intro s3 (And.intro s5 t1)); clear s3 s5 t1 e1 hlc
                go_upto_region 20 with fail
                go_still_tail 15, (by kernel_rfl)
                go_wp2
                go_ret2
                obtain ⟨r1, r2⟩ := S.out.1.drew.head (d - cst)
                have t1 := S.out.2.2
                subst t1
                exact ⟨⟨(i, q, d - cst, cst), r, rfl, rfl, _, r1⟩, (S.out.2.1.drew hdl).trans r2⟩
end Go.Proofs.Ytckpecddglfjkaa
