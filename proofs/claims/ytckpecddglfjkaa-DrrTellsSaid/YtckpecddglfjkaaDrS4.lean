/- The document's own round: Turn. -/
import Derived.Test.YtckpecddglfjkaaDrS3
import Derived.Deep.LoopGhost
import Derived.StillTailTactics
namespace Go.Proofs.Ytckpecddglfjkaa
open Go.ChangeShapes Go.WideShapes Go.ChangeAt Go.RowKit
open Dr
set_option linter.unusedVariables false
set_option linter.unusedSimpArgs false

theorem RmAt.flP {w : World} {B m : Nat} {A : Option Addr} {n c : Nat} {P : List Fl} {fr : Bool} (h : RmAt w B m (.slice A n c) (P.map gl) fr) (j : Nat) (hj : j < P.length) :
    ∃ g, A = some ⟨g, 0, none⟩ ∧ w.cell? ⟨g, j * 3, none⟩ = some (.int .i64 (P[j]'hj).1) ∧ w.cell? ⟨g, j * 3 + 1, none⟩ = some (.int .i64 (P[j]'hj).2.1) ∧ w.cell? ⟨g, j * 3 + 2, none⟩ = some (.int .i64 (P[j]'hj).2.2.1) ∧ (∀ x, w.frozen? ⟨g, x, none⟩ = false) ∧ g < w.heap.size ∧ g ≠ m := by
  obtain ⟨g, rfl, h0, h1, h2, hf, hl⟩ := h.fl j (by simpa using hj)
  simp only [List.getElem_map] at h0 h1 h2
  refine ⟨g, rfl, h0, h1, h2, hf, hl, ?_⟩
  rintro rfl
  obtain ⟨_, cs, hc⟩ := h.row.block (g := g) rfl
  have := h.blk.symm.trans hc
  simp at this
theorem rd_snoc (P : List Fl) (k : Nat) (hk : k < P.length) : ready (P.take (k + 1)) = (ready (P.take k) || decide (0 < (P[k]'hk).2.2.2)) := by
  unfold ready
  rw [List.take_succ_eq_append_getElem hk, List.any_append]; simp
theorem rest_snoc_gl (l : List Fl) (k : Nat) (hk : k < l.length) : ((rest0 (l.take k) ++ l.drop k).map gl).set k ((l[k]'hk).1, (l[k]'hk).2.1, 0) = (rest0 (l.take (k + 1)) ++ l.drop (k + 1)).map gl := by
  rw [← rest_snoc l k hk, List.map_set]; rfl
def RTurnP (B m : Nat) (cs : List (Int × Int)) (L : List Fl) (fr : Bool) (w : World) (e : Ending) (w' : World) : Prop :=
  ∃ id ok L' fr', (e = .returned (.tuple #[.int .i64 id, .bool ok]) ∧ TurnR cs L fr id ok L' fr' ∧ RmS w' B m (L'.map gl) fr') ∧ ChR B w w'
theorem RmAt.drew {w : World} {B m : Nat} {v : Value} {M : List Gl} {fr : Bool} (h : RmAt w B m v M fr) : RmAt w.drew B m v M fr := h.later (below_drew (Below.refl _ _))
theorem ChR.drew {B : Nat} {a b : World} (h : ChR B a b) (hB : B ≤ b.heap.size) : ChR B a b.drew := h.trans (ChR.later hB (below_drew (Below.refl _ _)))
theorem RmAt.head {w : World} {B m g n c : Nat} {i q d : Int} {R : List Gl} {fr : Bool} (h : RmAt w B m (.slice (some ⟨g, 0, none⟩) n c) ((i, q, d) :: R) fr) (x : Int) :
    RmAt (w.setCell ⟨g, 2, none⟩ (.int .i64 x)) B m (.slice (some ⟨g, 0, none⟩) n c) ((i, q, x) :: R) fr ∧ ChR B w (w.setCell ⟨g, 2, none⟩ (.int .i64 x)) :=
  h.put 0 (by simp) (i := 2) (by decide) (x := (i, q, x)) (u := .int .i64 x) rfl (o := 2) rfl
theorem RmAt.flH {w : World} {B m g n c : Nat} {i q d : Int} {R : List Gl} {fr : Bool} (h : RmAt w B m (.slice (some ⟨g, 0, none⟩) n c) ((i, q, d) :: R) fr) :
    (w.cell? ⟨m, 0, none⟩ = some (.slice (some ⟨g, 0, none⟩) n c) ∧ w.cell? ⟨m, 1, none⟩ = some (.bool fr) ∧ m < w.heap.size ∧ (∀ o, w.frozen? ⟨m, o, none⟩ = false)) ∧
    w.cell? ⟨g, 0, none⟩ = some (.int .i64 i) ∧ w.cell? ⟨g, 1, none⟩ = some (.int .i64 q) ∧ w.cell? ⟨g, 2, none⟩ = some (.int .i64 d) ∧ (∀ x, w.frozen? ⟨g, x, none⟩ = false) ∧ g < w.heap.size ∧ g ≠ m := by
  refine ⟨h.cells, ?_⟩
  obtain ⟨g', he, h0, h1, h2, hf, hl⟩ := h.fl 0 (by simp)
  simp only [Option.some.injEq, Addr.mk.injEq, and_true, true_and] at he
  subst he
  simp only [Nat.zero_mul, Nat.zero_add, List.getElem_cons_zero] at h0 h1 h2
  refine ⟨h0, h1, h2, hf, hl, ?_⟩
  rintro rfl
  obtain ⟨_, cs, hc⟩ := h.row.block (g := g) rfl
  have := h.blk.symm.trans hc
  simp at this
/-- A round of the document's turn. -/
theorem turn_pass {k : Nat} {f : Fl} {r : List Fl} {fr : Bool} {RES : List Fl × Bool} (hT : turn (k + 1) (f :: r) fr = some RES) (hO : OkS (f :: r) fr) (hs : (serveF f fr).1 = false) :
    turn k (r ++ [(serveF f fr).2.1]) true = some RES ∧ OkS (r ++ [(serveF f fr).2.1]) true := by
  refine ⟨?_, hO.pass hs⟩
  unfold turn at hT
  rw [if_neg (by rw [hs]; simp)] at hT
  exact hT
theorem turn_serve {k : Nat} {f : Fl} {r : List Fl} {fr : Bool} {RES : List Fl × Bool} (hT : turn (k + 1) (f :: r) fr = some RES) (hs : (serveF f fr).1 = true) : RES = ((serveF f fr).2.1 :: r, (serveF f fr).2.2) := by
  unfold turn at hT
  rw [if_pos hs] at hT
  exact (Option.some.inj hT).symm
theorem serve_zero (i q d : Int) (fr : Bool) : serveF (i, q, d, 0) fr = (false, (i, q, 0, 0), fr) := by unfold serveF; simp
theorem serve_less (i q d c : Int) (fr : Bool) (D : Int) (hD : D = if fr then d + q else d) (hc : ¬ c = 0) (h : D < c) : serveF (i, q, d, c) fr = (false, (i, q, D, c), false) := by
  unfold serveF; subst hD; simp [hc, h]
theorem serve_more (i q d c : Int) (fr : Bool) (D : Int) (hD : D = if fr then d + q else d) (hc : ¬ c = 0) (h : ¬ D < c) : serveF (i, q, d, c) fr = (true, (i, q, D - c, c), false) := by
  unfold serveF; subst hD; simp [hc, h]
set_option maxHeartbeats 2000000 in
theorem rTurn_no (B m : Nat) (P : List Fl) (fr : Bool) (cs : List (Int × Int)) (lv : Value) (w : World) (h : RmS w B m (P.map gl) fr) (hcP : ∀ f ∈ P, f.2.2.2 = costOf cs f.1) (hr : ready P = false) (hl : ∀ W, ChR B w W → At W 2 rowC lv cs) (hln : P.length ≤ 1000) :
    Calls Try.prog 17 #[.pointer (some ⟨m, 0, none⟩), lv] w fun e w' => (e = .returned (.tuple #[.int .i64 0, .bool false]) ∧ RmS w' B m ((rest0 P).map gl) fr) ∧ ChR B w w' := by
  obtain ⟨v, h⟩ := h
  obtain ⟨A, c, rfl, _, a1, a2⟩ := h.row.shape
  have hlg : (P.map gl).length = P.length := List.length_map _
  rw [hlg] at h
  have hml : P.length ≤ 9223372036854775807 := by omega
  have H := Lib.hid (And.intro h (And.intro hcP (And.intro hr (And.intro hl h.low')))); clear h hcP hr hl a1 hlg
  go_enter Try.func17, Try.ntmps17
  go_wp2
  go_loopw [6, 7] (fun sv iv wr => ∃ k : Nat, k ≤ P.length ∧ iv = .int .i64 k ∧ sv = .bool (ready (P.take k)) ∧ Below w.heap.size w wr) (fun _ i _ => P.length - (intOf i).toNat)
  case atStart => exact ⟨0, Nat.zero_le _, rfl, rfl, Below.refl _ _⟩
  case round =>
    obtain ⟨k, hk, rfl, rfl, hb⟩ := hrel
    obtain ⟨d0, d1, dl, df⟩ := (H.out.1.later hb).cells
    by_cases hlt : k < P.length
    · obtain ⟨g, rfl, x0, _, _, xf, xl, _⟩ := (H.out.1.later hb).flP k hlt
      have hsn := rd_snoc P k hlt
      rw [H.out.2.1 _ (List.getElem_mem hlt)] at hsn
      generalize (P[k]'hlt).1 = y at *
      rename World => wr0
      have cC := rcost_any lv cs y wr0 (H.out.2.2.2.1 wr0 (ChR.later H.out.2.2.2.2 hb))
      generalize costOf cs y = z at *
      generalize ready (P.take k) = bb at *
      cases bb with
      | true =>
        rw [Bool.true_or] at hsn
        have K := Lib.hid (And.intro cC (And.intro hsn hb)); clear cC hsn hb
        go_wp2
        go_roundw
        case rel => exact ⟨k + 1, by omega, by go_num, by rw [K.out.2.1], K.out.2.2⟩
        case measure => simp [intOf]; omega
      | false =>
        rw [Bool.false_or] at hsn
        by_cases hz : 0 < z
        · rw [decide_eq_true hz] at hsn
          have hzz : decide (0 < z) = true := decide_eq_true hz
          have K := Lib.hid (And.intro cC (And.intro hsn hb)); clear cC hsn hb
          go_wp2_with (go_at_call 29; ((with_reducible refine (K.out.1).mono ?_); rintro e w1 ⟨rfl, b1⟩; have Z := Lib.hid b1; clear b1))
          go_roundw
          case rel => exact ⟨k + 1, by omega, by go_num, by rw [K.out.2.1]; first | done | rfl | exact congrArg Value.bool (by first | (simp; done) | (simp; omega)), bt K.out.2.2 Z.out⟩
          case measure => simp [intOf]; omega
        · rw [decide_eq_false hz] at hsn
          have hzz : decide (0 < z) = false := decide_eq_false hz
          have K := Lib.hid (And.intro cC (And.intro hsn hb)); clear cC hsn hb
          go_wp2_with (go_at_call 29; ((with_reducible refine (K.out.1).mono ?_); rintro e w1 ⟨rfl, b1⟩; have Z := Lib.hid b1; clear b1))
          go_roundw
          case rel => exact ⟨k + 1, by omega, by go_num, by rw [K.out.2.1]; first | done | rfl | exact congrArg Value.bool (by first | (simp; done) | (simp; omega)), bt K.out.2.2 Z.out⟩
          case measure => simp [intOf]; omega
    · obtain rfl : k = P.length := by omega
      rw [List.take_length, H.out.2.2.1]
      have HB := Lib.hid hb; clear hb
      go_wp2
      go_loopw [8] (fun iv wr => ∃ k : Nat, k ≤ P.length ∧ iv = .int .i64 k ∧ RmAt wr B m (.slice A P.length c) ((rest0 (P.take k) ++ P.drop k).map gl) fr ∧ ChR B w wr) (fun i _ => P.length - (intOf i).toNat)
      case atStart => exact ⟨0, Nat.zero_le _, rfl, H.out.1.later HB.out, ChR.later H.out.2.2.2.2 HB.out⟩
      case round =>
        clear HB
        obtain ⟨k, hk, rfl, hD, hX⟩ := hrel
        obtain ⟨d0, d1, dl, df⟩ := hD.cells
        by_cases hlt : k < P.length
        · have hln2 : (rest0 (P.take k) ++ P.drop k).length = P.length := by unfold rest0; rw [List.length_append, List.length_map, List.length_take, List.length_drop]; omega
          obtain ⟨hk', hkx⟩ := rest_at P k hlt
          obtain ⟨g, rfl, _, _, x2, xf, xl, _⟩ := hD.flP k hk'
          have p1 := hD.put k (by simpa using hk') (i := 2) (by decide) (x := ((P[k]'hlt).1, (P[k]'hlt).2.1, 0)) (u := .int .i64 0) (by simp only [List.getElem_map, hkx]; rfl) (o := k * 3 + 2) rfl
          rw [rest_snoc_gl P k hlt] at p1
          rw [hkx] at x2
          generalize (P[k]'hlt).2.2.1 = t at x2
          have K := Lib.hid (And.intro hX p1); clear hD hX p1 hkx
          go_wp2
          go_roundw
          case rel => exact ⟨k + 1, by omega, by go_num, K.out.2.1, K.out.1.trans K.out.2.2⟩
          case measure => simp [intOf]; omega
        · obtain rfl : k = P.length := by omega
          rw [List.take_length, List.drop_length, List.append_nil] at hD
          have K := Lib.hid (And.intro hD hX); clear hD hX
          go_wp2
          go_ret2
          exact ⟨⟨rfl, _, K.out.1⟩, K.out.2⟩
end Go.Proofs.Ytckpecddglfjkaa
