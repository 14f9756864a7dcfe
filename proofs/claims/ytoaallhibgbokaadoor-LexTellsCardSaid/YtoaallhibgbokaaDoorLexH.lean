/- Words of texts: the chapter's examples. -/
import Derived.Test.YtoaallhibgbokaaDoorLexF
import Derived.Test.YtoaallhibgbokaaDoorLexG
namespace Go.Proofs.YtoaallhibgbokaaDoor
open Go.ChangeShapes Go.WideShapes Go.ChangeAt Go.RowKit
set_option linter.unusedVariables false
set_option linter.unusedSimpArgs false

def exL : List Tk := [⟨1, [97], 0, 0⟩, ⟨4, [60, 61], 0, 1⟩, ⟨3, [98], 0, 3⟩]
theorem ex_one : resT (⟨#[97, 60, 61, 39, 98, 39, 32, 48, 55]⟩ : ByteArray).data.toList = ([], 7, 2) := by rfl
theorem ex_two : resT (⟨#[97, 60, 61, 39, 98, 39]⟩ : ByteArray).data.toList = (exL, 6, 0) := by rfl
theorem tok_at {W : World} {B : Nat} {A : Option Addr} {n c : Nat} {L : List Tk} (h : Own W B 40 4 rowT (.slice A n c) L) (h0 : 0 < L.length) : n = L.length ∧ ∃ a, A = some a ∧ CellsOf W 4 rowT a L := by
  have h' := Own.at_ (f := rowT) (k := 4) (fun _ => rfl) h
  obtain ⟨A', c', hv, _⟩ := h'.shape
  simp only [Value.slice.injEq] at hv
  exact ⟨hv.2.1, h'.cells rfl h0⟩
theorem tok_row {W : World} {B : Nat} {A : Option Addr} {n c : Nat} {L : List Tk} (h : Own W B 40 4 rowT (.slice A n c) L) (h0 : 0 < L.length) : n = L.length ∧ ∃ g, A = some ⟨g, 0, none⟩ ∧ ∀ j (hj : j < L.length), W.cell? ⟨g, j * 4, none⟩ = some (.int .i64 (L[j]'hj).k) ∧ W.cell? ⟨g, j * 4 + 1, none⟩ = some (.string (mk (L[j]'hj).t)) ∧ W.cell? ⟨g, j * 4 + 2, none⟩ = some (.int .i64 (L[j]'hj).n) ∧ W.cell? ⟨g, j * 4 + 3, none⟩ = some (.int .i64 ((L[j]'hj).at_ : Int)) := by
  obtain ⟨hn, a, rfl, hC⟩ := tok_at h h0
  have ha : ∃ g, a = ⟨g, 0, none⟩ := by
    rcases h.2 with ⟨he, _⟩ | ⟨g, cap, cur, he, _⟩
    · cases he
    · simp only [Value.slice.injEq, Option.some.injEq] at he
      exact ⟨g, he.1⟩
  obtain ⟨g, rfl⟩ := ha
  refine ⟨hn, g, rfl, fun j hj => ?_⟩
  have q := fun i u hu => hC j hj i u hu
  simp only [addr_pl, Nat.zero_add] at q
  exact ⟨q 0 _ rfl, q 1 _ rfl, q 2 _ rfl, q 3 _ rfl⟩
set_option maxRecDepth 20000 in
set_option maxHeartbeats 2000000 in
theorem examples_any (w : World) (hT : Tab w) : Calls Tryd.prog 9 #[] w fun e w' => e = .returned (.bool true) ∧ Below w.heap.size w w' := by
  have c1 := fun w hT => All_any ⟨#[97, 60, 61, 39, 98, 39, 32, 48, 55]⟩ w (by decide) hT
  have c2 := fun w hT => All_any ⟨#[97, 60, 61, 39, 98, 39]⟩ w (by decide) hT
  unfold AllP at c1 c2
  rw [ex_one] at c1
  rw [ex_two] at c2
  have H := Lib.hid (And.intro c1 (And.intro c2 hT)); clear c1 c2 hT
  go_enter Tryd.func9, Tryd.ntmps9
  go_wp2_with fail
  go_at_call 11
  refine (H.out.1 _ H.out.2.2).mono ?_
  rintro e w1 ⟨v1, ⟨rfl, hO1⟩, b1⟩
  obtain ⟨A1, n1, k1, rfl⟩ := own_shape hO1
  have hn1 : n1 = 0 := by
    have h' := Own.at_ (f := rowT) (k := 4) (fun _ => rfl) hO1
    obtain ⟨A', c', hv, _⟩ := h'.shape
    simp only [Value.slice.injEq] at hv
    exact hv.2.1
  subst hn1
  have B1 := Lib.hid b1; clear b1 hO1
  go_wp2_with fail
  go_at_call 11
  refine (H.out.2.1 _ (H.out.2.2.later B1.out)).mono ?_
  rintro e w2 ⟨v2, ⟨rfl, hO2⟩, b2⟩
  obtain ⟨A2, n2, k2, rfl⟩ := own_shape hO2
  obtain ⟨hn2, g, rfl, hC⟩ := tok_row hO2 (by decide)
  obtain rfl : n2 = 3 := hn2
  obtain ⟨p0, p1, p2, p3⟩ := hC 0 (by decide)
  obtain ⟨q0, q1, q2, q3⟩ := hC 1 (by decide)
  obtain ⟨r0, r1, r2, r3⟩ := hC 2 (by decide)
  have e1 : mk [97] = ⟨#[97]⟩ := rfl
  have e2 : mk [60, 61] = ⟨#[60, 61]⟩ := rfl
  have e3 : mk [98] = ⟨#[98]⟩ := rfl
  simp only [exL, List.getElem_cons_zero, List.getElem_cons_succ, e1, e2, e3, Nat.zero_mul, Nat.one_mul, Nat.reduceMul, Nat.reduceAdd, Nat.zero_add, Int.cast_ofNat_Int] at p0 p1 p2 p3 q0 q1 q2 q3 r0 r1 r2 r3
  have hP := Put_any _ exL w2 (Own.at_ (f := rowT) (k := 4) (fun _ => rfl) hO2) (by decide) (by decide) (by decide)
  rw [show mk (putT exL) = ⟨#[97, 32, 60, 61, 32, 39, 98, 39]⟩ from rfl] at hP
  have K := Lib.hid (And.intro hP (bt B1.out b2)); clear hP b2 hC hO2 e1 e2 e3
  go_wp2_with (first
    | (go_at_call 16; (refine K.out.1.mono ?_); rintro e w3 ⟨rfl, b3⟩; have K3 := Lib.hid (bt K.out.2 b3); clear b3)
    | (go_at_call 13; (refine (Signs_any _ (H.out.2.2.later K3.out)).mono ?_); rintro e w4 ⟨v4, ⟨rfl, hO4⟩, b4⟩; obtain ⟨A4, n4, k4, rfl⟩ := own_shape hO4; obtain rfl : n4 = 25 := (by have h' := Own.at_ (f := rowS) (k := 1) (fun _ => rfl) hO4; obtain ⟨A', c', hv, _⟩ := h'.shape; simp only [Value.slice.injEq] at hv; exact hv.2.1); have K4 := Lib.hid (bt K3.out b4); clear b4 hO4))
  trace_state
  go_ret
  exact ⟨rfl, K4.out⟩
end Go.Proofs.YtoaallhibgbokaaDoor
