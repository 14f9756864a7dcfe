/- Contracts of package reckon: the test behind the first operand. -/
import Derived.Test.YtjddfjapopdciaaRkI2
import Derived.Lib.QuietBelow
namespace Go.Proofs.Ytjddfjapopdciaa
open Go.ChangeShapes Go.WideShapes Go.ChangeAt Go.RowKit
open Rk (inR)
set_option linter.unusedVariables false
set_option linter.unusedSimpArgs false

/-- The region n in a piece of code. -/
def regionN (n : Nat) : Code → Option Code
  | .seq a b => match regionN n a with
    | some c => some c
    | none => regionN n b
  | .cond v a b => match regionN n a with
    | some c => some c
    | none => regionN n b
  | .loop c => regionN n c
  | .block _ c => regionN n c
  | .scope c => regionN n c
  | .region i o d => if i = n then some (.region i o d) else none
  | _ => none
/-- Is the first operand the whole? -/
def scB (op : ByteArray) (x : V3) : Bool := decide ((op.toList = [38, 38] ∧ x = tv false) ∨ (op.toList = [124, 124] ∧ x = tv true))
theorem wp_of_eq {P : Program} {c c' : Code} {Q : Exit → Act → World → Prop} {a : Act} {w : World} (h : Code.wp P c' Q a w) (e : c' = c) : Code.wp P c Q a w := e ▸ h
set_option maxRecDepth 20000 in
set_option maxHeartbeats 4000000 in
theorem test_any (u0 u1 u3 u4 u6 u7 u8 u9 u10 u11 u12 u13 u14 u15 u16 u17 u18 u19 u20 u21 u22 u23 u24 u25 u26 u27 u28 u29 u30 u31 u32 u33 u34 u35 u36 u37 u38 u39 u40 u41 u42 u43 u44 u45 u46 u47 u48 u49 u50 u51 u52 u53 u54 u55 u56 u57 u58 u59 u60 u61 u62 u63 u64 u65 u66 u67 u68 u69 u70 u71 u72 u73 u74 u75 : Value) {w : World} {p0 p5 : Nat} {op : ByteArray} {x1 x2 : Int} {x3 : ByteArray} (y1 : w.cell? ⟨p0, 1, none⟩ = some (.string op)) (y2 : w.cell? ⟨p5, 0, none⟩ = some (.int .i64 x1)) (y3 : w.cell? ⟨p5, 1, none⟩ = some (.int .i64 x2)) (y4 : w.cell? ⟨p5, 2, none⟩ = some (.string x3)) {Q : Exit → Act → World → Prop}
    (hQ : ∀ (x47 x48 x49 x50 x51 x52 x53 x54 x55 x56 x57 x58 x59 x60 x61 x62 x63 : Value)  (wx : World), Below w.heap.size w wx → Q .normal ⟨#[u0, u1, .pointer (some ⟨p0, 0, none⟩), u3, u4, .pointer (some ⟨p5, 0, none⟩), u6, u7, u8, u9, u10, u11, u12, u13, u14, u15, u16, u17, u18, u19, u20, u21, u22, u23, u24, u25, u26, u27, u28, u29, u30, u31, u32, u33, u34, u35, u36, u37, u38, u39, u40, u41, u42, u43, u44, u45, u46, x47, x48, x49, x50, x51, x52, x53, x54, x55, x56, x57, x58, x59, x60, x61, x62, x63, .bool (scB op (x1, x2, x3)), u65, u66, u67, u68, u69, u70, u71, u72, u73, u74, u75], []⟩ wx) :
    Code.wp Try.prog ((Try.f42.body.bind (regionN 11)).getD .skip) Q ⟨#[u0, u1, .pointer (some ⟨p0, 0, none⟩), u3, u4, .pointer (some ⟨p5, 0, none⟩), u6, u7, u8, u9, u10, u11, u12, u13, u14, u15, u16, u17, u18, u19, u20, u21, u22, u23, u24, u25, u26, u27, u28, u29, u30, u31, u32, u33, u34, u35, u36, u37, u38, u39, u40, u41, u42, u43, u44, u45, u46, u47, u48, u49, u50, u51, u52, u53, u54, u55, u56, u57, u58, u59, u60, u61, u62, u63, u64, u65, u66, u67, u68, u69, u70, u71, u72, u73, u74, u75], []⟩ w := by
  have HQ := Lib.hid hQ; clear hQ
  conv => arg 2; whnf
  by_cases a1 : op.toList = [38, 38]
  · by_cases a2 : x1 = 2 ∧ x2 = 0 ∧ x3.toList = []
    · obtain ⟨rfl, rfl, a3⟩ := a2
      obtain rfl : x3 = mt := toList_inj (a3.trans (by kernel_rfl))
      have hs : scB op (2, 0, mt) = true := by unfold scB; rw [a1]; decide
      rw [hs] at HQ
      clear hs
      have y1' := fun d os => cell_regrown y1 d os
      have y2' := fun d os => cell_regrown y2 d os
      have y3' := fun d os => cell_regrown y3 d os
      have y4' := fun d os => cell_regrown y4 d os
      go_wp2_with fail
      refine wp_region_quiet_below (by kernel_rfl) (by kernel_rfl) ?_
      repeat (go_big_quiet_step ((go_at_call 45; with_reducible exact Calls.regrown_of (truth_any _ _))))
      refine wpQuiet_nil ?_
      intro wq hw'
      have bq : Below w.heap.size w wq := by obtain ⟨p, rfl⟩ := hw'; exact below_regrown _ _ _
      clear hw'
      exact HQ.out _ _ _ _ _ _ _ _ _ _ _ _ _ _ _ _ _ _ bq
    · have hs : scB op (x1, x2, x3) = false := by unfold scB; rw [a1]; refine decide_eq_false ?_; rintro (⟨b1, b2⟩ | ⟨b1, b2⟩) <;> first | exact absurd b1 (by decide) | exact a2 (by rw [Prod.mk.injEq, Prod.mk.injEq] at b2; obtain ⟨b3, b4, rfl⟩ := b2; exact ⟨b3, b4, by kernel_rfl⟩)
      rw [hs] at HQ
      clear hs
      rcases (by by_cases q1 : x1 = 2 <;> by_cases q2 : x2 = 0 <;> by_cases q3 : x3.toList = [] <;> simp_all : ¬ x1 = 2 ∨ ¬ x2 = 0 ∨ ¬ x3.toList = []) with h5 | h5 | h5
      all_goals
        clear a2
        have y1' := fun d os => cell_regrown y1 d os
        have y2' := fun d os => cell_regrown y2 d os
        have y3' := fun d os => cell_regrown y3 d os
        have y4' := fun d os => cell_regrown y4 d os
        go_wp2_with fail
        refine wp_region_quiet_below (by kernel_rfl) (by kernel_rfl) ?_
        repeat (go_big_quiet_step ((go_at_call 45; with_reducible exact Calls.regrown_of (truth_any _ _))))
        refine wpQuiet_nil ?_
        intro wq hw'
        have bq : Below w.heap.size w wq := by obtain ⟨p, rfl⟩ := hw'; exact below_regrown _ _ _
        clear hw'
        exact HQ.out _ _ _ _ _ _ _ _ _ _ _ _ _ _ _ _ _ _ bq
  · by_cases a0 : op.toList = [124, 124]
    · clear a1
      by_cases a2 : x1 = 2 ∧ x2 = 1 ∧ x3.toList = []
      · obtain ⟨rfl, rfl, a3⟩ := a2
        obtain rfl : x3 = mt := toList_inj (a3.trans (by kernel_rfl))
        have hs : scB op (2, 1, mt) = true := by unfold scB; rw [a0]; decide
        rw [hs] at HQ
        clear hs
        have y1' := fun d os => cell_regrown y1 d os
        have y2' := fun d os => cell_regrown y2 d os
        have y3' := fun d os => cell_regrown y3 d os
        have y4' := fun d os => cell_regrown y4 d os
        go_wp2_with fail
        refine wp_region_quiet_below (by kernel_rfl) (by kernel_rfl) ?_
        repeat (go_big_quiet_step ((go_at_call 45; with_reducible exact Calls.regrown_of (truth_any _ _))))
        refine wpQuiet_nil ?_
        intro wq hw'
        have bq : Below w.heap.size w wq := by obtain ⟨p, rfl⟩ := hw'; exact below_regrown _ _ _
        clear hw'
        exact HQ.out _ _ _ _ _ _ _ _ _ _ _ _ _ _ _ _ _ _ bq
      · have hs : scB op (x1, x2, x3) = false := by unfold scB; rw [a0]; refine decide_eq_false ?_; rintro (⟨b1, b2⟩ | ⟨b1, b2⟩) <;> first | exact absurd b1 (by decide) | exact a2 (by rw [Prod.mk.injEq, Prod.mk.injEq] at b2; obtain ⟨b3, b4, rfl⟩ := b2; exact ⟨b3, b4, by kernel_rfl⟩)
        rw [hs] at HQ
        clear hs
        rcases (by by_cases q1 : x1 = 2 <;> by_cases q2 : x2 = 1 <;> by_cases q3 : x3.toList = [] <;> simp_all : ¬ x1 = 2 ∨ ¬ x2 = 1 ∨ ¬ x3.toList = []) with h5 | h5 | h5
        all_goals
          clear a2
          have y1' := fun d os => cell_regrown y1 d os
          have y2' := fun d os => cell_regrown y2 d os
          have y3' := fun d os => cell_regrown y3 d os
          have y4' := fun d os => cell_regrown y4 d os
          go_wp2_with fail
          refine wp_region_quiet_below (by kernel_rfl) (by kernel_rfl) ?_
          repeat (go_big_quiet_step ((go_at_call 45; with_reducible exact Calls.regrown_of (truth_any _ _))))
          refine wpQuiet_nil ?_
          intro wq hw'
          have bq : Below w.heap.size w wq := by obtain ⟨p, rfl⟩ := hw'; exact below_regrown _ _ _
          clear hw'
          exact HQ.out _ _ _ _ _ _ _ _ _ _ _ _ _ _ _ _ _ _ bq
    · have h3 : (op.toList == [38, 38]) = false := by simpa using a1
      have h4 : (op.toList == [124, 124]) = false := by simpa using a0
      have hs : scB op (x1, x2, x3) = false := by unfold scB; exact decide_eq_false (by rintro (⟨b1, b2⟩ | ⟨b1, b2⟩); exact a1 b1; exact a0 b1)
      rw [hs] at HQ
      clear hs
      have y1' := fun d os => cell_regrown y1 d os
      have y2' := fun d os => cell_regrown y2 d os
      have y3' := fun d os => cell_regrown y3 d os
      have y4' := fun d os => cell_regrown y4 d os
      go_wp2_with fail
      refine wp_region_quiet_below (by kernel_rfl) (by kernel_rfl) ?_
      repeat (go_big_quiet_step ((go_at_call 45; with_reducible exact Calls.regrown_of (truth_any _ _))))
      refine wpQuiet_nil ?_
      intro wq hw'
      have bq : Below w.heap.size w wq := by obtain ⟨p, rfl⟩ := hw'; exact below_regrown _ _ _
      clear hw'
      exact HQ.out _ _ _ _ _ _ _ _ _ _ _ _ _ _ _ _ _ _ bq
end Go.Proofs.Ytjddfjapopdciaa
