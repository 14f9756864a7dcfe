/- The document's own hold: which of two waits is first; how it lies. -/
import Derived.Test.YticjfhagpmlieaaHtA
namespace Go.Proofs.Yticjfhagpmlieaa
open Go.ChangeShapes Go.WideShapes Go.ChangeAt Go.RowKit
open Ho
set_option linter.unusedVariables false
set_option linter.unusedSimpArgs false

set_option maxHeartbeats 1000000 in
theorem rless_any (a b : D) (s t : SV) (w : World) (h1 : PtsAt w (sl s) a.2.1) (h2 : PtsAt w (sl t) b.2.1) :
    Calls Try.prog 33 #[waitV a.1 s a.2.2, waitV b.1 t b.2.2] w fun e w' => e = .returned (.bool (decide (kc a b < 0))) ∧ Below w.heap.size w w' := by
  obtain ⟨au, ap, ax⟩ := a
  obtain ⟨bu, bp, bx⟩ := b
  obtain ⟨sA, sn, sc⟩ := s
  obtain ⟨tA, tn, tc⟩ := t
  simp only at h1 h2
  obtain ⟨W, hW⟩ : ∃ W, W = (w.alloc (.cells #[.int .i64 au, .slice sA sn sc, .int .i64 ax] 38)).alloc (.cells #[.int .i64 bu, .slice tA tn tc, .int .i64 bx] 38) := ⟨_, rfl⟩
  have hb : Below w.heap.size w W := by rw [hW]; exact bt (ba w _) (ba _ _)
  have cO := rOrder_any (.slice sA sn sc) (.slice tA tn tc) ap bp W (h1.later hb) (h2.later hb)
  obtain ⟨z, hz⟩ : ∃ z, z = ordP ap bp := ⟨_, rfl⟩
  rw [← hz] at cO
  by_cases he : au = bu
  · subst he
    have hE : decide (kc (au, ap, ax) (au, bp, bx) < 0) = decide (z < 0) := by
      have : kc (au, ap, ax) (au, bp, bx) = z := by
        unfold kc kk
        have : cmpI au au = 0 := by unfold cmpI; rw [if_neg (by omega), if_neg (by omega)]
        simp only [this, if_true]; exact hz.symm
      rw [this]
    have hee : (au == au) = true := by simp
    have H := Lib.hid (And.intro cO (And.intro hE hb)); clear cO hE hb h1 h2 hz
    go_enter Try.func33, Try.ntmps33
    go_wp2_with fail
    rw [← hW]
    clear hW
    go_at_call 43
    (with_reducible refine (H.out.1).mono ?_)
    rintro e w1 ⟨rfl, b1⟩
    have K := Lib.hid b1; clear b1
    go_wp2
    go_ret
    exact ⟨by rw [H.out.2.1]; rfl, H.out.2.2.trans (K.out.mono H.out.2.2.size)⟩
  · have hE : decide (kc (au, ap, ax) (bu, bp, bx) < 0) = decide (au < bu) := by
      have : kc (au, ap, ax) (bu, bp, bx) = cmpI au bu := by
        unfold kc kk
        have : cmpI au bu ≠ 0 := by unfold cmpI; repeat' split
                                    all_goals omega
        simp only [this, if_false]
      rw [this]
      unfold cmpI
      by_cases h : au < bu
      · simp [h]
      · rw [if_neg h]; split <;> simp [h]
    have hne : (au == bu) = false := by simpa using he
    have H := Lib.hid (And.intro hE hb); clear cO hE hb h1 h2 hz
    go_enter Try.func33, Try.ntmps33
    go_wp2_with fail
    rw [← hW]
    go_ret
    exact ⟨by rw [H.out.1]; rfl, H.out.2⟩
end Go.Proofs.Yticjfhagpmlieaa
