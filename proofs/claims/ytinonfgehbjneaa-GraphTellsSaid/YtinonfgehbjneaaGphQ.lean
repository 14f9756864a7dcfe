/- Mathematics of layer 12: one node more. Nothing of one package. -/
import Derived.Test.YtinonfgehbjneaaGphM
set_option linter.unusedVariables false
set_option linter.unusedSimpArgs false

/-! One node more. -/
namespace Gr
theorem at_left {N : List Nd} {x : Nd} {k : Nat} (h : k < N.length) : nmAt (N ++ [x]) k = nmAt N k ∧ frAt (N ++ [x]) k = frAt N k := by
  unfold nmAt frAt
  simp [List.getD, List.getElem?_append_left h]
theorem at_last {N : List Nd} {x : Nd} : nmAt (N ++ [x]) N.length = x.1 ∧ frAt (N ++ [x]) N.length = x.2 := by
  unfold nmAt frAt
  simp [List.getD]
theorem comes_lift {N : List Nd} {x : Nd} {s : ByteArray} {k : Nat} (h : Comes N s k) : Comes (N ++ [x]) s k := by
  induction h with
  | base h1 => exact .base (by rw [(at_left (fr_lt h1)).2]; exact h1)
  | step h1 h2 ih => exact .step ih (by rw [(at_left h1.lt).1, (at_left (fr_lt h2)).2]; exact h2)
/-- What makes a loop of a node more. -/
def AddLoop (N : List Nd) (x : Nd) : Prop := x.1 ∈ x.2 ∨ ∃ j, Comes N x.1 j ∧ nmAt N j ∈ x.2
theorem add_fr {N : List Nd} {x : Nd} {s : ByteArray} {k : Nat} (h : s ∈ frAt (N ++ [x]) k) : (k < N.length ∧ s ∈ frAt N k) ∨ (k = N.length ∧ s ∈ x.2) := by
  have hk := fr_lt h
  rw [List.length_append] at hk
  simp only [List.length_cons, List.length_nil] at hk
  rcases (by omega : k < N.length ∨ k = N.length) with h1 | h1
  · exact Or.inl ⟨h1, by rw [← (at_left h1).2]; exact h⟩
  · subst h1
    exact Or.inr ⟨rfl, by rw [← at_last.2]; exact h⟩
theorem add_own {N : List Nd} {x : Nd} (hno : ¬ AddLoop N x) {k : Nat} (h : Comes (N ++ [x]) x.1 k) : k < N.length ∧ Comes N x.1 k := by
  generalize hs : x.1 = s at h
  induction h with
  | base h1 =>
    subst hs
    rcases add_fr h1 with ⟨h2, h3⟩ | ⟨h2, h3⟩
    · exact ⟨h2, .base h3⟩
    · exact absurd (Or.inl h3) hno
  | step h1 h2 ih =>
    subst hs
    obtain ⟨i1, i2⟩ := ih
    rw [(at_left i1).1] at h2
    rcases add_fr h2 with ⟨h3, h4⟩ | ⟨h3, h4⟩
    · exact ⟨h3, .step i2 h4⟩
    · exact absurd (Or.inr ⟨_, i2, h4⟩) hno
theorem add_part {N : List Nd} {x : Nd} {s : ByteArray} {k : Nat} (h : Comes (N ++ [x]) s k) : k < N.length → Comes N s k ∨ (Comes (N ++ [x]) s N.length ∧ Comes (N ++ [x]) x.1 k) := by
  induction h with
  | base h1 =>
    intro hk
    rcases add_fr h1 with ⟨h2, h3⟩ | ⟨h2, h3⟩
    · exact Or.inl (.base h3)
    · omega
  | @step j k h1 h2 ih =>
    intro hk
    have hj := h1.lt
    rw [List.length_append] at hj
    simp only [List.length_cons, List.length_nil] at hj
    rcases (by omega : j < N.length ∨ j = N.length) with h3 | h3
    · rcases ih h3 with h4 | ⟨h4, h5⟩
      · refine Or.inl (.step h4 ?_)
        rw [(at_left h3).1, (at_left hk).2] at h2; exact h2
      · exact Or.inr ⟨h4, .step h5 h2⟩
    · subst h3
      exact Or.inr ⟨h1, .base (by rw [at_last.1] at h2; exact h2)⟩
theorem adds_loop {N : List Nd} {x : Nd} (hN : ¬ Loopy N) : Loopy (N ++ [x]) ↔ AddLoop N x := by
  constructor
  · rintro ⟨k, hk, hc⟩
    refine Classical.byContradiction fun hno => ?_
    rw [List.length_append] at hk
    simp only [List.length_cons, List.length_nil] at hk
    rcases (by omega : k < N.length ∨ k = N.length) with h1 | h1
    · rw [(at_left h1).1] at hc
      rcases add_part hc h1 with h2 | ⟨h2, h3⟩
      · exact hN ⟨k, h1, h2⟩
      · have h4 := Comes.trans h3 (by rw [(at_left h1).1]; exact h2)
        exact absurd (add_own hno h4).1 (Nat.lt_irrefl _)
    · subst h1
      rw [at_last.1] at hc
      exact absurd (add_own hno hc).1 (Nat.lt_irrefl _)
  · intro h
    refine ⟨N.length, by simp, ?_⟩
    rw [at_last.1]
    rcases h with h | ⟨j, h1, h2⟩
    · exact .base (by rw [at_last.2]; exact h)
    · exact .step (comes_lift h1) (by rw [(at_left h1.lt).1, at_last.2]; exact h2)
end Gr
