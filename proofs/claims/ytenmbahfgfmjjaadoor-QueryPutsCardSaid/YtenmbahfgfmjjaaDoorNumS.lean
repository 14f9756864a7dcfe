/- Plain mathematics: numerals, and what is shown. -/
import Derived.Test.YtenmbahfgfmjjaaDoorQ3
import Derived.Test.YtenmbahfgfmjjaaDoorQ1

namespace Go.Proofs.YtenmbahfgfmjjaaDoor
open Val
set_option linter.unusedVariables false

/-- What digits come to. -/
def numOfDigits (l : List UInt8) : Nat := l.foldl (fun a c => a * 10 + (c.toNat - 48)) 0
theorem numOfDigits_dec : ∀ (n u : Nat), u ≤ n → numOfDigits (Lib.decDigits u) = u ∧ (∀ c ∈ Lib.decDigits u, 48 ≤ c.toNat ∧ c.toNat ≤ 57) ∧ Lib.decDigits u ≠ [] := by
  intro n
  induction n with
  | zero => intro u h; obtain rfl : u = 0 := by omega
            rw [Lib.decDigits, dif_pos (by decide)]; exact ⟨by decide, by decide, by decide⟩
  | succ n ih =>
    intro u h
    by_cases hu : u < 10
    · rw [Lib.decDigits, dif_pos hu]
      refine ⟨?_, ?_, by simp⟩
      · simp [numOfDigits]; omega
      · intro c hc; simp at hc; subst hc; simp; omega
    · rw [Lib.decDigits, dif_neg hu]
      obtain ⟨h1, h2, h3⟩ := ih (u / 10) (by omega)
      refine ⟨?_, ?_, by simp⟩
      · unfold numOfDigits at h1 ⊢
        rw [List.foldl_append, h1]
        simp; omega
      · intro c hc
        rcases List.mem_append.1 hc with hc | hc
        · exact h2 c hc
        · simp at hc; subst hc; simp; omega
theorem decDigits_inj {u v : Nat} (h : Lib.decDigits u = Lib.decDigits v) : u = v := by
  rw [← (numOfDigits_dec u u (Nat.le_refl _)).1, h, (numOfDigits_dec v v (Nat.le_refl _)).1]
theorem decDigits_head (u : Nat) : ∃ c l, Lib.decDigits u = c :: l ∧ 48 ≤ c.toNat ∧ c.toNat ≤ 57 := by
  obtain ⟨_, h2, h3⟩ := numOfDigits_dec u u (Nat.le_refl _)
  rcases h : Lib.decDigits u with _ | ⟨c, l⟩
  · exact absurd h h3
  · rw [h] at h2; exact ⟨c, l, rfl, h2 c (by simp)⟩
theorem itoa_head (n : Int) : ∃ c l, Lib.itoa n = c :: l ∧ (c.toNat = 45 ∨ (48 ≤ c.toNat ∧ c.toNat ≤ 57)) := by
  unfold Lib.itoa
  split
  · exact ⟨_, _, rfl, Or.inl rfl⟩
  · obtain ⟨c, l, h, h1⟩ := decDigits_head n.toNat
    exact ⟨c, l, h, Or.inr h1⟩
theorem itoa_inj {n m : Int} (h : Lib.itoa n = Lib.itoa m) : n = m := by
  unfold Lib.itoa at h
  split at h <;> split at h
  · have := decDigits_inj (List.cons.inj h).2; omega
  · obtain ⟨c, l, h1, h2, _⟩ := decDigits_head m.toNat
    rw [h1] at h
    have := (List.cons.inj h).1; subst this; exact absurd h2 (by decide)
  · obtain ⟨c, l, h1, h2, _⟩ := decDigits_head n.toNat
    rw [h1] at h
    have := (List.cons.inj h).1; subst this; exact absurd h2 (by decide)
  · have := decDigits_inj h; omega
theorem formatBool_cases (b : Bool) : Lib.formatBool b = [116, 114, 117, 101] ∧ b = true ∨ Lib.formatBool b = [102, 97, 108, 115, 101] ∧ b = false := by
  cases b
  · right; exact ⟨by decide +kernel, rfl⟩
  · left; exact ⟨by decide +kernel, rfl⟩

/-- The first byte of what is shown of a right value. -/
theorem show_head {k n : Int} {s : ByteArray} (h : right k n s = true) : ∃ c l, showL k n s = c :: l ∧ ((k = 1 ∧ (c.toNat = 45 ∨ (48 ≤ c.toNat ∧ c.toNat ≤ 57))) ∨ (k = 2 ∧ (c.toNat = 116 ∨ c.toNat = 102)) ∨ (k = 3 ∧ c.toNat = 39)) := by
  rcases right_kind h with rfl | rfl | rfl
  · rw [show_int h]; obtain ⟨c, l, h1, h2⟩ := itoa_head n; exact ⟨c, l, h1, Or.inl ⟨rfl, h2⟩⟩
  · rw [show_bool h]
    rcases formatBool_cases (n == 1) with ⟨h1, _⟩ | ⟨h1, _⟩
    · exact ⟨_, _, h1, Or.inr (Or.inl ⟨rfl, Or.inl rfl⟩)⟩
    · exact ⟨_, _, h1, Or.inr (Or.inl ⟨rfl, Or.inr rfl⟩)⟩
  · rw [show_text h]; exact ⟨_, _, rfl, Or.inr (Or.inr ⟨rfl, rfl⟩)⟩
theorem show_ne_q {k n : Int} {s : ByteArray} (h : right k n s = true) : showL k n s ≠ [63] := by
  obtain ⟨c, l, h1, h2⟩ := show_head h
  rw [h1]; intro h3
  have := (List.cons.inj h3).1; subst this
  have : (63 : UInt8).toNat = 63 := rfl
  omega
theorem show_inj {k n : Int} {s : ByteArray} {l m : Int} {t : ByteArray} (h1 : right k n s = true) (h2 : right l m t = true) (h : showL k n s = showL l m t) : k = l ∧ n = m ∧ s = t := by
  have hk : k = l := by
    obtain ⟨c, x, e1, g1⟩ := show_head h1
    obtain ⟨d, y, e2, g2⟩ := show_head h2
    rw [e1, e2] at h
    have := (List.cons.inj h).1; subst this
    omega
  subst hk
  rcases right_kind h1 with rfl | rfl | rfl
  · rw [show_int h1, show_int h2] at h
    exact ⟨rfl, itoa_inj h, size0_eq (right_int h1) (right_int h2)⟩
  · rw [show_bool h1, show_bool h2] at h
    obtain ⟨e1, g1⟩ := right_bool h1
    obtain ⟨e2, g2⟩ := right_bool h2
    refine ⟨rfl, ?_, size0_eq e1 e2⟩
    rcases g1 with rfl | rfl <;> rcases g2 with rfl | rfl
    · rfl
    · exact absurd h (by decide +kernel)
    · exact absurd h (by decide +kernel)
    · rfl
  · rw [show_text h1, show_text h2] at h
    have h3 := (List.append_inj' (List.cons.inj h).2 rfl).1
    exact ⟨rfl, by rw [(right_text h1).1, (right_text h2).1], ByteArray.ext (Array.toList_inj.1 h3)⟩
end Go.Proofs.YtenmbahfgfmjjaaDoor
