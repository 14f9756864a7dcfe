/- Plain mathematics for stage 2: the laws' own values, and their order. -/
import Derived.Test.YtomldmdnoalbiaaDoorNum21
import Derived.Test.YtomldmdnoalbiaaDoorValueS
import Derived.Sort.Walk0
namespace Go.Proofs.YtomldmdnoalbiaaDoor
open Val
set_option linter.unusedVariables false

theorem own_right (c n : Int) (s : ByteArray) (c0 : 0 ≤ c) : right (ownK c) (ownN c n) (ownS c s) = true := by
  rcases (by omega : c % 3 = 0 ∨ c % 3 = 1 ∨ c % 3 = 2) with h | h | h
  · unfold ownK ownN ownS; simp only [h]; unfold right; simp; rfl
  · unfold ownK ownN ownS; simp only [h]; unfold right; simp; exact ⟨rfl, by omega⟩
  · unfold ownK ownN ownS; simp only [h]; unfold right; simp; omega
theorem own_kind (c : Int) (c0 : 0 ≤ c) : ownK c = 1 ∨ ownK c = 2 ∨ ownK c = 3 := by
  unfold ownK; split
  · exact Or.inl rfl
  · split
    · exact Or.inr (Or.inl rfl)
    · exact Or.inr (Or.inr rfl)
theorem ownN_lo (c n : Int) (h : -9223372036854775808 ≤ n) : -9223372036854775808 ≤ ownN c n := by unfold ownN; split; exact h; split <;> omega
theorem ownN_hi (c n : Int) (h : n ≤ 9223372036854775807) : ownN c n ≤ 9223372036854775807 := by unfold ownN; split; exact h; split <;> omega
theorem ownS_size (c : Int) (s : ByteArray) : (ownS c s).size ≤ 64 := by
  unfold ownS; split
  · rw [ByteArray.size_extract]; omega
  · decide

theorem bless {s t : ByteArray} : Op.bytesLess s.toList t.toList = decide (s.toList < t.toList) := Go.Proofs.bytesLess_eq _ _
theorem list_tri (x y : List UInt8) : x < y ∨ x = y ∨ y < x := by
  rcases Classical.em (x < y) with h | h
  · exact Or.inl h
  · rcases Classical.em (y < x) with h2 | h2
    · exact Or.inr (Or.inr h2)
    · exact Or.inr (Or.inl (List.le_antisymm (List.not_lt.1 h2) (List.not_lt.1 h)))
theorem cmpS_lt {s t : ByteArray} (h : s.toList < t.toList) : cmpS s t = -1 := by unfold cmpS; rw [bless, if_pos (by simpa using h)]
theorem cmpS_eq {s t : ByteArray} (h : s.toList = t.toList) : cmpS s t = 0 := by
  unfold cmpS; rw [bless, if_neg (by simp [h, List.lt_irrefl]), if_pos (by simpa using h)]
theorem cmpS_gt {s t : ByteArray} (h : t.toList < s.toList) : cmpS s t = 1 := by
  unfold cmpS
  have h1 : ¬ s.toList < t.toList := fun h2 => List.lt_irrefl _ (List.lt_trans h h2)
  have h2 : ¬ s.toList = t.toList := fun h2 => by rw [h2] at h; exact List.lt_irrefl _ h
  rw [bless, if_neg (by simpa using h1), if_neg (by simpa using h2)]
theorem toList_inj {s t : ByteArray} (h : s.toList = t.toList) : s = t := by
  rw [Lib.toList_data, Lib.toList_data] at h
  exact ByteArray.ext (Array.toList_inj.1 h)

/-- The order of two right values of one kind. -/
def cmpV (k n : Int) (s : ByteArray) (m : Int) (t : ByteArray) : Int := if k = 3 then cmpS s t else cmpI n m
inductive Rel3 (k n : Int) (s : ByteArray) (m : Int) (t : ByteArray) : Int → Int → Prop where
  | lt : (¬ n = m ∨ ¬ s.toList = t.toList) → Rel3 k n s m t (-1) 1
  | eq : n = m → s = t → Rel3 k n s m t 0 0
  | gt : (¬ n = m ∨ ¬ s.toList = t.toList) → Rel3 k n s m t 1 (-1)
theorem cmpI_lt {n m : Int} (h : n < m) : cmpI n m = -1 := by unfold cmpI; rw [if_pos h]
theorem cmpI_eq (n : Int) : cmpI n n = 0 := by unfold cmpI; rw [if_neg (by omega), if_neg (by omega)]
theorem cmpI_gt {n m : Int} (h : m < n) : cmpI n m = 1 := by unfold cmpI; rw [if_neg (by omega), if_pos h]
theorem rel3 {k n : Int} {s : ByteArray} {m : Int} {t : ByteArray} (h1 : right k n s = true) (h2 : right k m t = true) : Rel3 k n s m t (cmpV k n s m t) (cmpV k m t n s) := by
  unfold cmpV
  by_cases hk : k = 3
  · subst hk
    rw [if_pos rfl, if_pos rfl]
    have e1 := (right_text h1).1
    have e2 := (right_text h2).1
    rcases list_tri s.toList t.toList with h | h | h
    · rw [cmpS_lt h, cmpS_gt h]; exact .lt (Or.inr fun h2 => by rw [h2] at h; exact List.lt_irrefl _ h)
    · rw [cmpS_eq h, cmpS_eq h.symm]; exact .eq (by omega) (toList_inj h)
    · rw [cmpS_gt h, cmpS_lt h]; exact .gt (Or.inr fun h2 => by rw [h2] at h; exact List.lt_irrefl _ h)
  · rw [if_neg hk, if_neg hk]
    have hz : s.size = 0 ∧ t.size = 0 := by
      rcases right_kind h1 with rfl | rfl | rfl
      · exact ⟨right_int h1, right_int h2⟩
      · exact ⟨(right_bool h1).1, (right_bool h2).1⟩
      · exact absurd rfl hk
    have he : s = t := toList_inj (by rw [(size_nil s).1 hz.1, (size_nil t).1 hz.2])
    rcases (by omega : n < m ∨ n = m ∨ m < n) with h | rfl | h
    · rw [cmpI_lt h, cmpI_gt h]; exact .lt (Or.inl (by omega))
    · rw [cmpI_eq]; exact .eq rfl he
    · rw [cmpI_gt h, cmpI_lt h]; exact .gt (Or.inl (by omega))
/-- From two to three. -/
theorem cmpV_trans {k n : Int} {s : ByteArray} {m : Int} {t : ByteArray} {o : Int} {u : ByteArray} (h1 : right k n s = true) (h2 : right k m t = true) (h3 : right k o u = true)
    (hx : cmpV k n s m t ≤ 0) (hz : cmpV k m t o u ≤ 0) : cmpV k n s o u = if cmpV k n s m t = 0 ∧ cmpV k m t o u = 0 then 0 else -1 := by
  unfold cmpV at *
  by_cases hk : k = 3
  · subst hk
    rw [if_pos rfl] at hx hz ⊢
    rw [if_pos rfl, if_pos rfl]
    rcases list_tri s.toList t.toList with h | h | h
    · rcases list_tri t.toList u.toList with h' | h' | h'
      · rw [cmpS_lt h, cmpS_lt h', cmpS_lt (List.lt_trans h h')]; rfl
      · rw [cmpS_lt h, cmpS_eq h', cmpS_lt (h' ▸ h)]; rfl
      · rw [cmpS_gt h'] at hz; exact absurd hz (by decide)
    · rcases list_tri t.toList u.toList with h' | h' | h'
      · rw [cmpS_eq h, cmpS_lt h', cmpS_lt (h.symm ▸ h')]; rfl
      · rw [cmpS_eq h, cmpS_eq h', cmpS_eq (h.trans h')]; rfl
      · rw [cmpS_gt h'] at hz; exact absurd hz (by decide)
    · rw [cmpS_gt h] at hx; exact absurd hx (by decide)
  · rw [if_neg hk] at hx hz ⊢
    rw [if_neg hk, if_neg hk]
    rcases (by omega : n < m ∨ n = m ∨ m < n) with h | rfl | h
    · rcases (by omega : m < o ∨ m = o ∨ o < m) with h' | rfl | h'
      · rw [cmpI_lt h, cmpI_lt h', cmpI_lt (by omega)]; rfl
      · rw [cmpI_lt h, cmpI_eq]; rfl
      · rw [cmpI_gt h'] at hz; exact absurd hz (by decide)
    · rcases (by omega : n < o ∨ n = o ∨ o < n) with h' | rfl | h'
      · rw [cmpI_eq, cmpI_lt h']; rfl
      · rw [cmpI_eq]; rfl
      · rw [cmpI_gt h'] at hz; exact absurd hz (by decide)
    · rw [cmpI_gt h] at hx; exact absurd hx (by decide)
end Go.Proofs.YtomldmdnoalbiaaDoor
