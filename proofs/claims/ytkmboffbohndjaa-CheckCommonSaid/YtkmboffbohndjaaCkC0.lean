/- CheckCommon: mathematics. -/
import Derived.Test.YtkmboffbohndjaaCkC13
namespace Go.Proofs.Ytkmboffbohndjaa
open Go.ChangeShapes Go.WideShapes Go.ChangeAt Go.RowKit Go.Maps
set_option linter.unusedVariables false
set_option linter.unusedSimpArgs false

def fldC (x y j : Nat) : Option Fld := if bitN x j = 1 then some (nmC j, 1 + (bitN y j : Int)) else none
def fldsC (x y k : Nat) : List Fld := (List.range k).filterMap (fldC x y)
theorem fldsC_yes {x y k : Nat} (h : bitN x k = 1) : fldsC x y (k + 1) = fldsC x y k ++ [(nmC k, 1 + (bitN y k : Int))] := by
  unfold fldsC; rw [List.range_succ, List.filterMap_append]; congr 1
  simp [fldC, h]
theorem fldsC_no {x y k : Nat} (h : ¬ bitN x k = 1) : fldsC x y (k + 1) = fldsC x y k := by
  unfold fldsC; rw [List.range_succ, List.filterMap_append]
  simp [fldC, h]
theorem fldsC_len (x y k : Nat) : (fldsC x y k).length ≤ k := Nat.le_trans (List.length_filterMap_le _ _) (by simp)
theorem fldsC_names (x y : Nat) : ∀ l : List Nat, ((l.filterMap (fldC x y)).map (·.1)).Sublist (l.map nmC)
  | [] => by simp
  | j :: r => by
    rw [List.filterMap_cons, List.map_cons]
    by_cases h : bitN x j = 1
    · rw [show fldC x y j = some (nmC j, 1 + (bitN y j : Int)) by unfold fldC; rw [if_pos h]]
      exact List.Sublist.cons_cons _ (fldsC_names x y r)
    · rw [show fldC x y j = none by unfold fldC; rw [if_neg h]]
      exact List.Sublist.cons _ (fldsC_names x y r)
theorem fldsC_unlike (x y : Nat) : ((fldsC x y 6).map (·.1)).Nodup := (fldsC_names x y (List.range 6)).nodup (by decide +kernel)
theorem fldsC_ok (x y k : Nat) : ∀ f ∈ fldsC x y k, okFld f := by
  intro f hf
  obtain ⟨j, _, hj⟩ := List.mem_filterMap.1 hf
  unfold fldC at hj
  split at hj
  · obtain rfl := Option.some.inj hj
    have := bitN_le y j
    refine ⟨?_, wf_mk ⟨by simp only; omega, by simp only; omega⟩⟩
    show (nmC j).size ≤ maxLen
    have : (nmC j).size = 1 := by unfold nmC; repeat' split <;> try rfl
    unfold maxLen; omega
  · cases hj
theorem unlike_get {F : List Fld} (hu : (F.map (·.1)).Nodup) {i j : Nat} (hi : i < F.length) (hj : j < F.length) (h : (F[i]'hi).1 = (F[j]'hj).1) : i = j := by
  have hp := List.pairwise_iff_getElem.1 hu
  rcases Nat.lt_trichotomy i j with h1 | h1 | h1
  · exact absurd h (by have := hp i j (by simpa using hi) (by simpa using hj) h1; simpa using this)
  · exact h1
  · exact absurd h.symm (by have := hp j i (by simpa using hj) (by simpa using hi) h1; simpa using this)
/-- Is a field among some of unlike names: what is found by its name tells it. -/
theorem at_unlike {F : List Fld} (hu : (F.map (·.1)).Nodup) (f : Fld) :
    (inF f F = true ∧ ∃ (i : Nat) (hi : i < F.length), atF F f.1 = (i : Int) ∧ (F[i]'hi).2 = f.2) ∨ (inF f F = false ∧ atF F f.1 = -1) ∨ (inF f F = false ∧ ∃ (i : Nat) (hi : i < F.length), atF F f.1 = (i : Int) ∧ ¬ (F[i]'hi).2 = f.2) := by
  rcases at_field f.1 F with ⟨h1, h2⟩ | ⟨i, hi, k, h1, h2, h3⟩
  · refine Or.inr (Or.inl ⟨?_, h1⟩)
    rw [← Bool.not_eq_true, inF_iff]
    intro hm
    unfold fieldK at h2
    rw [Option.map_eq_none_iff, List.find?_eq_none] at h2
    exact h2 f hm (sameB_iff.2 rfl)
  · by_cases hk : k = f.2
    · refine Or.inl ⟨inF_iff.2 ?_, i, hi, h1, by rw [h2]; exact hk⟩
      rw [show f = F[i]'hi by rw [h2, hk]]
      exact List.getElem_mem hi
    · refine Or.inr (Or.inr ⟨?_, i, hi, h1, by rw [h2]; exact hk⟩)
      rw [← Bool.not_eq_true, inF_iff]
      intro hm
      obtain ⟨j, hj, hje⟩ := List.getElem_of_mem hm
      have := unlike_get hu hi hj (by rw [h2, hje])
      subst this
      rw [h2] at hje
      exact hk (by rw [← hje])
theorem filt_yes {α : Type} (p : α → Bool) (l : List α) (i : Nat) (hi : i < l.length) (hp : p (l[i]'hi) = true) :
    ((l.take (i + 1)).filter p).length = ((l.take i).filter p).length + 1 ∧ ∃ h : ((l.take i).filter p).length < (l.filter p).length, (l.filter p)[((l.take i).filter p).length]'h = l[i]'hi := by
  have e1 : (l.take (i + 1)).filter p = (l.take i).filter p ++ [l[i]'hi] := by
    rw [List.take_succ_eq_append_getElem hi, List.filter_append]; simp [hp]
  have e2 : l.filter p = ((l.take i).filter p ++ [l[i]'hi]) ++ (l.drop (i + 1)).filter p := by
    rw [← e1, ← List.filter_append, List.take_append_drop]
  refine ⟨by rw [e1]; simp, by rw [e2]; simp, ?_⟩
  simp only [e2]
  rw [List.getElem_append_left (by simp), List.getElem_append_right (Nat.le_refl _)]
  simp
theorem filt_no {α : Type} (p : α → Bool) (l : List α) (i : Nat) (hi : i < l.length) (hp : p (l[i]'hi) = false) : ((l.take (i + 1)).filter p).length = ((l.take i).filter p).length := by
  rw [List.take_succ_eq_append_getElem hi, List.filter_append]; simp [hp]
abbrev strC (p : Nat × Nat) : SF := (ys, fldsC p.1 p.2 6)
theorem strC_ok (P : List (Nat × Nat)) : OkS (P.map strC) := by
  intro x hx
  obtain ⟨p, _, rfl⟩ := List.mem_map.1 hx
  exact ⟨by have := fldsC_len p.1 p.2 6; show (fldsC p.1 p.2 6).length ≤ 100; omega, fldsC_ok _ _ _⟩
theorem all_snoc {α : Type} (p : α → Bool) (l : List α) (k : Nat) (hk : k < l.length) : (l.take (k + 1)).all p = ((l.take k).all p && p (l[k]'hk)) := by
  rw [List.take_succ_eq_append_getElem hk, List.all_append]; simp
end Go.Proofs.Ytkmboffbohndjaa
