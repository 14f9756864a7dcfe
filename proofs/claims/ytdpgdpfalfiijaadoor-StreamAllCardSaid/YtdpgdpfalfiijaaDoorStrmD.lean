/- One field more: the words (chapter 3). -/
import Derived.Test.YtdpgdpfalfiijaaDoorStrmC
namespace Go.Proofs.YtdpgdpfalfiijaaDoor
open Go.ChangeShapes Go.WideShapes Go.ChangeAt Go.RowKit
set_option linter.unusedVariables false
set_option linter.unusedSimpArgs false

theorem hasB_mem {l k : List Fld} (h : ∀ x, x ∈ l ↔ x ∈ k) (s : ByteArray) : hasB l s = hasB k s := by
  unfold hasB
  rw [Bool.eq_iff_iff, List.any_eq_true, List.any_eq_true]
  constructor
  · rintro ⟨x, hx, e⟩; exact ⟨x, (h x).1 hx, e⟩
  · rintro ⟨x, hx, e⟩; exact ⟨x, (h x).2 hx, e⟩
theorem errF_mem : ∀ (l : List Fld) {m k : List Fld}, (∀ x, x ∈ m ↔ x ∈ k) → errF m l = errF k l
  | [], m, k, h => by cases m <;> cases k <;> rfl
  | (s, c) :: r, m, k, h => by
    unfold errF
    rw [hasB_mem h s, errF_mem r (m := (s, c) :: m) (k := (s, c) :: k) (fun x => by simp [h x])]
/-- Behind what is right one more: what is wrong with it. -/
theorem errF_snoc : ∀ (l met : List Fld) (s : ByteArray) (c : Int), errF met l = 0 →
    errF met (l ++ [(s, c)]) = if nameB s = false then 5 else if ¬ (1 ≤ c ∧ c ≤ 3) then 6 else if hasB (l ++ met) s = true then 11 else 0
  | [], met, s, c, _ => by
    simp only [List.nil_append, errF]
  | (t, d) :: r, met, s, c, h => by
    have h' := h
    unfold errF at h'
    by_cases h1 : nameB t = false
    · rw [if_pos h1] at h'; cases h'
    rw [if_neg h1] at h'
    by_cases h2 : ¬ (1 ≤ d ∧ d ≤ 3)
    · rw [if_pos h2] at h'; cases h'
    rw [if_neg h2] at h'
    by_cases h3 : hasB met t = true
    · rw [if_pos h3] at h'; cases h'
    rw [if_neg h3] at h'
    rw [List.cons_append]
    show (if nameB t = false then 5 else if ¬ (1 ≤ d ∧ d ≤ 3) then 6 else if hasB met t = true then 11 else errF ((t, d) :: met) (r ++ [(s, c)])) = _
    rw [if_neg h1, if_neg h2, if_neg h3, errF_snoc r _ s c h']
    rw [hasB_mem (l := r ++ (t, d) :: met) (k := (t, d) :: r ++ met) (fun x => by simp only [List.mem_append, List.mem_cons, List.cons_append]; constructor <;> (intro h; rcases h with h | h | h <;> simp_all))]
theorem at_has (F : List Fld) (s : ByteArray) : decide (0 ≤ idxB (fun y : Fld => isN s y.1) F) = hasB F s := by
  rw [Bool.eq_iff_iff, decide_eq_true_eq]
  unfold idxB hasB
  rw [List.any_eq_true]
  constructor
  · intro h
    split at h
    · rename_i hlt
      exact ⟨_, List.getElem_mem hlt, List.findIdx_getElem (w := hlt)⟩
    · omega
  · rintro ⟨x, hx, e⟩
    have := List.findIdx_lt_length_of_exists (p := fun y : Fld => isN s y.1) ⟨x, hx, e⟩
    rw [if_pos this]; omega
/-- What is wrong with the laws' own stream with one field more. -/
theorem own_more (c : Nat) (l : List UInt8) (s : ByteArray) (k : Int) : rightN (ownN c) (ownF 0 l ++ [(s, k)]) =
    if (ownF 0 l).length = 6 then 4 else if nameB s = false then 5 else if ¬ (1 ≤ k ∧ k ≤ 3) then 6 else if hasB (ownF 0 l) s = true then 11 else 0 := by
  have h := own_right c l
  obtain ⟨h1, h2, h3⟩ := right_ok h
  have he : errF [] (ownF 0 l) = 0 := own_err l 0 [] (fun j _ _ => rfl)
  unfold rightN
  rw [if_neg (by rw [h1]; simp), List.length_append]
  by_cases h6 : (ownF 0 l).length = 6
  · rw [if_pos h6, if_pos (by simp only [List.length_cons, List.length_nil]; omega)]
  · rw [if_neg h6, if_neg (by simp only [List.length_cons, List.length_nil]; omega), errF_snoc _ _ _ _ he, List.append_nil]
/-- Each own field is found at its place. -/
theorem own_place (l : List UInt8) (i : Nat) (h : i < (ownF 0 l).length) : idxB (fun y : Fld => isN ((ownF 0 l)[i]'h).1 y.1) (ownF 0 l) = i := by
  have hlen := ownF_length l 0 (by omega)
  have hget : ∀ j (hj : j < (ownF 0 l).length), ((ownF 0 l)[j]'hj).1 = fldTab.getD j ⟨#[]⟩ := fun j hj => by
    rw [ownF_get l 0 j hj (by omega), Nat.zero_add]; rfl
  refine idxB_found (p := fun y : Fld => isN ((ownF 0 l)[i]'h).1 y.1) h (by unfold isN; simp) (fun j hj hji => ?_)
  show isN ((ownF 0 l)[i]'h).1 ((ownF 0 l)[j]'hj).1 = false
  rw [hget i h, hget j hj, isN_data]
  exact fldTab_apart ⟨j, by omega⟩ ⟨i, by omega⟩ (by simp; omega)
end Go.Proofs.YtdpgdpfalfiijaaDoor
