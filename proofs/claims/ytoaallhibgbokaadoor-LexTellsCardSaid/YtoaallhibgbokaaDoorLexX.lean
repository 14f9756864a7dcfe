/- Words of texts: bytes that begin nothing; spaces alone. -/
import Derived.Test.YtoaallhibgbokaaDoorLexH
namespace Go.Proofs.YtoaallhibgbokaaDoor
open Go.ChangeShapes Go.WideShapes Go.ChangeAt Go.RowKit
set_option linter.unusedVariables false
set_option linter.unusedSimpArgs false

def badL : List UInt8 := [64, 34, 36, 38, 0, 127, 128, 255, 123, 125, 126, 94, 92, 63]
theorem signOf_none (s : Bs) : ∀ (ss : List Bs) (b : Bs), (∀ g ∈ ss, g.isPrefixOf s = false) → signOf s ss b = b
  | [], b, _ => rfl
  | g :: ss, b, h => by
    rw [signOf_cons, h g (List.mem_cons_self ..)]
    exact signOf_none s ss b (fun x hx => h x (List.mem_cons_of_mem _ hx))
theorem bad_first {c : UInt8} (hc : c ∈ badL) (s : Bs) (h : c = 38 → ∀ r, s ≠ 38 :: r) : isSp c = false ∧ firstT (c :: s) = none := by
  have h1 := (show ∀ c ∈ badL, isSp c = false ∧ isLt c = false ∧ isDg c = false ∧ c ≠ 39 by decide) c hc
  refine ⟨h1.1, ?_⟩
  rw [firstT_cons, if_neg (by rw [h1.2.1]; decide), if_neg (by rw [h1.2.2.1]; decide), if_neg h1.2.2.2]
  have hs : signT (c :: s) = [] := by
    refine signOf_none _ _ _ (fun g hg => ?_)
    by_cases h38 : c = 38
    · subst h38
      have hh := h rfl
      simp only [signL, List.mem_cons, List.not_mem_nil, or_false] at hg
      rcases hg with rfl | rfl | rfl | rfl | rfl | rfl | rfl | rfl | rfl | rfl | rfl | rfl | rfl | rfl | rfl | rfl | rfl | rfl | rfl | rfl | rfl | rfl | rfl | rfl | rfl
      all_goals
        first
          | rfl
          | (cases s with
             | nil => rfl
             | cons d r =>
               have hd : d ≠ 38 := fun e => hh r (by rw [e])
               show (((38 : UInt8) == 38) && ([38].isPrefixOf (d :: r))) = false
               simp [List.isPrefixOf, Ne.symm hd])
    · have h2 := (show ∀ c ∈ badL, c ≠ 38 → ∀ g ∈ signL, g.head? ≠ some c by decide) c hc h38 g hg
      cases g with
      | nil => exact absurd (sign_len [] hg) (by simp)
      | cons d r =>
        have hd : d ≠ c := fun e => h2 (by rw [e]; rfl)
        show ((d == c) && r.isPrefixOf s) = false
        simp [hd]
  unfold signTk
  rw [hs]; rfl
theorem lexR_spaces : ∀ (n f p : Nat), n < f → lexR f (List.replicate n 32) p = .ok []
  | 0, f, p, h => by obtain ⟨g, rfl⟩ : ∃ g, f = g + 1 := ⟨f - 1, by omega⟩; rfl
  | n + 1, f, p, h => by
    obtain ⟨g, rfl⟩ : ∃ g, f = g + 1 := ⟨f - 1, by omega⟩
    rw [List.replicate_succ, lexR_sp g p _ (by decide)]
    exact lexR_spaces n g (p + 1) (by omega)
theorem res_spaces (n : Nat) (h : n ≤ 2048) : resT (List.replicate n 32) = ([], n, 0) := by
  unfold resT
  rw [if_neg (by rw [List.length_replicate]; omega)]
  show (match lexR ((List.replicate n (32 : UInt8)).length + 1) (List.replicate n 32) 0 with | .ok L => (L, (List.replicate n (32 : UInt8)).length, (0 : Int)) | .error p => ([], p, 2)) = _
  rw [lexR_spaces n _ 0 (by rw [List.length_replicate]; exact Nat.lt_succ_self _), List.length_replicate]
theorem res_long {s : Bs} (h : 2048 < s.length) : resT s = ([], 2048, 4) := by unfold resT; rw [if_pos h]
/-- Behind words that end with a space a byte that begins nothing is an error, where it stands. -/
theorem res_bad {t : ByteArray} {L : List Tk} (ht : lexL t.data.toList = .ok L) (he : t.data.toList = [] ∨ EndSp t.data.toList) {c : UInt8} (hc : c ∈ badL) {s : Bs} (h : c = 38 → ∀ r, s ≠ 38 :: r) {u : Bs} (hu : u = t.data.toList ++ c :: s) (hl : u.length ≤ 2048) : resT u = ([], t.size, 2) := by
  subst hu
  obtain ⟨h1, h2⟩ := bad_first hc s h
  unfold resT
  rw [if_neg (by omega)]
  show (match lexR ((t.data.toList ++ c :: s).length + 1) (t.data.toList ++ c :: s) 0 with | .ok L => (L, (t.data.toList ++ c :: s).length, (0 : Int)) | .error p => ([], p, 2)) = _
  rw [lexR_bad h1 h2 ht he (Nat.lt_succ_self _)]
  have : t.data.toList.length = t.size := by simp
  rw [Nat.zero_add, this]
end Go.Proofs.YtoaallhibgbokaaDoor
