/- Words of texts: bytes as a text; a quote behind a letter. -/
import Derived.Test.YtoaallhibgbokaaDoorLexX
import Derived.Test.YtoaallhibgbokaaDoorBuf
import Derived.Laws.BytesArg
namespace Go.Proofs.YtoaallhibgbokaaDoor
open Go.ChangeShapes Go.WideShapes Go.ChangeAt Go.RowKit
set_option linter.unusedVariables false
set_option linter.unusedSimpArgs false

abbrev byF (c : UInt8) : List Value := [.int .u8 (c.toNat : Int)]
theorem own_text {W : World} {B : Nat} {v : Value} {bs : Bs} (h : Own W B 5 1 byF v bs) : (convert 22 9 v).run Tryd.prog W = .ok (.string (mk bs)) W := by
  have h' := Own.at_ (f := byF) (k := 1) (fun _ => rfl) h
  obtain ⟨A, cap, rfl, h1, h2, h3, h4⟩ := h'
  cases A with
  | none =>
    have hc := h3 rfl
    have : bs = [] := List.length_eq_zero_iff.1 (by omega)
    subst this
    exact run_convert_bytes_nil (P := Tryd.prog) W 22 5 Tryd.underlying22 Tryd.underlying5 _ _ 9 Tryd.underlying9
  | some a =>
    exact run_convert_bytes_back (P := Tryd.prog) W 22 9 5 a cap bs Tryd.underlying22 Tryd.underlying5 Tryd.underlying9 (fun j hj => by
      have := h4 a rfl j hj 0 _ rfl
      rw [Nat.mul_one, Nat.add_zero] at this
      exact this)
theorem tw_quote (t : Bs) (h : (39 : UInt8) ∉ t) : (t ++ [39]).takeWhile (fun c => c != 39) = t ∧ t.takeWhile (fun c => c != 39) = t := by
  have h6 : ∀ x ∈ t, (x != 39) = true := fun x hx => by
    have : x ≠ 39 := fun e => h (e ▸ hx)
    simpa using this
  refine ⟨?_, ?_⟩
  · rw [List.takeWhile_append_of_pos h6]; simp
  · have := List.takeWhile_append_of_pos (l₂ := []) h6
    simpa using this
theorem first_x (r : Bs) : firstT (120 :: 39 :: r) = some (1, [120], 0, 1) := rfl
theorem lexR_x (f : Nat) (r : Bs) : lexR (f + 1) (120 :: 39 :: r) 0 = match lexR f (39 :: r) 1 with
  | Except.error q => Except.error q
  | Except.ok L => Except.ok (⟨1, [120], 0, 0⟩ :: L) := lexR_one f 0 (by decide) (first_x r)
theorem res_quote (t : Bs) (h : (39 : UInt8) ∉ t) (hl : t.length ≤ 100) : resT (120 :: 39 :: (t ++ [39])) = if t.length ≤ 64 then ([⟨1, [120], 0, 0⟩, ⟨3, t, 0, 1⟩], t.length + 3, 0) else ([], 1, 2) := by
  have hlen : (120 :: 39 :: (t ++ [39]) : Bs).length = t.length + 3 := by simp
  unfold resT
  rw [if_neg (by rw [hlen]; omega), hlen]
  have hq : firstT (39 :: (t ++ [39])) = if t.length ≤ 64 then some (3, t, 0, t.length + 2) else none := by
    show quoteR ((t ++ [39]).takeWhile (fun c => c != 39)) (t ++ [39]).length = _
    rw [(tw_quote t h).1]
    unfold quoteR
    have hlt : t.length < (t ++ [39]).length := by simp
    rw [decide_eq_true hlt]
    by_cases h64 : t.length ≤ 64
    · rw [decide_eq_true h64, if_pos h64]; rfl
    · rw [decide_eq_false h64, if_neg h64]; rfl
  have hL : lexL (120 :: 39 :: (t ++ [39])) = if t.length ≤ 64 then .ok [⟨1, [120], 0, 0⟩, ⟨3, t, 0, 1⟩] else .error 1 := by
    show lexR ((120 :: 39 :: (t ++ [39]) : Bs).length + 1) (120 :: 39 :: (t ++ [39])) 0 = _
    rw [hlen, lexR_x]
    by_cases h64 : t.length ≤ 64
    · rw [if_pos h64] at hq ⊢
      have hd : (39 :: (t ++ [39]) : Bs).drop (t.length + 2) = [] := List.drop_of_length_le (by simp)
      have h2 := lexR_one (t.length + 2) 1 (by decide) hq
      rw [hd] at h2
      rw [show t.length + 3 = (t.length + 2) + 1 from rfl, h2, show t.length + 2 = (t.length + 1) + 1 from rfl, lexR_nil]
    · rw [if_neg h64] at hq ⊢
      rw [show t.length + 3 = (t.length + 2) + 1 from rfl, lexR_no _ 1 (by decide) hq]
  rw [hL]
  by_cases h64 : t.length ≤ 64
  · rw [if_pos h64, if_pos h64]
  · rw [if_neg h64, if_neg h64]
theorem res_open (t : Bs) (h : (39 : UInt8) ∉ t) (hl : t.length ≤ 100) : resT (120 :: 39 :: t) = ([], 1, 2) := by
  have hlen : (120 :: 39 :: t : Bs).length = t.length + 2 := by simp
  unfold resT
  rw [if_neg (by rw [hlen]; omega), hlen]
  have hq : firstT (39 :: t) = none := by
    show quoteR (t.takeWhile (fun c => c != 39)) t.length = _
    rw [(tw_quote t h).2]
    unfold quoteR
    rw [decide_eq_false (Nat.lt_irrefl _)]; rfl
  have hL : lexL (120 :: 39 :: t) = .error 1 := by
    show lexR ((120 :: 39 :: t : Bs).length + 1) (120 :: 39 :: t) 0 = _
    rw [hlen, lexR_x, show t.length + 2 = (t.length + 1) + 1 from rfl, lexR_no _ 1 (by decide) hq]
  rw [hL]
def sliceLen : Value → Nat
  | .slice _ n _ => n
  | _ => 0
end Go.Proofs.YtoaallhibgbokaaDoor
