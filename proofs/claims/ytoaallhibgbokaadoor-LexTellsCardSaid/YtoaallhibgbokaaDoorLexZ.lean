/- Words of texts: digits as a number, behind a sign. -/
import Derived.Test.YtoaallhibgbokaaDoorLexY
namespace Go.Proofs.YtoaallhibgbokaaDoor
open Go.ChangeShapes Go.WideShapes Go.ChangeAt Go.RowKit
set_option linter.unusedVariables false
set_option linter.unusedSimpArgs false

/-- The number that digits spell. -/
def val : Nat → Bs → Nat
  | a, [] => a
  | a, c :: r => val (a * 10 + (c.toNat - 48)) r
theorem val_app : ∀ (D : Bs) (a : Nat) (c : UInt8), val a (D ++ [c]) = val a D * 10 + (c.toNat - 48)
  | [], _, _ => rfl
  | _ :: D, a, c => val_app D _ c
theorem val_le : ∀ (D : Bs) (a : Nat), a ≤ val a D
  | [], _ => Nat.le_refl _
  | c :: D, a => Nat.le_trans (by omega) (val_le D (a * 10 + (c.toNat - 48)))
theorem parseM_val (M : Nat) (hM : M = 18446744073709551615) : ∀ (D : Bs) (a : Nat), (∀ c ∈ D, isDg c = true) → (a ≤ M) → (val a D ≤ M → Lib.parseUintM M a D = .ok (val a D)) ∧ (M < val a D → Lib.parseUintM M a D = .range)
  | [], a, _, ha => ⟨fun _ => rfl, fun h => by have : M < a := h; omega⟩
  | c :: D, a, hd, ha => by
    have hc := isDg_nat (hd c (List.mem_cons_self ..))
    have hle := val_le D (a * 10 + (c.toNat - 48))
    have hv : val a (c :: D) = val (a * 10 + (c.toNat - 48)) D := rfl
    unfold Lib.parseUintM
    rw [if_pos hc, hv]
    by_cases h1 : 1844674407370955162 ≤ a
    · rw [if_pos h1]
      exact ⟨fun h => by omega, fun _ => rfl⟩
    · rw [if_neg h1]
      by_cases h2 : M < a * 10 + (c.toNat - 48)
      · rw [if_pos h2]
        exact ⟨fun h => by omega, fun _ => rfl⟩
      · rw [if_neg h2]
        exact parseM_val M hM D _ (fun d hd' => hd d (List.mem_cons_of_mem _ hd')) (by omega)
theorem parse_val {D : Bs} (h0 : D ≠ []) (hd : ∀ c ∈ D, isDg c = true) : (val 0 D ≤ 9223372036854775807 → Lib.parseIntB 64 D = .ok (val 0 D : Int)) ∧ (9223372036854775807 < val 0 D → Lib.parseIntB 64 D = .range) := by
  obtain ⟨c, r, rfl⟩ := List.exists_cons_of_ne_nil h0
  obtain ⟨h1, h2⟩ := isDg_nat (hd c (List.mem_cons_self ..))
  have hu := parseM_val (2 ^ 64 - 1) (by decide) (c :: r) 0 hd (by omega)
  have n1 : ¬ (c.toNat = 43 ∨ c.toNat = 45) := by omega
  have n2 : ¬ c.toNat = 45 := by omega
  unfold Lib.parseIntB
  simp only
  rw [if_neg n1]
  unfold Lib.parseUintB
  rw [if_neg h0]
  constructor
  · intro h
    rw [hu.1 (by omega)]
    simp only
    rw [if_neg (by rintro ⟨_, h3⟩; have : (2 : Nat) ^ (64 - 1) = 9223372036854775808 := by decide
                   omega), if_neg (fun h3 => n2 h3.1), if_neg n2]
  · intro h
    by_cases h3 : val 0 (c :: r) ≤ 2 ^ 64 - 1
    · rw [hu.1 h3]
      simp only
      rw [if_pos ⟨n2, by have : (2 : Nat) ^ (64 - 1) = 9223372036854775808 := by decide
                         omega⟩]
    · rw [hu.2 (by omega)]
/-- Digits and what they come to, as they are met. -/
structure NumOk (D : Bs) (n : Nat) (fits : Bool) : Prop where
  dig : ∀ c ∈ D, isDg c = true
  head : D.head? ≠ some 48
  le : n ≤ 9223372036854775807
  yes : fits = true → n = val 0 D
  no : fits = false → 9223372036854775807 < val 0 D
theorem NumOk.start : NumOk [] 0 true := ⟨fun c h => (by cases h), by simp, by decide, fun _ => rfl, fun h => by cases h⟩
theorem digit_of (d : Nat) (h : d ≤ 9) : isDg (UInt8.ofNat (48 + d)) = true ∧ (UInt8.ofNat (48 + d)).toNat = 48 + d := by
  have : d = 0 ∨ d = 1 ∨ d = 2 ∨ d = 3 ∨ d = 4 ∨ d = 5 ∨ d = 6 ∨ d = 7 ∨ d = 8 ∨ d = 9 := by omega
  rcases this with rfl | rfl | rfl | rfl | rfl | rfl | rfl | rfl | rfl | rfl <;> decide
theorem NumOk.more {D : Bs} {n : Nat} {fits : Bool} (h : NumOk D n fits) (d : Nat) (hd : d ≤ 9) (h0 : D = [] → 1 ≤ d) :
    (n ≤ (9223372036854775807 - d) / 10 → NumOk (D ++ [UInt8.ofNat (48 + d)]) (10 * n + d) fits) ∧ (¬ n ≤ (9223372036854775807 - d) / 10 → NumOk (D ++ [UInt8.ofNat (48 + d)]) d false) := by
  obtain ⟨e1, e2⟩ := digit_of d hd
  have hdig : ∀ c ∈ D ++ [UInt8.ofNat (48 + d)], isDg c = true := fun c hc => by
    rcases List.mem_append.1 hc with hc | hc
    · exact h.dig c hc
    · rw [List.mem_singleton.1 hc]; exact e1
  have hhead : (D ++ [UInt8.ofNat (48 + d)]).head? ≠ some 48 := by
    cases D with
    | nil =>
      intro e
      have e3 : UInt8.ofNat (48 + d) = 48 := by simpa using e
      have := congrArg UInt8.toNat e3
      rw [e2] at this
      have := h0 rfl
      have h48 : (48 : UInt8).toNat = 48 := rfl
      omega
    | cons c r => exact h.head
  have hv : val 0 (D ++ [UInt8.ofNat (48 + d)]) = val 0 D * 10 + d := by rw [val_app, e2]; omega
  constructor
  · intro hn
    refine ⟨hdig, hhead, by omega, fun hf => ?_, fun hf => ?_⟩
    · rw [hv, ← h.yes hf]; omega
    · rw [hv]; have := h.no hf; omega
  · intro hn
    refine ⟨hdig, hhead, by omega, fun hf => (by cases hf), fun _ => ?_⟩
    rw [hv]
    cases hf : fits with
    | true => have := h.yes hf; omega
    | false => have := h.no hf; omega
/-- What All tells of a sign, a space, digits, and a letter perhaps. -/
def numT (S : Bs) (n : Nat) (word : Bool) : List Tk := [⟨4, [59], 0, 0⟩, ⟨2, S, (n : Int), 2⟩] ++ if word then [⟨1, [120], 0, 2 + S.length⟩] else []
theorem first_semi (r : Bs) : firstT (59 :: 32 :: r) = some (4, [59], 0, 1) := rfl
theorem res_num {S : Bs} (h0 : S ≠ []) (hd : ∀ c ∈ S, isDg c = true) (hl : S.length ≤ 1000) (n : Nat) (word : Bool) :
    (numberR S (S.head? == some 48) = some (2, S, (n : Int), S.length) → resT (59 :: 32 :: (S ++ if word then [120] else [])) = (numT S n word, 2 + S.length + (if word then 1 else 0), 0)) ∧
    (numberR S (S.head? == some 48) = none → resT (59 :: 32 :: (S ++ if word then [120] else [])) = ([], 2, 2)) := by
  obtain ⟨X, hX⟩ : ∃ X : Bs, X = if word then [120] else [] := ⟨_, rfl⟩
  rw [← hX]
  have hxl : X.length = if word then 1 else 0 := by rw [hX]; cases word <;> rfl
  have hxl1 : X.length ≤ 1 := by rw [hxl]; cases word <;> decide
  have hlen : (59 :: 32 :: (S ++ X) : Bs).length = S.length + X.length + 2 := by simp
  obtain ⟨c, r, hS⟩ := List.exists_cons_of_ne_nil h0
  have hcd := hd c (by rw [hS]; exact List.mem_cons_self ..)
  have hcl : isLt c = false ∧ isSp c = false := by
    have := isDg_nat hcd
    constructor
    · unfold isLt letB
      rw [decide_eq_false (by omega), decide_eq_false (by omega : ¬ 65 ≤ c.toNat), decide_eq_false (by omega : ¬ c.toNat = 95)]; rfl
    · rw [isSp_nat, decide_eq_false (by omega), decide_eq_false (by omega), decide_eq_false (by omega), decide_eq_false (by omega)]; rfl
  have htw : (S ++ X).takeWhile isDg = S := by
    rw [List.takeWhile_append_of_pos hd, hX]
    cases word with
    | true => simp [List.takeWhile_cons, show isDg 120 = false by decide]
    | false => simp
  have hf : firstT (S ++ X) = numberR S (S.head? == some 48) := by
    have hfc : firstT (c :: (r ++ X)) = numberT (c :: (r ++ X)) := by rw [firstT_cons, if_neg (by rw [hcl.1]; decide), if_pos hcd]
    have e : S ++ X = c :: (r ++ X) := by rw [hS]; rfl
    have hh : (S ++ X).head? = S.head? := by rw [hS]; rfl
    rw [e, hfc, ← e]
    unfold numberT
    rw [htw, hh]
  have hL1 : lexL (59 :: 32 :: (S ++ X)) = match lexR (S.length + X.length + 1) (S ++ X) 2 with
      | Except.error q => Except.error q
      | Except.ok L => Except.ok (⟨4, [59], 0, 0⟩ :: L) := by
    show lexR ((59 :: 32 :: (S ++ X) : Bs).length + 1) (59 :: 32 :: (S ++ X)) 0 = _
    rw [hlen, lexR_one _ 0 (by decide) (first_semi _)]
    have hd1 : (59 :: 32 :: (S ++ X) : Bs).drop 1 = 32 :: (S ++ X) := rfl
    rw [hd1, show S.length + X.length + 2 = (S.length + X.length + 1) + 1 from rfl, lexR_sp _ _ _ (by decide)]
    rfl
  have e : S ++ X = c :: (r ++ X) := by rw [hS]; rfl
  constructor
  · intro hn
    have h2 : lexR (S.length + X.length + 1) (S ++ X) 2 = .ok (⟨2, S, (n : Int), 2⟩ :: if word then [⟨1, [120], 0, 2 + S.length⟩] else []) := by
      have hfe : firstT (c :: (r ++ X)) = some (2, S, (n : Int), S.length) := by rw [← e, hf, hn]
      rw [e, lexR_one _ 2 hcl.2 hfe, ← e, List.drop_left]
      cases word with
      | true =>
        rw [if_pos rfl] at hX
        subst hX
        have : lexR (S.length + 1) [120] (2 + S.length) = Except.ok ([⟨1, [120], 0, 2 + S.length⟩] : List Tk) := by
          rw [lexR_one _ _ (by decide) (show firstT [120] = some (1, [120], 0, 1) from rfl)]
          have h1 : 1 ≤ S.length := by rw [hS]; simp
          obtain ⟨g, hg⟩ : ∃ g, S.length = g + 1 := ⟨S.length - 1, by omega⟩
          rw [hg]; rfl
        show (match lexR (S.length + 1) [120] (2 + S.length) with | Except.error q => Except.error q | Except.ok L => Except.ok (Tk.mk 2 S (n : Int) 2 :: L)) = _
        rw [this]; rfl
      | false =>
        rw [if_neg (by decide)] at hX
        subst hX
        have h1 : 1 ≤ S.length := by rw [hS]; simp
        obtain ⟨g, hg⟩ : ∃ g, S.length + ([] : Bs).length = g + 1 := ⟨S.length - 1, by simp; omega⟩
        rw [hg, lexR_nil]; rfl
    unfold resT
    rw [if_neg (by rw [hlen]; omega), hL1, h2, hlen, hxl]
    simp only
    refine Prod.ext rfl (Prod.ext ?_ rfl)
    show S.length + (if word then 1 else 0) + 2 = 2 + S.length + (if word then 1 else 0)
    omega
  · intro hn
    have h2 : lexR (S.length + X.length + 1) (S ++ X) 2 = .error 2 := by
      have hfe : firstT (c :: (r ++ X)) = none := by rw [← e, hf, hn]
      rw [e, lexR_no _ 2 hcl.2 hfe]
    unfold resT
    rw [if_neg (by rw [hlen]; omega), hL1, h2]
theorem num_out {D : Bs} {n : Nat} {fits : Bool} (h : NumOk D n fits) (z : Nat) (hS : List.replicate z 48 ++ D ≠ []) :
    (fits = true ∧ (z = 0 ∨ (List.replicate z (48 : UInt8) ++ D).length = 1) → numberR (List.replicate z 48 ++ D) ((List.replicate z 48 ++ D).head? == some 48) = some (2, List.replicate z 48 ++ D, (n : Int), (List.replicate z (48 : UInt8) ++ D).length)) ∧
    ((fits = false ∨ (z ≠ 0 ∧ (List.replicate z (48 : UInt8) ++ D).length ≠ 1)) → numberR (List.replicate z 48 ++ D) ((List.replicate z 48 ++ D).head? == some 48) = none) := by
  have hdig : ∀ c ∈ List.replicate z 48 ++ D, isDg c = true := fun c hc => by
    rcases List.mem_append.1 hc with hc | hc
    · rw [(List.mem_replicate.1 hc).2]; decide
    · exact h.dig c hc
  cases z with
  | zero =>
    rw [List.replicate_zero, List.nil_append] at hS hdig ⊢
    have hh : (D.head? == some 48) = false := by simpa using h.head
    rw [hh]
    constructor
    · rintro ⟨hf, _⟩
      have hv := h.yes hf
      unfold numberR
      rw [(parse_val hS hdig).1 (by rw [← hv]; exact h.le), ← hv]
      rfl
    · intro hb
      rcases hb with hf | ⟨h0, _⟩
      · unfold numberR
        rw [(parse_val hS hdig).2 (h.no hf)]
      · exact absurd rfl h0
  | succ z =>
    have hh : ((List.replicate (z + 1) 48 ++ D).head? == some (48 : UInt8)) = true := by rw [List.replicate_succ]; rfl
    rw [hh]
    constructor
    · rintro ⟨hf, h0 | hl⟩
      · cases h0
      · rw [List.length_append, List.length_replicate] at hl
        obtain rfl : z = 0 := by omega
        have hD : D = [] := List.length_eq_zero_iff.1 (by omega)
        subst hD
        have hv := h.yes hf
        rw [hv]; rfl
    · intro hb
      have hl : 1 < (List.replicate (z + 1) (48 : UInt8) ++ D).length := by
        rw [List.length_append, List.length_replicate] at *
        rcases hb with hf | ⟨_, hl⟩
        · have := h.no hf
          cases D with
          | nil => have h0 : val 0 [] = 0 := rfl
                   omega
          | cons c r => rw [List.length_cons]; omega
        · omega
      unfold numberR
      rcases parse_dig hS hdig with ⟨v, hv⟩ | hv
      · rw [hv, decide_eq_true hl]; rfl
      · rw [hv]
end Go.Proofs.YtoaallhibgbokaaDoor
