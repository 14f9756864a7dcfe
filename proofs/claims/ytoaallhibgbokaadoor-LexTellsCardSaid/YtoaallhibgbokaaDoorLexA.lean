/- Words of texts: contracts of the small parts: kinds of bytes, run. -/
import Derived.Test.YtoaallhibgbokaaDoorLexM
namespace Go.Proofs.YtoaallhibgbokaaDoor
open Go.ChangeShapes Go.WideShapes Go.ChangeAt Go.RowKit
set_option linter.unusedVariables false
set_option linter.unusedSimpArgs false

theorem byte_eq (c : UInt8) (n : Nat) (h : n < 256) : (c = UInt8.ofNat n) ↔ c.toNat = n := by
  constructor
  · rintro rfl; simp; omega
  · intro e; rw [← e]; simp
theorem isSp_nat (c : UInt8) : isSp c = (decide (c.toNat = 9) || decide (c.toNat = 10) || decide (c.toNat = 13) || decide (c.toNat = 32)) := by
  unfold isSp
  rw [Bool.eq_iff_iff]
  simp only [Bool.or_eq_true, beq_iff_eq, decide_eq_true_eq]
  rw [show (9 : UInt8) = UInt8.ofNat 9 from rfl, show (10 : UInt8) = UInt8.ofNat 10 from rfl, show (13 : UInt8) = UInt8.ofNat 13 from rfl, show (32 : UInt8) = UInt8.ofNat 32 from rfl,
    byte_eq _ _ (by decide), byte_eq _ _ (by decide), byte_eq _ _ (by decide), byte_eq _ _ (by decide)]
theorem space_any (c : UInt8) (w : World) :
    Calls Tryd.prog 18 #[.int .u8 (c.toNat : Int)] w fun e w' => e = .returned (.bool (isSp c)) ∧ w = w' := by
  have hc := c.toNat_lt
  rw [isSp_nat]
  generalize c.toNat = n at *
  go_enter Tryd.func18, Tryd.ntmps18
  go_wp2
  all_goals
    go_ret
    refine ⟨retB ?_, rfl⟩
    rw [Bool.eq_iff_iff]
    simp
    omega
theorem letter_any (c : UInt8) (w : World) :
    Calls Tryd.prog 23 #[.int .u8 (c.toNat : Int)] w fun e w' => e = .returned (.bool (isLt c)) ∧ w = w' := by
  have hc := c.toNat_lt
  unfold isLt
  generalize c.toNat = n at *
  go_enter Tryd.func23, Tryd.ntmps23
  go_wp2
  all_goals
    go_ret
    refine ⟨retB ?_, rfl⟩
    unfold letB
    rw [Bool.eq_iff_iff]
    simp
    omega
theorem digit_any (c : UInt8) (w : World) :
    Calls Tryd.prog 25 #[.int .u8 (c.toNat : Int)] w fun e w' => e = .returned (.bool (isDg c)) ∧ w = w' := by
  have hc := c.toNat_lt
  unfold isDg
  generalize c.toNat = n at *
  go_enter Tryd.func25, Tryd.ntmps25
  go_wp2
  all_goals
    go_ret
    refine ⟨retB ?_, rfl⟩
    unfold digB
    rw [Bool.eq_iff_iff]
    simp
    omega
theorem ld_any (c : UInt8) (w : World) :
    Calls Tryd.prog 39 #[.int .u8 (c.toNat : Int)] w fun e w' => e = .returned (.bool (isLd c)) ∧ w = w' := by
  rw [isLd_eq]
  have cL := fun w => letter_any c w
  have cD := fun w => digit_any c w
  rcases hL : isLt c with _ | _
  · rw [hL] at cL
    rcases hD : isDg c with _ | _
    all_goals
      rw [hD] at cD
      have H := Lib.hid (And.intro cL cD); clear cL cD hL hD
      go_enter Tryd.func39, Tryd.ntmps39
      go_wp2_with (first
        | (go_at_call 23; ((with_reducible refine (H.out.1 _).mono ?_); rintro e w1 ⟨rfl, rfl⟩))
        | (go_at_call 25; ((with_reducible refine (H.out.2 _).mono ?_); rintro e w1 ⟨rfl, rfl⟩)))
      go_ret
      exact ⟨rfl, rfl⟩
  · rw [hL] at cL
    have H := Lib.hid cL; clear cL hL cD
    go_enter Tryd.func39, Tryd.ntmps39
    go_wp2_with (go_at_call 23; ((with_reducible refine (H.out _).mono ?_); rintro e w1 ⟨rfl, rfl⟩))
    go_ret
    exact ⟨rfl, rfl⟩
theorem tw_more {p : UInt8 → Bool} {s : ByteArray} {k : Nat} (h : k < s.size) (h1 : k ≤ (s.data.toList.takeWhile p).length) (h2 : p (s[k]'h) = true) : k + 1 ≤ (s.data.toList.takeWhile p).length := by
  have hl : k < s.data.toList.length := by simpa using h
  have e : s.data.toList[k]'hl = s[k]'h := rfl
  have key : ∀ (l : Bs) (k : Nat) (hk : k < l.length), k ≤ (l.takeWhile p).length → p (l[k]'hk) = true → k + 1 ≤ (l.takeWhile p).length := by
    intro l
    induction l with
    | nil => intro k hk; simp at hk
    | cons a l ih =>
      intro k hk h1 h2
      rw [List.takeWhile_cons] at h1 ⊢
      by_cases ha : p a = true
      · rw [if_pos ha] at h1 ⊢
        cases k with
        | zero => simp
        | succ k =>
          simp only [List.length_cons] at h1 ⊢
          have := ih k (by simpa using hk) (by omega) (by simpa using h2)
          omega
      · rw [if_neg ha] at h1
        have : k = 0 := by simpa using h1
        subst this
        exact absurd h2 ha
  exact key _ k hl h1 (by rw [e]; exact h2)
theorem tw_stop {p : UInt8 → Bool} {s : ByteArray} {k : Nat} (h : k < s.size) (h1 : k ≤ (s.data.toList.takeWhile p).length) (h2 : p (s[k]'h) = false) : (s.data.toList.takeWhile p).length = k := by
  have hl : k < s.data.toList.length := by simpa using h
  rcases Nat.lt_or_ge k (s.data.toList.takeWhile p).length with h3 | h3
  · exfalso
    have h4 := takeWhile_all (p := p) s.data.toList ((s.data.toList.takeWhile p)[k]'h3) (List.getElem_mem h3)
    have h5 : (s.data.toList.takeWhile p)[k]'h3 = s[k]'h := by
      have h6 := takeWhile_take (p := p) s.data.toList
      have h7 : (s.data.toList.take (s.data.toList.takeWhile p).length)[k]? = (s.data.toList.takeWhile p)[k]? := by rw [h6]
      rw [List.getElem?_take, if_pos h3, List.getElem?_eq_getElem hl, List.getElem?_eq_getElem h3] at h7
      exact (Option.some.inj h7).symm
    rw [h5, h2] at h4
    cases h4
  · omega
set_option maxRecDepth 20000 in
theorem run_ld (s : ByteArray) (w : World) (hs : s.size ≤ maxLen) :
    Calls Tryd.prog 38 #[.string s, .func (.func 39) #[] #[]] w fun e w' => e = .returned (.int .i64 ((s.data.toList.takeWhile isLd).length : Int)) ∧ w = w' := by
  unfold maxLen at hs
  have HP := Lib.hid (fun c w => ld_any c w)
  go_enter Tryd.func38, Tryd.ntmps38
  go_wp2
  go_loop [5] (fun i => ∃ k : Nat, k ≤ s.size ∧ i = .int .i64 k ∧ k ≤ (s.data.toList.takeWhile isLd).length) (fun i => s.size - (intOf i).toNat)
  case atStart => exact ⟨0, Nat.zero_le _, rfl, Nat.zero_le _⟩
  case round =>
    obtain ⟨k, hk, rfl, hall⟩ := hrel
    have HK := Lib.hid hall; clear hall
    by_cases hlt : k < s.size
    · have cP := fun w => HP.out (s[k]'hlt) w
      have hyes := fun h => tw_more hlt HK.out h
      have hno := fun h => tw_stop (p := isLd) hlt HK.out h
      rcases hD : isLd (s[k]'hlt) with _ | _
      · rw [hD] at cP
        have HC := Lib.hid (And.intro cP (hno hD)); clear cP hyes hno hD
        go_wp2_with (go_at_call 39; ((with_reducible refine (HC.out.1 _).mono ?_); rintro e w1 ⟨rfl, rfl⟩))
        go_ret
        exact ⟨by rw [HC.out.2]; rfl, rfl⟩
      · rw [hD] at cP
        have HC := Lib.hid (And.intro cP (hyes hD)); clear cP hyes hno hD
        go_wp2_with (go_at_call 39; ((with_reducible refine (HC.out.1 _).mono ?_); rintro e w1 ⟨rfl, rfl⟩))
        go_round
        case rel => exact ⟨k + 1, by omega, by go_num, HC.out.2⟩
        case measure => simp [intOf]; omega
    · have HE := Lib.hid (show (s.data.toList.takeWhile isLd).length = k by
        have h1 := HK.out
        have h2 := takeWhile_len (p := isLd) s.data.toList
        have h3 : s.data.toList.length = s.size := by simp
        omega)
      go_wp2
      go_ret
      exact ⟨by rw [HE.out]; rfl, rfl⟩
set_option maxRecDepth 20000 in
theorem run_dg (s : ByteArray) (w : World) (hs : s.size ≤ maxLen) :
    Calls Tryd.prog 38 #[.string s, .func (.func 25) #[] #[]] w fun e w' => e = .returned (.int .i64 ((s.data.toList.takeWhile isDg).length : Int)) ∧ w = w' := by
  unfold maxLen at hs
  have HP := Lib.hid (fun c w => digit_any c w)
  go_enter Tryd.func38, Tryd.ntmps38
  go_wp2
  go_loop [5] (fun i => ∃ k : Nat, k ≤ s.size ∧ i = .int .i64 k ∧ k ≤ (s.data.toList.takeWhile isDg).length) (fun i => s.size - (intOf i).toNat)
  case atStart => exact ⟨0, Nat.zero_le _, rfl, Nat.zero_le _⟩
  case round =>
    obtain ⟨k, hk, rfl, hall⟩ := hrel
    have HK := Lib.hid hall; clear hall
    by_cases hlt : k < s.size
    · have cP := fun w => HP.out (s[k]'hlt) w
      have hyes := fun h => tw_more hlt HK.out h
      have hno := fun h => tw_stop (p := isDg) hlt HK.out h
      rcases hD : isDg (s[k]'hlt) with _ | _
      · rw [hD] at cP
        have HC := Lib.hid (And.intro cP (hno hD)); clear cP hyes hno hD
        go_wp2_with (go_at_call 25; ((with_reducible refine (HC.out.1 _).mono ?_); rintro e w1 ⟨rfl, rfl⟩))
        go_ret
        exact ⟨by rw [HC.out.2]; rfl, rfl⟩
      · rw [hD] at cP
        have HC := Lib.hid (And.intro cP (hyes hD)); clear cP hyes hno hD
        go_wp2_with (go_at_call 25; ((with_reducible refine (HC.out.1 _).mono ?_); rintro e w1 ⟨rfl, rfl⟩))
        go_round
        case rel => exact ⟨k + 1, by omega, by go_num, HC.out.2⟩
        case measure => simp [intOf]; omega
    · have HE := Lib.hid (show (s.data.toList.takeWhile isDg).length = k by
        have h1 := HK.out
        have h2 := takeWhile_len (p := isDg) s.data.toList
        have h3 : s.data.toList.length = s.size := by simp
        omega)
      go_wp2
      go_ret
      exact ⟨by rw [HE.out]; rfl, rfl⟩
end Go.Proofs.YtoaallhibgbokaaDoor
