/- Contracts of package stream: names, Kinds. -/
import Derived.Test.YtkmboffbohndjaaMem
namespace Go.Proofs.Ytkmboffbohndjaa
open Go.ChangeShapes Go.WideShapes Go.ChangeAt Go.RowKit
set_option linter.unusedVariables false
set_option linter.unusedSimpArgs false

def letB (c : Nat) : Bool := (decide (97 ≤ c) && decide (c ≤ 122)) || (decide (65 ≤ c) && decide (c ≤ 90)) || decide (c = 95)
def digB (c : Nat) : Bool := decide (48 ≤ c) && decide (c ≤ 57)
theorem isLetter_any (c : Nat) (w : World) (hc : c ≤ 255) :
    Calls Try.prog 50 #[.int .u8 (c : Int)] w fun e w' => e = .returned (.bool (letB c)) ∧ w = w' := by
  go_enter Try.func50, Try.ntmps50
  go_wp2
  all_goals
    go_ret
    refine ⟨retB ?_, rfl⟩
    unfold letB
    rw [Bool.eq_iff_iff]
    simp
    omega
theorem isDigit_any (c : Nat) (w : World) (hc : c ≤ 255) :
    Calls Try.prog 48 #[.int .u8 (c : Int)] w fun e w' => e = .returned (.bool (digB c)) ∧ w = w' := by
  go_enter Try.func48, Try.ntmps48
  go_wp2
  all_goals
    go_ret
    refine ⟨retB ?_, rfl⟩
    unfold digB
    rw [Bool.eq_iff_iff]
    simp
    omega
def keyB (s : ByteArray) : Bool := s.toList == [83, 84, 82, 73, 67, 84] || s.toList == [87, 73, 84, 72, 73, 78] || s.toList == [66, 89] || s.toList == [69, 77, 73, 84] || s.toList == [116, 114, 117, 101] || s.toList == [102, 97, 108, 115, 101]
theorem key_or (s : ByteArray) : s.toList = [83, 84, 82, 73, 67, 84] ∨ s.toList = [87, 73, 84, 72, 73, 78] ∨ s.toList = [66, 89] ∨ s.toList = [69, 77, 73, 84] ∨ s.toList = [116, 114, 117, 101] ∨ s.toList = [102, 97, 108, 115, 101] ∨ (¬ s.toList = [83, 84, 82, 73, 67, 84] ∧ ¬ s.toList = [87, 73, 84, 72, 73, 78] ∧ ¬ s.toList = [66, 89] ∧ ¬ s.toList = [69, 77, 73, 84] ∧ ¬ s.toList = [116, 114, 117, 101] ∧ ¬ s.toList = [102, 97, 108, 115, 101]) := by
  by_cases h1 : s.toList = [83, 84, 82, 73, 67, 84]
  · exact Or.inl h1
  by_cases h2 : s.toList = [87, 73, 84, 72, 73, 78]
  · exact Or.inr (Or.inl h2)
  by_cases h3 : s.toList = [66, 89]
  · exact Or.inr (Or.inr (Or.inl h3))
  by_cases h4 : s.toList = [69, 77, 73, 84]
  · exact Or.inr (Or.inr (Or.inr (Or.inl h4)))
  by_cases h5 : s.toList = [116, 114, 117, 101]
  · exact Or.inr (Or.inr (Or.inr (Or.inr (Or.inl h5))))
  by_cases h6 : s.toList = [102, 97, 108, 115, 101]
  · exact Or.inr (Or.inr (Or.inr (Or.inr (Or.inr (Or.inl h6)))))
  exact Or.inr (Or.inr (Or.inr (Or.inr (Or.inr (Or.inr ⟨h1, h2, h3, h4, h5, h6⟩)))))
theorem isKey_any (s : ByteArray) (w : World) :
    Calls Try.prog 49 #[.string s] w fun e w' => e = .returned (.bool (keyB s)) ∧ w = w' := by
  rcases key_or s with h | h | h | h | h | h | ⟨h1, h2, h3, h4, h5, h6⟩
  · rw [show keyB s = true by unfold keyB; simp [h]]
    go_enter Try.func49, Try.ntmps49
    go_wp2
    go_ret
    exact ⟨rfl, rfl⟩
  · rw [show keyB s = true by unfold keyB; simp [h]]
    go_enter Try.func49, Try.ntmps49
    go_wp2
    go_ret
    exact ⟨rfl, rfl⟩
  · rw [show keyB s = true by unfold keyB; simp [h]]
    go_enter Try.func49, Try.ntmps49
    go_wp2
    go_ret
    exact ⟨rfl, rfl⟩
  · rw [show keyB s = true by unfold keyB; simp [h]]
    go_enter Try.func49, Try.ntmps49
    go_wp2
    go_ret
    exact ⟨rfl, rfl⟩
  · rw [show keyB s = true by unfold keyB; simp [h]]
    go_enter Try.func49, Try.ntmps49
    go_wp2
    go_ret
    exact ⟨rfl, rfl⟩
  · rw [show keyB s = true by unfold keyB; simp [h]]
    go_enter Try.func49, Try.ntmps49
    go_wp2
    go_ret
    exact ⟨rfl, rfl⟩
  · rw [show keyB s = false by unfold keyB; simp [h1, h2, h3, h4, h5, h6]]
    have g1 : (s.toList == [83, 84, 82, 73, 67, 84]) = false := by simpa using h1
    have g2 : (s.toList == [87, 73, 84, 72, 73, 78]) = false := by simpa using h2
    have g3 : (s.toList == [66, 89]) = false := by simpa using h3
    have g4 : (s.toList == [69, 77, 73, 84]) = false := by simpa using h4
    have g5 : (s.toList == [116, 114, 117, 101]) = false := by simpa using h5
    have g6 : (s.toList == [102, 97, 108, 115, 101]) = false := by simpa using h6
    go_enter Try.func49, Try.ntmps49
    go_wp2
    go_ret
    exact ⟨rfl, rfl⟩
/-- Is it a name? -/
def nameB (s : ByteArray) : Bool :=
  decide (1 ≤ s.size) && decide (s.size ≤ 20) && !digB (s.data.toList.getD 0 0).toNat && !keyB s && s.data.toList.all fun c => letB c.toNat || digB c.toNat
theorem name_take {s : ByteArray} {k : Nat} (h : k < s.size) (h1 : (s.data.toList.take k).all (fun c => letB c.toNat || digB c.toNat) = true) (h2 : (letB (s[k]'h).toNat || digB (s[k]'h).toNat) = true) :
    (s.data.toList.take (k + 1)).all (fun c => letB c.toNat || digB c.toNat) = true := by
  have hl : k < s.data.toList.length := by simpa using h
  rw [List.take_succ_eq_append_getElem hl, List.all_append, h1]
  have e : s.data.toList[k] = s[k]'h := rfl
  simp only [List.all_cons, List.all_nil, Bool.and_true, Bool.true_and]
  rw [e]; exact h2
theorem name_not {s : ByteArray} {k : Nat} (h : k < s.size) (h2 : (letB (s[k]'h).toNat || digB (s[k]'h).toNat) = false) : nameB s = false := by
  have hl : k < s.data.toList.length := by simpa using h
  have : (s.data.toList.all fun c => letB c.toNat || digB c.toNat) = false := by
    rw [List.all_eq_false]
    exact ⟨s.data.toList[k], List.getElem_mem hl, by have e : s.data.toList[k] = s[k]'h := rfl
                                                     rw [e, h2]; simp⟩
  unfold nameB; rw [this]; simp
set_option maxRecDepth 20000 in
theorem IsName_any (s : ByteArray) (w : World) (hs : s.size ≤ maxLen) :
    Calls Try.prog 37 #[.string s] w fun e w' => e = .returned (.bool (nameB s)) ∧ w = w' := by
  unfold maxLen at hs
  rcases nil_or s with ⟨hz, hl⟩ | ⟨hz, hl⟩
  · rw [show nameB s = false by unfold nameB; rw [decide_eq_false (show ¬ 1 ≤ s.size by omega)]; simp]
    have hlb : (s.toList == []) = true := by simpa using hl
    clear hz
    go_enter Try.func37, Try.ntmps37
    go_wp2
    go_ret
    exact ⟨rfl, rfl⟩
  have hlb : (s.toList == []) = false := by simpa using hl
  by_cases h20 : s.size ≤ 20
  · have h0 : 0 < s.size := by omega
    have c0 := (s[0]'h0).toNat_lt
    have hd0 : s.data.toList.getD 0 0 = s[0]'h0 := by rw [List.getD, List.getElem?_eq_getElem (by simpa using h0)]; rfl
    have cK := fun w => isKey_any s w
    have cD := fun w => isDigit_any (s[0]'h0).toNat w (by omega)
    have hN : nameB s = (!digB (s[0]'h0).toNat && !keyB s && s.data.toList.all fun c => letB c.toNat || digB c.toNat) := by
      unfold nameB; rw [hd0, decide_eq_true hz, decide_eq_true h20]; simp
    rcases hdg : digB (s[0]'h0).toNat with _ | _
    · rw [hdg] at cD hN
      rcases hky : keyB s with _ | _
      · rw [hky] at cK hN
        have H := Lib.hid (And.intro cK (And.intro cD hN))
        clear cK cD hN hd0 hdg hky
        go_enter Try.func37, Try.ntmps37
        go_wp2_with (first
          | (go_at_call 48; ((with_reducible refine (H.out.2.1 _).mono ?_); rintro e w1 ⟨rfl, rfl⟩))
          | (go_at_call 49; ((with_reducible refine (H.out.1 _).mono ?_); rintro e w1 ⟨rfl, rfl⟩)))
        go_loop [22] (fun i => ∃ k : Nat, k ≤ s.size ∧ i = .int .i64 k ∧ (s.data.toList.take k).all (fun c => letB c.toNat || digB c.toNat) = true) (fun i => s.size - (intOf i).toNat)
        case atStart => exact ⟨0, Nat.zero_le _, rfl, rfl⟩
        case round =>
          obtain ⟨k, hk, rfl, hall⟩ := hrel
          have HK := Lib.hid hall; clear hall
          by_cases hlt : k < s.size
          · have hc := (s[k]'hlt).toNat_lt
            have cL := fun w => isLetter_any (s[k]'hlt).toNat w (by omega)
            have cD := fun w => isDigit_any (s[k]'hlt).toNat w (by omega)
            have hyes := fun h => name_take hlt HK.out h
            have hno := fun h => name_not hlt h
            rcases hL : letB (s[k]'hlt).toNat with _ | _
            · rw [hL] at cL hyes hno
              rcases hD : digB (s[k]'hlt).toNat with _ | _
              · rw [hD] at cD hno
                have HC := Lib.hid (And.intro cL (And.intro cD (hno rfl))); clear cL cD hyes hno hL hD
                go_wp2_with (first
                  | (go_at_call 50; ((with_reducible refine (HC.out.1 _).mono ?_); rintro e w1 ⟨rfl, rfl⟩))
                  | (go_at_call 48; ((with_reducible refine (HC.out.2.1 _).mono ?_); rintro e w1 ⟨rfl, rfl⟩)))
                go_ret
                exact ⟨by rw [HC.out.2.2]; rfl, rfl⟩
              · rw [hD] at cD hyes
                have HC := Lib.hid (And.intro cL (And.intro cD (hyes rfl))); clear cL cD hyes hno hL hD
                go_wp2_with (first
                  | (go_at_call 50; ((with_reducible refine (HC.out.1 _).mono ?_); rintro e w1 ⟨rfl, rfl⟩))
                  | (go_at_call 48; ((with_reducible refine (HC.out.2.1 _).mono ?_); rintro e w1 ⟨rfl, rfl⟩)))
                go_round
                case rel => exact ⟨k + 1, by omega, by go_num, HC.out.2.2⟩
                case measure => simp [intOf]; omega
            · rw [hL] at cL hyes
              have HC := Lib.hid (And.intro cL (hyes rfl)); clear cL cD hyes hno hL
              go_wp2_with (first
                | (go_at_call 50; ((with_reducible refine (HC.out.1 _).mono ?_); rintro e w1 ⟨rfl, rfl⟩)))
              go_round
              case rel => exact ⟨k + 1, by omega, by go_num, HC.out.2⟩
              case measure => simp [intOf]; omega
          · have HE := Lib.hid (show nameB s = true by
              have h1 := HK.out
              rw [List.take_of_length_le (by simp; omega)] at h1
              rw [H.out.2.2, h1]; rfl)
            go_wp2
            go_ret
            exact ⟨by rw [HE.out]; rfl, rfl⟩
      · rw [hky] at cK hN
        have H := Lib.hid (And.intro cK (And.intro cD (show nameB s = false by rw [hN]; simp)))
        clear cK cD hN hd0 hdg hky
        go_enter Try.func37, Try.ntmps37
        go_wp2_with (first
          | (go_at_call 48; ((with_reducible refine (H.out.2.1 _).mono ?_); rintro e w1 ⟨rfl, rfl⟩))
          | (go_at_call 49; ((with_reducible refine (H.out.1 _).mono ?_); rintro e w1 ⟨rfl, rfl⟩)))
        go_ret
        exact ⟨by rw [H.out.2.2]; rfl, rfl⟩
    · rw [hdg] at cD hN
      have H := Lib.hid (And.intro cK (And.intro cD (show nameB s = false by rw [hN]; simp)))
      clear cK cD hN hd0 hdg
      go_enter Try.func37, Try.ntmps37
      go_wp2_with (first
        | (go_at_call 48; ((with_reducible refine (H.out.2.1 _).mono ?_); rintro e w1 ⟨rfl, rfl⟩)))
      go_ret
      exact ⟨by rw [H.out.2.2]; rfl, rfl⟩
  · rw [show nameB s = false by unfold nameB; rw [decide_eq_false h20]; simp]
    have h20' : 20 < s.size := by omega
    go_enter Try.func37, Try.ntmps37
    go_wp2
    go_ret
    exact ⟨rfl, rfl⟩
end Go.Proofs.Ytkmboffbohndjaa
