/- sort.Search over a closure. -/
import Derived.Test.YticjfhagpmlieaaHoB
import Derived.Laws.Cover1
namespace Go.Proofs.Yticjfhagpmlieaa
open Go.ChangeShapes Go.WideShapes Go.ChangeAt Go.RowKit
open Ho
set_option linter.unusedVariables false
set_option linter.unusedSimpArgs false

def SearchP (n : Nat) (p : Nat → Bool) (w : World) (e : Ending) (w' : World) : Prop := ∃ m : Nat, (e = .returned (.int .i64 (m : Int)) ∧ m ≤ n ∧ (∀ k, k < m → p k = false) ∧ (m < n → p m = true)) ∧ Below w.heap.size w w'
set_option maxHeartbeats 1000000 in
theorem searchA_any (n : Nat) (p : Nat → Bool) (c1 c2 : Addr) (w : World) (hn : n ≤ 1000000) (mono : ∀ i j, i ≤ j → j < n → p i = true → p j = true)
    (cF : ∀ W (k : Nat), Below w.heap.size w W → k < n → Calls Try.prog 28 #[.int .i64 (k : Int), .pointer (some c1), .pointer (some c2)] W fun e w' => e = .returned (.bool (p k)) ∧ Below W.heap.size W w') :
    Calls Try.prog 27 #[.int .i64 (n : Int), .func (.func 28) #[] #[.pointer (some c1), .pointer (some c2)]] w (SearchP n p w) := by
  have H := Lib.hid (And.intro mono cF); clear mono cF
  go_enter Try.func27, Try.ntmps27
  go_wp2
  go_loopw [5, 6] (fun iv jv wr => ∃ a b : Nat, iv = .int .i64 (a : Int) ∧ jv = .int .i64 (b : Int) ∧ a ≤ b ∧ b ≤ n ∧ (∀ k, k < a → p k = false) ∧ (b < n → p b = true) ∧ Below w.heap.size w wr) (fun iv jv _ => (intOf jv).toNat - (intOf iv).toNat)
  case atStart => exact ⟨0, n, rfl, rfl, Nat.zero_le _, Nat.le_refl _, fun k h => by omega, fun h => by omega, Below.refl _ _⟩
  case round =>
    obtain ⟨a, b, rfl, rfl, hab, hbn, ha, hb, hw⟩ := hrel
    by_cases hlt : a < b
    · obtain ⟨h, hh⟩ : ∃ h : Nat, h = (a + b) / 2 := ⟨_, rfl⟩
      have h1 : a ≤ h := by omega
      have h2 : h < b := by omega
      have hq : ((a : Int) + (b : Int)) / 2 = (h : Int) := by omega
      have s6 : IntKind.i64.wrap (((a : Int) + (b : Int)) / 2 + 1) = ((a : Int) + (b : Int)) / 2 + 1 := IntWalk.i64_in _ (by omega)
      have hlt' : (a : Int) < (b : Int) := by omega
      have cC := H.out.2 wr h hw (by omega)
      have hm := H.out.1
      rw [← hq] at cC
      have HQ := Lib.hid hq; clear hq
      rcases hp : p h with _ | _
      · rw [hp] at cC
        have hall : ∀ k, k < h + 1 → p k = false := fun k hk => by
          rcases hk' : p k with _ | _
          · rfl
          · have := hm k h (by omega) (by omega) hk'
            rw [hp] at this; cases this
        have K := Lib.hid (And.intro cC (And.intro hall (And.intro hb hw))); clear cC hall hb hw ha hp hm hh
        go_wp2_with (go_at_call 28; ((with_reducible refine (K.out.1).mono ?_); rintro e w1 ⟨rfl, b1⟩; have M := Lib.hid b1; clear b1))
        go_roundw
        case rel => exact ⟨h + 1, b, by rw [HQ.out]; go_num, rfl, by omega, by omega, K.out.2.1, K.out.2.2.1, bt K.out.2.2.2 M.out⟩
        case measure => (have := HQ.out; simp [intOf]; omega)
      · rw [hp] at cC
        have K := Lib.hid (And.intro cC (And.intro ha (And.intro hp hw))); clear cC hb hw ha hp hm hh
        go_wp2_with (go_at_call 28; ((with_reducible refine (K.out.1).mono ?_); rintro e w1 ⟨rfl, b1⟩; have M := Lib.hid b1; clear b1))
        go_roundw
        case rel => exact ⟨a, h, rfl, by rw [HQ.out], by omega, by omega, K.out.2.1, fun _ => K.out.2.2.1, bt K.out.2.2.2 M.out⟩
        case measure => (have := HQ.out; simp [intOf]; omega)
    · obtain rfl : a = b := by omega
      have K := Lib.hid (And.intro ha (And.intro hb hw)); clear ha hb hw
      go_wp2
      go_ret
      exact ⟨a, ⟨rfl, hbn, K.out.1, K.out.2.1⟩, K.out.2.2⟩
set_option maxHeartbeats 1000000 in
theorem searchD_any (n : Nat) (p : Nat → Bool) (c1 c2 : Addr) (w : World) (hn : n ≤ 1000000) (mono : ∀ i j, i ≤ j → j < n → p i = true → p j = true)
    (cF : ∀ W (k : Nat), Below w.heap.size w W → k < n → Calls Try.prog 36 #[.int .i64 (k : Int), .pointer (some c1), .pointer (some c2)] W fun e w' => e = .returned (.bool (p k)) ∧ Below W.heap.size W w') :
    Calls Try.prog 27 #[.int .i64 (n : Int), .func (.func 36) #[] #[.pointer (some c1), .pointer (some c2)]] w (SearchP n p w) := by
  have H := Lib.hid (And.intro mono cF); clear mono cF
  go_enter Try.func27, Try.ntmps27
  go_wp2
  go_loopw [5, 6] (fun iv jv wr => ∃ a b : Nat, iv = .int .i64 (a : Int) ∧ jv = .int .i64 (b : Int) ∧ a ≤ b ∧ b ≤ n ∧ (∀ k, k < a → p k = false) ∧ (b < n → p b = true) ∧ Below w.heap.size w wr) (fun iv jv _ => (intOf jv).toNat - (intOf iv).toNat)
  case atStart => exact ⟨0, n, rfl, rfl, Nat.zero_le _, Nat.le_refl _, fun k h => by omega, fun h => by omega, Below.refl _ _⟩
  case round =>
    obtain ⟨a, b, rfl, rfl, hab, hbn, ha, hb, hw⟩ := hrel
    by_cases hlt : a < b
    · obtain ⟨h, hh⟩ : ∃ h : Nat, h = (a + b) / 2 := ⟨_, rfl⟩
      have h1 : a ≤ h := by omega
      have h2 : h < b := by omega
      have hq : ((a : Int) + (b : Int)) / 2 = (h : Int) := by omega
      have s6 : IntKind.i64.wrap (((a : Int) + (b : Int)) / 2 + 1) = ((a : Int) + (b : Int)) / 2 + 1 := IntWalk.i64_in _ (by omega)
      have hlt' : (a : Int) < (b : Int) := by omega
      have cC := H.out.2 wr h hw (by omega)
      have hm := H.out.1
      rw [← hq] at cC
      have HQ := Lib.hid hq; clear hq
      rcases hp : p h with _ | _
      · rw [hp] at cC
        have hall : ∀ k, k < h + 1 → p k = false := fun k hk => by
          rcases hk' : p k with _ | _
          · rfl
          · have := hm k h (by omega) (by omega) hk'
            rw [hp] at this; cases this
        have K := Lib.hid (And.intro cC (And.intro hall (And.intro hb hw))); clear cC hall hb hw ha hp hm hh
        go_wp2_with (go_at_call 36; ((with_reducible refine (K.out.1).mono ?_); rintro e w1 ⟨rfl, b1⟩; have M := Lib.hid b1; clear b1))
        go_roundw
        case rel => exact ⟨h + 1, b, by rw [HQ.out]; go_num, rfl, by omega, by omega, K.out.2.1, K.out.2.2.1, bt K.out.2.2.2 M.out⟩
        case measure => (have := HQ.out; simp [intOf]; omega)
      · rw [hp] at cC
        have K := Lib.hid (And.intro cC (And.intro ha (And.intro hp hw))); clear cC hb hw ha hp hm hh
        go_wp2_with (go_at_call 36; ((with_reducible refine (K.out.1).mono ?_); rintro e w1 ⟨rfl, b1⟩; have M := Lib.hid b1; clear b1))
        go_roundw
        case rel => exact ⟨a, h, rfl, by rw [HQ.out], by omega, by omega, K.out.2.1, fun _ => K.out.2.2.1, bt K.out.2.2.2 M.out⟩
        case measure => (have := HQ.out; simp [intOf]; omega)
    · obtain rfl : a = b := by omega
      have K := Lib.hid (And.intro ha (And.intro hb hw)); clear ha hb hw
      go_wp2
      go_ret
      exact ⟨a, ⟨rfl, hbn, K.out.1, K.out.2.1⟩, K.out.2.2⟩
end Go.Proofs.Yticjfhagpmlieaa
