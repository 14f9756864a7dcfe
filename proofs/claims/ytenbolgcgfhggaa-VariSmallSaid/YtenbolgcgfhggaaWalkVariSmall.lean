/- VariSmall, VariTorn, VariShort: the walks. -/
import Derived.Test.YtenbolgcgfhggaaEx01
import Derived.Test.YtenbolgcgfhggaaLift
namespace Go.Proofs.Ytenbolgcgfhggaa
open Go.ChangeShapes Go.WideShapes Go.ChangeAt Go.RowKit
open Num (zig zag)
set_option linter.unusedVariables false

theorem PutInt_one (n : Int) (w : World) (h0 : -64 ≤ n) (h1 : n < 64) : Calls Try.prog 12 #[.int .i64 n] w fun e w' => ∃ s : ByteArray, e = .returned (.string s) ∧ s.size = 1 ∧ Below w.heap.size w w' :=
  (PutInt_any n w (by omega) (by omega)).mono fun _ _ ⟨he, hw⟩ => ⟨_, he, (Num.put_one _).2 (by unfold zig; split <;> omega), hw⟩
theorem PutInt_more (n : Int) (w : World) (h0 : n < -64 ∨ 64 ≤ n) (h1 : -9223372036854775808 ≤ n) (h2 : n ≤ 9223372036854775807) : Calls Try.prog 12 #[.int .i64 n] w fun e w' => ∃ s : ByteArray, e = .returned (.string s) ∧ ((s.size : Int) == 1) = false ∧ Below w.heap.size w w' :=
  (PutInt_any n w h1 h2).mono fun _ _ ⟨he, hw⟩ => ⟨_, he, by
    have a : ¬ (Num.put (zig n).toNat).length = 1 := fun h => by
      have := (Num.put_one (zig n).toNat).1 h
      unfold zig at this; split at this <;> omega
    show (((Num.put (zig n).toNat).length : Int) == 1) = false
    simp; omega, hw⟩

set_option maxRecDepth 20000 in
theorem walk_VariSmall (n : Int) (near : Bool) (n0 : -9223372036854775808 ≤ n) (n1 : n ≤ 9223372036854775807) (w : World) :
    Calls Try.prog 9 #[.int .i64 n, .bool near] w fun e w' => e = .returned (.bool true) ∧ Below w.heap.size w w' := by
  cases near
  · rcases (by omega : n < -64 ∨ 64 ≤ n ∨ (-64 ≤ n ∧ n < 64)) with hn | hn | ⟨hn, hm⟩
    all_goals
      go_enter Try.func9, Try.ntmps9
      go_wp2_with (first
        | (go_at_call 10; ((with_reducible refine (examples_any _).mono ?_); rintro e w1 ⟨rfl, b1⟩))
        | (go_at_call 12; ((with_reducible refine (PutInt_one _ _ (by omega) (by omega)).mono ?_); rintro e w2 ⟨s, rfl, hs, b2⟩))
        | (go_at_call 12; ((with_reducible refine (PutInt_more _ _ (by omega) (by omega) (by omega)).mono ?_); rintro e w2 ⟨s, rfl, hs, b2⟩)))
      go_ret
      refine ⟨ret_bool ?_, bt b1 b2⟩
      first | rfl | (simp; done) | (simp; omega)
  · have t0 : -70 < n.tmod 70 ∧ n.tmod 70 < 70 := by
      have := Int.tmod_lt_of_pos n (show (0:Int) < 70 by decide)
      have := Int.lt_tmod_of_pos n (show (0:Int) < 70 by decide)
      omega
    obtain ⟨t1, t2⟩ := t0
    generalize hk : n.tmod 70 = k at t1 t2
    have HK := Lib.hid hk; clear hk
    rcases (by omega : k < -64 ∨ 64 ≤ k ∨ (-64 ≤ k ∧ k < 64)) with hn | hn | ⟨hn, hm⟩
    all_goals
      go_enter Try.func9, Try.ntmps9
      go_wp2_with (first
        | (go_at_call 10; ((with_reducible refine (examples_any _).mono ?_); rintro e w1 ⟨rfl, b1⟩; have hk := HK.out))
        | (go_at_call 12; ((with_reducible refine (PutInt_one _ _ (by omega) (by omega)).mono ?_); rintro e w2 ⟨s, rfl, hs, b2⟩))
        | (go_at_call 12; ((with_reducible refine (PutInt_more _ _ (by omega) (by omega) (by omega)).mono ?_); rintro e w2 ⟨s, rfl, hs, b2⟩)))
      go_ret
      refine ⟨ret_bool ?_, bt b1 b2⟩
      first | rfl | (simp; done) | (simp; omega)
end Go.Proofs.Ytenbolgcgfhggaa
