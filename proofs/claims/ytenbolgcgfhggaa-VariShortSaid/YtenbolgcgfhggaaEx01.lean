/- The examples of chapter 1 hold. -/
import Derived.Test.YtenbolgcgfhggaaVari
namespace Go.Proofs.Ytenbolgcgfhggaa
open Go.ChangeShapes Go.WideShapes Go.ChangeAt Go.RowKit
open Num (zig zag)

theorem ex_put300 : Num.put (300 : Int).toNat = [172, 2] := by decide +kernel
theorem g1 : Num.getAt (⟨#[172, 2]⟩ : ByteArray).data.toList 0 = some (300, 2) := by decide +kernel
theorem g2 : Num.getAt (⟨#[128, 0]⟩ : ByteArray).data.toList 0 = none := by decide +kernel
theorem g3 : Num.getAt (⟨#[]⟩ : ByteArray).data.toList 0 = none := by decide +kernel
theorem g4 : Num.getAt (⟨#[5]⟩ : ByteArray).data.toList (-1) = none := by decide +kernel
theorem g5 : Num.getAt (⟨#[120, 3]⟩ : ByteArray).data.toList 1 = some (3, 2) := by decide +kernel
theorem z3 : zag 3 = -2 := by decide
theorem GetInt_ex (w : World) : Calls Try.prog 15 #[.string ⟨#[120, 3]⟩, .int .i64 1] w fun e w' => e = .returned (.tuple #[.int .i64 (-2), .int .i64 2, .bool true]) ∧ w = w' :=
  (GetInt_any _ _ w (by decide)).mono fun _ _ ⟨he, hw⟩ => ⟨by rw [he, getIntV_some g5]; rfl, hw⟩

theorem Put_300 (w : World) : Calls Try.prog 11 #[.int .u64 300] w fun e w' => e = .returned (.string ⟨#[172, 2]⟩) ∧ Below w.heap.size w w' :=
  (Put_any 300 w (by decide) (by decide)).mono fun _ _ ⟨he, hw⟩ => ⟨by rw [he, ex_put300], hw⟩
theorem Put_0 (w : World) : Calls Try.prog 11 #[.int .u64 0] w fun e w' => e = .returned (.string ⟨#[0]⟩) ∧ Below w.heap.size w w' :=
  (Put_any 0 w (by decide) (by decide)).mono fun _ _ ⟨he, hw⟩ => ⟨by rw [he, show Num.put (0 : Int).toNat = [0] by decide +kernel], hw⟩
theorem PutInt_ex (w : World) : Calls Try.prog 12 #[.int .i64 (-2)] w fun e w' => e = .returned (.string ⟨#[3]⟩) ∧ Below w.heap.size w w' :=
  (PutInt_any (-2) w (by decide) (by decide)).mono fun _ _ ⟨he, hw⟩ => ⟨by rw [he, show Num.put (zig (-2)).toNat = [3] by decide +kernel], hw⟩
theorem Zig_m1 (w : World) : Calls Try.prog 17 #[.int .i64 (-1)] w fun e w' => e = .returned (.int .u64 1) ∧ w = w' :=
  (Zig_any (-1) w (by decide) (by decide)).mono fun _ _ ⟨he, hw⟩ => ⟨by rw [he]; rfl, hw⟩
theorem Zig_1 (w : World) : Calls Try.prog 17 #[.int .i64 1] w fun e w' => e = .returned (.int .u64 2) ∧ w = w' :=
  (Zig_any 1 w (by decide) (by decide)).mono fun _ _ ⟨he, hw⟩ => ⟨by rw [he]; rfl, hw⟩
theorem Zag_3 (w : World) : Calls Try.prog 19 #[.int .u64 3] w fun e w' => e = .returned (.int .i64 (-2)) ∧ w = w' :=
  (Zag_any 3 w (by decide) (by decide)).mono fun _ _ ⟨he, hw⟩ => ⟨by rw [he]; rfl, hw⟩

set_option maxRecDepth 20000 in
theorem examples_any (w : World) : Calls Try.prog 10 #[] w fun e w' => e = .returned (.bool true) ∧ Below w.heap.size w w' := by
  go_enter Try.func10, Try.ntmps10
  go_wp2_with fail
  go_at_call 13
  ((with_reducible refine (Get_some ⟨#[172, 2]⟩ _ _ (by decide) 300 2 g1).mono ?_); rintro e w' ⟨rfl, rfl⟩)
  go_wp2_with fail
  go_at_call 13
  ((with_reducible refine (Get_none ⟨#[128, 0]⟩ _ _ (by decide) g2).mono ?_); rintro e w' ⟨rfl, rfl⟩)
  go_wp2_with fail
  go_at_call 13
  ((with_reducible refine (Get_none ⟨#[]⟩ _ _ (by decide) g3).mono ?_); rintro e w' ⟨rfl, rfl⟩)
  go_wp2_with fail
  go_at_call 13
  ((with_reducible refine (Get_none ⟨#[5]⟩ _ _ (by decide) g4).mono ?_); rintro e w' ⟨rfl, rfl⟩)
  go_wp2_with fail
  go_at_call 15
  ((with_reducible refine (GetInt_ex _).mono ?_); rintro e w' ⟨rfl, rfl⟩)
  go_wp2_with fail
  go_at_call 11
  ((with_reducible refine (Put_300 _).mono ?_); rintro e w1 ⟨rfl, b1⟩)
  go_wp2_with fail
  go_at_call 11
  ((with_reducible refine (Put_0 _).mono ?_); rintro e w2 ⟨rfl, b2⟩)
  go_wp2_with fail
  go_at_call 17
  ((with_reducible refine (Zig_m1 _).mono ?_); rintro e w' ⟨rfl, rfl⟩)
  go_wp2_with fail
  go_at_call 17
  ((with_reducible refine (Zig_1 _).mono ?_); rintro e w' ⟨rfl, rfl⟩)
  go_wp2_with fail
  go_at_call 19
  ((with_reducible refine (Zag_3 _).mono ?_); rintro e w' ⟨rfl, rfl⟩)
  go_wp2_with fail
  go_at_call 12
  ((with_reducible refine (PutInt_ex _).mono ?_); rintro e w3 ⟨rfl, b3⟩)
  go_wp2_with fail
  go_ret
  exact ⟨rfl, b1.trans ((b2.mono b1.size).trans (b3.mono (Nat.le_trans b1.size b2.size)))⟩
end Go.Proofs.Ytenbolgcgfhggaa
