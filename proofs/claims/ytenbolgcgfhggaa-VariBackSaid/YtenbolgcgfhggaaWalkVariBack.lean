/- VariBack: the walk. -/
import Derived.Test.YtenbolgcgfhggaaEx01
import Derived.Test.YtenbolgcgfhggaaLift
import Derived.Test.YtenbolgcgfhggaaNum02
namespace Go.Proofs.Ytenbolgcgfhggaa
open Go.ChangeShapes Go.WideShapes Go.ChangeAt Go.RowKit
open Num (zig zag)
set_option linter.unusedVariables false

theorem GetInt_some (s : ByteArray) (a : Int) (w : World) (hs : s.size ≤ maxLen) (u k : Nat) (h : Num.getAt s.data.toList a = some (u, k)) :
    Calls Try.prog 15 #[.string s, .int .i64 a] w fun e w' => e = .returned (.tuple #[.int .i64 (zag (u : Int)), .int .i64 (k : Int), .bool true]) ∧ w = w' :=
  (GetInt_any s a w hs).mono fun _ _ ⟨he, hw⟩ => ⟨by rw [he, getIntV_some h], hw⟩

theorem back_list (A P Q B : ByteArray) : (A ++ P ++ Q ++ B).data.toList = A.data.toList ++ (P.data.toList ++ (Q.data.toList ++ B.data.toList)) := by simp
theorem back_size (A P Q B : ByteArray) : (A ++ P ++ Q ++ B).size = A.size + P.size + Q.size + B.size := by
  simp [ByteArray.size_append]

set_option maxRecDepth 20000 in
theorem walk_VariBack (u n : Int) (A B : ByteArray) (u0 : 0 ≤ u) (u1 : u ≤ 18446744073709551615) (n0 : -9223372036854775808 ≤ n) (n1 : n ≤ 9223372036854775807) (hA : A.size ≤ 140737488351232) (hB : B.size ≤ 140737488351232) (w : World) :
    Calls Try.prog 5 #[.int .u64 u, .int .i64 n, .string A, .string B] w fun e w' => e = .returned (.bool true) ∧ Below w.heap.size w w' := by
  obtain ⟨U, rfl⟩ := Int.eq_ofNat_of_zero_le u0
  have hU : U < 18446744073709551616 := by omega
  have hZ := Num.zig_natlt n n0 n1
  obtain ⟨P, hP⟩ : ∃ P : ByteArray, P = ⟨(Num.put U).toArray⟩ := ⟨_, rfl⟩
  obtain ⟨Q, hQ⟩ : ∃ Q : ByteArray, Q = ⟨(Num.put (zig n).toNat).toArray⟩ := ⟨_, rfl⟩
  have hPs : P.size = (Num.put U).length := by rw [hP]; rfl
  have hQs : Q.size = (Num.put (zig n).toNat).length := by rw [hQ]; rfl
  have hP10 := Num.put_ten hU
  have hQ10 := Num.put_ten hZ
  have hm : (A ++ P ++ Q ++ B).size ≤ maxLen := by rw [back_size]; unfold maxLen; omega
  have g1 : Num.getAt (A ++ P ++ Q ++ B).data.toList (A.size : Int) = some (U, A.size + P.size) := by
    rw [back_list, show P.data.toList = Num.put U by rw [hP], Num.getAt_put _ U hU _ _ (by simp)]; simp [hPs]
  have g2 : Num.getAt (A ++ P ++ Q ++ B).data.toList ((A.size : Int) + (P.size : Int)) = some ((zig n).toNat, A.size + P.size + Q.size) := by
    rw [back_list, ← List.append_assoc, show Q.data.toList = Num.put (zig n).toNat by rw [hQ], Num.getAt_put _ _ hZ _ _ (by simp)]; simp [hQs]
  have cP : ∀ w, Calls Try.prog 11 #[.int .u64 (U : Int)] w fun e w' => e = .returned (.string P) ∧ Below w.heap.size w w' := fun w =>
    (Put_any U w (by omega) u1).mono fun _ _ ⟨h, hw⟩ => ⟨by rw [h, hP]; rfl, hw⟩
  have cQ : ∀ w, Calls Try.prog 12 #[.int .i64 n] w fun e w' => e = .returned (.string Q) ∧ Below w.heap.size w w' := fun w =>
    (PutInt_any n w n0 n1).mono fun _ _ ⟨h, hw⟩ => ⟨by rw [h, hQ], hw⟩
  have cG : ∀ w, Calls Try.prog 13 #[.string (A ++ P ++ Q ++ B), .int .i64 (A.size : Int)] w fun e w' => e = .returned (.tuple #[.int .u64 (U : Int), .int .i64 ((A.size + P.size : Nat) : Int), .bool true]) ∧ w = w' := fun w =>
    Get_some _ _ w hm _ _ g1
  have cI : ∀ w, Calls Try.prog 15 #[.string (A ++ P ++ Q ++ B), .int .i64 ((A.size : Int) + (P.size : Int))] w fun e w' => e = .returned (.tuple #[.int .i64 n, .int .i64 ((A.size + P.size + Q.size : Nat) : Int), .bool true]) ∧ w = w' := fun w =>
    (GetInt_some _ _ w hm _ _ g2).mono fun _ _ ⟨h, hw⟩ => ⟨by rw [h, Num.zig_nat, Num.zag_zig], hw⟩
  have hPm : P.size ≤ 10 := by omega
  have hQm : Q.size ≤ 10 := by omega
  have H := Lib.hid (And.intro cP (And.intro cQ (And.intro cG cI)))
  clear cP cQ cG cI g1 g2 hP hQ hPs hQs hP10 hQ10 hm
  go_enter Try.func5, Try.ntmps5
  go_wp2_with (first
        | (go_at_call 10; ((with_reducible refine (examples_any _).mono ?_); rintro e w1 ⟨rfl, b1⟩))
        | (go_at_call 11; ((with_reducible refine (H.out.1 _).mono ?_); rintro e w2 ⟨rfl, b2⟩))
        | (go_at_call 12; ((with_reducible refine (H.out.2.1 _).mono ?_); rintro e w3 ⟨rfl, b3⟩))
        | (go_at_call 13; ((with_reducible refine (H.out.2.2.1 _).mono ?_); rintro e w' ⟨rfl, rfl⟩))
        | (go_at_call 15; ((with_reducible refine (H.out.2.2.2 _).mono ?_); rintro e w' ⟨rfl, rfl⟩)))
  go_ret
  exact ⟨rfl, bt b1 (bt b2 b3)⟩
end Go.Proofs.Ytenbolgcgfhggaa
