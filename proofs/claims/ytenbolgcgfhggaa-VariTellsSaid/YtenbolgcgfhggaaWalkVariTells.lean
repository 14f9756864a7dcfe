/- VariTells: the walk. -/
import Derived.Test.YtenbolgcgfhggaaRef01
import Derived.Test.YtenbolgcgfhggaaEx01
import Derived.Test.YtenbolgcgfhggaaLift
import Derived.Test.YtenbolgcgfhggaaNum02
import Derived.BigQuiet
import Derived.Lib.QuietBelow
namespace Go.Proofs.Ytenbolgcgfhggaa
open Go.ChangeShapes Go.WideShapes Go.ChangeAt Go.RowKit
open Num (zig zag)
set_option linter.unusedVariables false

theorem GetInt_none' (s : ByteArray) (a : Int) (w : World) (hs : s.size ≤ maxLen) (h : Num.getAt s.data.toList a = none) :
    Calls Try.prog 15 #[.string s, .int .i64 a] w fun e w' => e = .returned (.tuple #[.int .i64 0, .int .i64 0, .bool false]) ∧ w = w' :=
  (GetInt_any s a w hs).mono fun _ _ ⟨he, hw⟩ => ⟨by rw [he, getIntV_none h], hw⟩
theorem GetInt_some' (s : ByteArray) (a : Int) (w : World) (hs : s.size ≤ maxLen) (u k : Nat) (h : Num.getAt s.data.toList a = some (u, k)) :
    Calls Try.prog 15 #[.string s, .int .i64 a] w fun e w' => e = .returned (.tuple #[.int .i64 (zag (u : Int)), .int .i64 (k : Int), .bool true]) ∧ w = w' :=
  (GetInt_any s a w hs).mono fun _ _ ⟨he, hw⟩ => ⟨by rw [he, getIntV_some h], hw⟩
theorem rGetInt_none (s : ByteArray) (a : Int) (w : World) (hs : s.size ≤ maxLen) (h : Num.getAt s.data.toList a = none) :
    Calls Try.prog 16 #[.string s, .int .i64 a] w fun e w' => e = .returned (.tuple #[.int .i64 0, .int .i64 0, .bool false]) ∧ w = w' :=
  (rGetInt_any s a w hs).mono fun _ _ ⟨he, hw⟩ => ⟨by rw [he, getIntV_none h], hw⟩
theorem rGetInt_some (s : ByteArray) (a : Int) (w : World) (hs : s.size ≤ maxLen) (u k : Nat) (h : Num.getAt s.data.toList a = some (u, k)) :
    Calls Try.prog 16 #[.string s, .int .i64 a] w fun e w' => e = .returned (.tuple #[.int .i64 (zag (u : Int)), .int .i64 (k : Int), .bool true]) ∧ w = w' :=
  (rGetInt_any s a w hs).mono fun _ _ ⟨he, hw⟩ => ⟨by rw [he, getIntV_some h], hw⟩

set_option maxRecDepth 20000 in
theorem walk_VariTells (n u : Int) (s : ByteArray) (a : Int) (near : Bool) (n0 : -9223372036854775808 ≤ n) (n1 : n ≤ 9223372036854775807) (u0 : 0 ≤ u) (u1 : u ≤ 18446744073709551615) (hs : s.size ≤ 140737488351232) (a0 : -9223372036854775808 ≤ a) (a1 : a ≤ 9223372036854775807) (w : World) :
    Calls Try.prog 3 #[.int .i64 n, .int .u64 u, .string s, .int .i64 a, .bool near] w fun e w' => e = .returned (.bool true) ∧ Below w.heap.size w w' := by
  cases near
  · have hsz : s.size ≤ maxLen := by unfold maxLen; omega
    go_enter Try.func3, Try.ntmps3
    go_wp2_with (first | (go_at_call 10; ((with_reducible refine (examples_any _).mono ?_); rintro e w1 ⟨rfl, hb⟩)))
    clear hs a0 a1
    generalize s = S at *
    generalize a = x at *
    rcases hg : Num.getAt S.data.toList x with _ | ⟨y, k⟩
    · have HG := Lib.hid hg; clear hg
      go_wp2_with (first
          | (go_at_call 13; ((with_reducible refine (Get_none _ _ _ hsz HG.out).mono ?_); rintro e w2 ⟨rfl, rfl⟩))
          | (go_at_call 14; ((with_reducible refine (rGet_none _ _ _ hsz HG.out).mono ?_); rintro e w2 ⟨rfl, rfl⟩))
          | (go_at_call 15; ((with_reducible refine (GetInt_none' _ _ _ hsz HG.out).mono ?_); rintro e w2 ⟨rfl, rfl⟩))
          | (go_at_call 16; ((with_reducible refine (rGetInt_none _ _ _ hsz HG.out).mono ?_); rintro e w2 ⟨rfl, rfl⟩))
          | (go_at_call 17; ((with_reducible refine (Zig_any _ _ n0 n1).mono ?_); rintro e w2 ⟨rfl, rfl⟩))
          | (go_at_call 18; ((with_reducible refine (rZig_any _ _ n0 n1).mono ?_); rintro e w2 ⟨rfl, rfl⟩))
          | (go_at_call 19; ((with_reducible refine (Zag_any _ _ u0 u1).mono ?_); rintro e w2 ⟨rfl, rfl⟩))
          | (go_at_call 20; ((with_reducible refine (rZag_any _ _ u0 u1).mono ?_); rintro e w2 ⟨rfl, rfl⟩))
          | (go_at_call 11; ((with_reducible refine (Put_any _ _ u0 u1).mono ?_); rintro e w2 ⟨rfl, b2⟩; have hb := bt hb b2; clear b2))
          | (go_at_call 21; ((with_reducible refine (rPut_any _ _ u0 u1).mono ?_); rintro e w2 ⟨rfl, b2⟩; have hb := bt hb b2; clear b2))
          | (go_at_call 12; ((with_reducible refine (PutInt_any _ _ n0 n1).mono ?_); rintro e w2 ⟨rfl, b2⟩; have hb := bt hb b2; clear b2))
          | (go_at_call 22; ((with_reducible refine (rPutInt_any _ _ n0 n1).mono ?_); rintro e w2 ⟨rfl, b2⟩; have hb := bt hb b2; clear b2)))
      go_ret
      exact ⟨rfl, hb⟩
    · have HG := Lib.hid hg; clear hg
      go_wp2_with (first
          | (go_at_call 13; ((with_reducible refine (Get_some _ _ _ hsz _ _ HG.out).mono ?_); rintro e w2 ⟨rfl, rfl⟩))
          | (go_at_call 14; ((with_reducible refine (rGet_some _ _ _ hsz _ _ HG.out).mono ?_); rintro e w2 ⟨rfl, rfl⟩))
          | (go_at_call 15; ((with_reducible refine (GetInt_some' _ _ _ hsz _ _ HG.out).mono ?_); rintro e w2 ⟨rfl, rfl⟩))
          | (go_at_call 16; ((with_reducible refine (rGetInt_some _ _ _ hsz _ _ HG.out).mono ?_); rintro e w2 ⟨rfl, rfl⟩))
          | (go_at_call 17; ((with_reducible refine (Zig_any _ _ n0 n1).mono ?_); rintro e w2 ⟨rfl, rfl⟩))
          | (go_at_call 18; ((with_reducible refine (rZig_any _ _ n0 n1).mono ?_); rintro e w2 ⟨rfl, rfl⟩))
          | (go_at_call 19; ((with_reducible refine (Zag_any _ _ u0 u1).mono ?_); rintro e w2 ⟨rfl, rfl⟩))
          | (go_at_call 20; ((with_reducible refine (rZag_any _ _ u0 u1).mono ?_); rintro e w2 ⟨rfl, rfl⟩))
          | (go_at_call 11; ((with_reducible refine (Put_any _ _ u0 u1).mono ?_); rintro e w2 ⟨rfl, b2⟩; have hb := bt hb b2; clear b2))
          | (go_at_call 21; ((with_reducible refine (rPut_any _ _ u0 u1).mono ?_); rintro e w2 ⟨rfl, b2⟩; have hb := bt hb b2; clear b2))
          | (go_at_call 12; ((with_reducible refine (PutInt_any _ _ n0 n1).mono ?_); rintro e w2 ⟨rfl, b2⟩; have hb := bt hb b2; clear b2))
          | (go_at_call 22; ((with_reducible refine (rPutInt_any _ _ n0 n1).mono ?_); rintro e w2 ⟨rfl, b2⟩; have hb := bt hb b2; clear b2)))
      go_ret
      exact ⟨rfl, hb⟩
  · have hU : u.toNat < 18446744073709551616 := by omega
    have hP10 := Num.put_ten hU
    have hQ10 := Num.put_ten (Num.zig_natlt n n0 n1)
    have hsz : (s ++ ⟨(Num.put u.toNat).toArray⟩ ++ ⟨(Num.put (zig n).toNat).toArray⟩ : ByteArray).size ≤ maxLen := by
      rw [ByteArray.size_append, ByteArray.size_append]; show s.size + (Num.put u.toNat).length + (Num.put (zig n).toNat).length ≤ _; unfold maxLen; omega
    go_enter Try.func3, Try.ntmps3
    go_wp2_with (first | (go_at_call 10; ((with_reducible refine (examples_any _).mono ?_); rintro e w1 ⟨rfl, hb⟩)) | (go_at_call 11; ((with_reducible refine (Put_any _ _ u0 u1).mono ?_); rintro e w2 ⟨rfl, b2⟩; have hb := bt hb b2; clear b2)) | (go_at_call 12; ((with_reducible refine (PutInt_any _ _ n0 n1).mono ?_); rintro e w2 ⟨rfl, b2⟩; have hb := bt hb b2; clear b2)))
    clear hs a0 a1
    generalize (s ++ ⟨(Num.put u.toNat).toArray⟩ ++ ⟨(Num.put (zig n).toNat).toArray⟩ : ByteArray) = S at *
    generalize a.tmod ((s.size : Int) + ((Num.put u.toNat).length : Int) + ((Num.put (zig n).toNat).length : Int) + 2) = x at *
    rcases hg : Num.getAt S.data.toList x with _ | ⟨y, k⟩
    · have HG := Lib.hid hg; clear hg
      go_wp2_with (first
          | (go_at_call 13; ((with_reducible refine (Get_none _ _ _ hsz HG.out).mono ?_); rintro e w2 ⟨rfl, rfl⟩))
          | (go_at_call 14; ((with_reducible refine (rGet_none _ _ _ hsz HG.out).mono ?_); rintro e w2 ⟨rfl, rfl⟩))
          | (go_at_call 15; ((with_reducible refine (GetInt_none' _ _ _ hsz HG.out).mono ?_); rintro e w2 ⟨rfl, rfl⟩))
          | (go_at_call 16; ((with_reducible refine (rGetInt_none _ _ _ hsz HG.out).mono ?_); rintro e w2 ⟨rfl, rfl⟩))
          | (go_at_call 17; ((with_reducible refine (Zig_any _ _ n0 n1).mono ?_); rintro e w2 ⟨rfl, rfl⟩))
          | (go_at_call 18; ((with_reducible refine (rZig_any _ _ n0 n1).mono ?_); rintro e w2 ⟨rfl, rfl⟩))
          | (go_at_call 19; ((with_reducible refine (Zag_any _ _ u0 u1).mono ?_); rintro e w2 ⟨rfl, rfl⟩))
          | (go_at_call 20; ((with_reducible refine (rZag_any _ _ u0 u1).mono ?_); rintro e w2 ⟨rfl, rfl⟩))
          | (go_at_call 11; ((with_reducible refine (Put_any _ _ u0 u1).mono ?_); rintro e w2 ⟨rfl, b2⟩; have hb := bt hb b2; clear b2))
          | (go_at_call 21; ((with_reducible refine (rPut_any _ _ u0 u1).mono ?_); rintro e w2 ⟨rfl, b2⟩; have hb := bt hb b2; clear b2))
          | (go_at_call 12; ((with_reducible refine (PutInt_any _ _ n0 n1).mono ?_); rintro e w2 ⟨rfl, b2⟩; have hb := bt hb b2; clear b2))
          | (go_at_call 22; ((with_reducible refine (rPutInt_any _ _ n0 n1).mono ?_); rintro e w2 ⟨rfl, b2⟩; have hb := bt hb b2; clear b2)))
      go_ret
      exact ⟨rfl, hb⟩
    · have HG := Lib.hid hg; clear hg
      go_wp2_with (first
          | (go_at_call 13; ((with_reducible refine (Get_some _ _ _ hsz _ _ HG.out).mono ?_); rintro e w2 ⟨rfl, rfl⟩))
          | (go_at_call 14; ((with_reducible refine (rGet_some _ _ _ hsz _ _ HG.out).mono ?_); rintro e w2 ⟨rfl, rfl⟩))
          | (go_at_call 15; ((with_reducible refine (GetInt_some' _ _ _ hsz _ _ HG.out).mono ?_); rintro e w2 ⟨rfl, rfl⟩))
          | (go_at_call 16; ((with_reducible refine (rGetInt_some _ _ _ hsz _ _ HG.out).mono ?_); rintro e w2 ⟨rfl, rfl⟩))
          | (go_at_call 17; ((with_reducible refine (Zig_any _ _ n0 n1).mono ?_); rintro e w2 ⟨rfl, rfl⟩))
          | (go_at_call 18; ((with_reducible refine (rZig_any _ _ n0 n1).mono ?_); rintro e w2 ⟨rfl, rfl⟩))
          | (go_at_call 19; ((with_reducible refine (Zag_any _ _ u0 u1).mono ?_); rintro e w2 ⟨rfl, rfl⟩))
          | (go_at_call 20; ((with_reducible refine (rZag_any _ _ u0 u1).mono ?_); rintro e w2 ⟨rfl, rfl⟩))
          | (go_at_call 11; ((with_reducible refine (Put_any _ _ u0 u1).mono ?_); rintro e w2 ⟨rfl, b2⟩; have hb := bt hb b2; clear b2))
          | (go_at_call 21; ((with_reducible refine (rPut_any _ _ u0 u1).mono ?_); rintro e w2 ⟨rfl, b2⟩; have hb := bt hb b2; clear b2))
          | (go_at_call 12; ((with_reducible refine (PutInt_any _ _ n0 n1).mono ?_); rintro e w2 ⟨rfl, b2⟩; have hb := bt hb b2; clear b2))
          | (go_at_call 22; ((with_reducible refine (rPutInt_any _ _ n0 n1).mono ?_); rintro e w2 ⟨rfl, b2⟩; have hb := bt hb b2; clear b2)))
      go_ret
      exact ⟨rfl, hb⟩
end Go.Proofs.Ytenbolgcgfhggaa
