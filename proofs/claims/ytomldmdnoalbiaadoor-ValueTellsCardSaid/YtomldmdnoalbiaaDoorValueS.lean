/- Contracts of package value: Show; and the laws' own value. -/
import Derived.Test.YtomldmdnoalbiaaDoorValue
import Derived.Test.YtomldmdnoalbiaaDoorTab
import Derived.Test.YtomldmdnoalbiaaDoorConv
namespace Go.Proofs.YtomldmdnoalbiaaDoor
open Go.ChangeShapes Go.WideShapes Go.ChangeAt Go.RowKit
open Num (zig zag)
set_option linter.unusedVariables false
set_option linter.unusedSimpArgs false

theorem ret_bytes' {a : ByteArray} {b : List UInt8} (h : a.data.toList = b) : Ending.returned (.string a) = .returned (.string ⟨b.toArray⟩) := by
  rw [← h]
theorem Show_v (k n : Int) (s : ByteArray) (w : World) (hs : s.size ≤ maxLen) (n0 : -9223372036854775808 ≤ n) (n1 : n ≤ 9223372036854775807) (ht : Tab w) :
    Calls Tryd.prog 20 #[vv k n s] w fun e w' => e = .returned (.string ⟨(Val.showL k n s).toArray⟩) ∧ Below w.heap.size w w' := by
  have cR := fun w => Right_any k n s w hs
  unfold maxLen at hs
  have hb0 : Below w.heap.size w (w.alloc (.cells #[.int .i64 k, .int .i64 n, .string s] 23)) := (Below.refl _ _).alloc (Nat.le_refl _) _
  rcases hr : Val.right k n s with _ | _
  · have E := Lib.hid (Val.show_no hr)
    rw [hr] at cR
    have H := Lib.hid cR; clear cR hr
    go_enter Tryd.func20, Tryd.ntmps20
    go_wp2_with (go_at_call 17; ((with_reducible refine (H.out _).mono ?_); rintro e w1 ⟨rfl, b1⟩))
    go_ret
    exact ⟨by rw [E.out]; rfl, bt hb0 b1⟩
  · rcases Val.right_kind hr with rfl | rfl | rfl
    · have E := Lib.hid (Val.show_int hr)
      rw [hr] at cR
      have H := Lib.hid cR; clear cR hr
      have HT := Lib.hid ht; clear ht
      go_enter Tryd.func20, Tryd.ntmps20
      go_wp2_with fail
      go_at_call 17
      ((with_reducible refine (H.out _).mono ?_); rintro e w1 ⟨rfl, b1⟩)
      obtain ⟨hc1, hf1⟩ := bcell b1
      go_wp2_with (go_at_call 33; ((with_reducible refine (FormatInt_any _ _ n0 n1 (HT.out.later (bt hb0 b1))).mono ?_); rintro e w2 ⟨rfl, b2⟩))
      go_ret
      exact ⟨by rw [E.out]; rfl, bt hb0 (bt b1 b2)⟩
    · have E := Lib.hid (Val.show_bool hr)
      rw [hr] at cR
      have H := Lib.hid cR; clear cR hr ht
      go_enter Tryd.func20, Tryd.ntmps20
      go_wp2_with fail
      go_at_call 17
      ((with_reducible refine (H.out _).mono ?_); rintro e w1 ⟨rfl, b1⟩)
      obtain ⟨hc1, hf1⟩ := bcell b1
      go_wp2_with (go_at_call 34; ((with_reducible refine (FormatBool_any _ _).mono ?_); rintro e w2 ⟨rfl, rfl⟩))
      go_ret
      exact ⟨by rw [E.out]; rfl, bt hb0 b1⟩
    · obtain ⟨rfl, hn⟩ := Val.right_text hr
      have E := Lib.hid (Val.show_text hr)
      rw [hr] at cR
      have H := Lib.hid cR; clear cR hr ht
      go_enter Tryd.func20, Tryd.ntmps20
      go_wp2_with fail
      go_at_call 17
      ((with_reducible refine (H.out _).mono ?_); rintro e w1 ⟨rfl, b1⟩)
      obtain ⟨hc1, hf1⟩ := bcell b1
      go_wp2
      go_ret
      exact ⟨ret_bytes' (by rw [E.out]; simp), bt hb0 b1⟩

/-- The number and the text that 'own' makes. -/
def ownK (c : Int) : Int := if c % 3 = 0 then 1 else if c % 3 = 1 then 2 else 3
def ownN (c n : Int) : Int := if c % 3 = 0 then n else if c % 3 = 1 then n % 2 else 0
def ownS (c : Int) (s : ByteArray) : ByteArray := if c % 3 = 2 then s.extract 0 (min s.size 64) else ⟨#[]⟩

theorem own_v (c n : Int) (s : ByteArray) (w : World) (hs : s.size ≤ maxLen) (c0 : 0 ≤ c) (c1 : c ≤ 255) (n0 : -9223372036854775808 ≤ n) (n1 : n ≤ 9223372036854775807) :
    Calls Tryd.prog 10 #[.int .u8 c, .int .i64 n, .string s] w fun e w' => e = .returned (vv (ownK c) (ownN c n) (ownS c s)) ∧ Below w.heap.size w w' := by
  unfold maxLen at hs
  rcases (by omega : c % 3 = 0 ∨ c % 3 = 1 ∨ c % 3 = 2) with h | h | h
  · have e1 : ownK c = 1 := by unfold ownK; rw [if_pos h]
    have e2 : ownN c n = n := by unfold ownN; rw [if_pos h]
    have e3 : ownS c s = ⟨#[]⟩ := by unfold ownS; rw [if_neg (by omega)]
    rw [e1, e2, e3]
    clear e1 e2 e3
    go_enter Tryd.func10, Tryd.ntmps10
    go_wp2
    exact bodyPost_ret (v := vv 1 n ⟨#[]⟩) (by simp [results, Tryd.results10, go_sem]) rfl ⟨rfl, (Below.refl _ _).alloc (Nat.le_refl _) _⟩
  · have e1 : ownK c = 2 := by unfold ownK; rw [if_neg (by omega), if_pos h]
    have e2 : ownN c n = n % 2 := by unfold ownN; rw [if_neg (by omega), if_pos h]
    have e3 : ownS c s = ⟨#[]⟩ := by unfold ownS; rw [if_neg (by omega)]
    rw [e1, e2, e3]
    clear e1 e2 e3
    have hw : (IntKind.u64.wrap n).tmod 2 = n % 2 := by rw [IntKind.wrap_u64, Int.tmod_eq_emod_of_nonneg (by omega)]; omega
    go_enter Tryd.func10, Tryd.ntmps10
    go_wp2
    exact bodyPost_ret (v := vv 2 (n % 2) ⟨#[]⟩) (by simp [results, Tryd.results10, go_sem]) rfl ⟨rfl, (Below.refl _ _).alloc (Nat.le_refl _) _⟩
  · have e1 : ownK c = 3 := by unfold ownK; rw [if_neg (by omega), if_neg (by omega)]
    have e2 : ownN c n = 0 := by unfold ownN; rw [if_neg (by omega), if_neg (by omega)]
    have e3 : ownS c s = s.extract 0 (min s.size 64) := by unfold ownS; rw [if_pos h]
    rw [e1, e2, e3]
    clear e1 e2 e3
    have hm : (min (s.size : Int) 64).toNat = min s.size 64 := by omega
    have HM := Lib.hid hm; clear hm
    go_enter Tryd.func10, Tryd.ntmps10
    go_wp2
    exact bodyPost_ret (v := vv 3 0 (s.extract 0 (min (s.size : Int) 64).toNat)) (by simp [results, Tryd.results10, go_sem]) rfl ⟨by rw [HM.out], (Below.refl _ _).alloc (Nat.le_refl _) _⟩
end Go.Proofs.YtomldmdnoalbiaaDoor
