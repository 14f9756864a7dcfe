/- Contracts of package value: Show; and the laws' own value. -/
import Derived.Test.YtenmbahfgfmjjaaDoorValR
import Derived.Test.YtenmbahfgfmjjaaDoorTab
import Derived.Test.YtenmbahfgfmjjaaDoorConv
namespace Go.Proofs.YtenmbahfgfmjjaaDoor
open Go.ChangeShapes Go.WideShapes Go.ChangeAt Go.RowKit

set_option linter.unusedVariables false
set_option linter.unusedSimpArgs false

theorem ret_bytes' {a : ByteArray} {b : List UInt8} (h : a.data.toList = b) : Ending.returned (.string a) = .returned (.string ⟨b.toArray⟩) := by
  rw [← h]
theorem Show_v (k n : Int) (s : ByteArray) (w : World) (hs : s.size ≤ maxLen) (n0 : -9223372036854775808 ≤ n) (n1 : n ≤ 9223372036854775807) (ht : Tab w) :
    Calls Tryd.prog 78 #[vv k n s] w fun e w' => e = .returned (.string ⟨(Val.showL k n s).toArray⟩) ∧ Below w.heap.size w w' := by
  have cR := fun w => Right_any k n s w hs
  unfold maxLen at hs
  have hb0 : Below w.heap.size w (w.alloc (.cells #[.int .i64 k, .int .i64 n, .string s] 40)) := (Below.refl _ _).alloc (Nat.le_refl _) _
  rcases hr : Val.right k n s with _ | _
  · have E := Lib.hid (Val.show_no hr)
    rw [hr] at cR
    have H := Lib.hid cR; clear cR hr
    go_enter Tryd.func78, Tryd.ntmps78
    go_wp2_with (go_at_call 86; ((with_reducible refine (H.out _).mono ?_); rintro e w1 ⟨rfl, b1⟩))
    go_ret
    exact ⟨by rw [E.out]; rfl, bt hb0 b1⟩
  · rcases Val.right_kind hr with rfl | rfl | rfl
    · have E := Lib.hid (Val.show_int hr)
      rw [hr] at cR
      have H := Lib.hid cR; clear cR hr
      have HT := Lib.hid ht; clear ht
      go_enter Tryd.func78, Tryd.ntmps78
      go_wp2_with fail
      go_at_call 86
      ((with_reducible refine (H.out _).mono ?_); rintro e w1 ⟨rfl, b1⟩)
      obtain ⟨hc1, hf1⟩ := bcell b1
      go_wp2_with (go_at_call 24; ((with_reducible refine (FormatInt_any _ _ n0 n1 (HT.out.later (bt hb0 b1))).mono ?_); rintro e w2 ⟨rfl, b2⟩))
      go_ret
      exact ⟨by rw [E.out]; rfl, bt hb0 (bt b1 b2)⟩
    · have E := Lib.hid (Val.show_bool hr)
      rw [hr] at cR
      have H := Lib.hid cR; clear cR hr ht
      go_enter Tryd.func78, Tryd.ntmps78
      go_wp2_with fail
      go_at_call 86
      ((with_reducible refine (H.out _).mono ?_); rintro e w1 ⟨rfl, b1⟩)
      obtain ⟨hc1, hf1⟩ := bcell b1
      go_wp2_with (go_at_call 90; ((with_reducible refine (FormatBool_any _ _).mono ?_); rintro e w2 ⟨rfl, rfl⟩))
      go_ret
      exact ⟨by rw [E.out]; rfl, bt hb0 b1⟩
    · obtain ⟨rfl, hn⟩ := Val.right_text hr
      have E := Lib.hid (Val.show_text hr)
      rw [hr] at cR
      have H := Lib.hid cR; clear cR hr ht
      go_enter Tryd.func78, Tryd.ntmps78
      go_wp2_with fail
      go_at_call 86
      ((with_reducible refine (H.out _).mono ?_); rintro e w1 ⟨rfl, b1⟩)
      obtain ⟨hc1, hf1⟩ := bcell b1
      go_wp2
      go_ret
      exact ⟨ret_bytes' (by rw [E.out]; simp), bt hb0 b1⟩

end Go.Proofs.YtenmbahfgfmjjaaDoor
