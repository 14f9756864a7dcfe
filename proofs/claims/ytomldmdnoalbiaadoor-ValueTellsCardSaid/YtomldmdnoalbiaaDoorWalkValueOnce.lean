/- ValueOnce: the walk. -/
import Derived.Test.YtomldmdnoalbiaaDoorEx02
import Derived.Test.YtomldmdnoalbiaaDoorNum24
import Derived.BigQuiet
import Derived.Lib.QuietBelow
namespace Go.Proofs.YtomldmdnoalbiaaDoor
open Go.ChangeShapes Go.WideShapes Go.ChangeAt Go.RowKit
set_option linter.unusedVariables false
set_option linter.unusedSimpArgs false

theorem Get_no (S : ByteArray) (a : Int) (w : World) (hs : S.size ≤ maxLen) (h : Val.getAt S a = none) :
    Calls Tryd.prog 12 #[.string S, .int .i64 a] w fun e w' => e = .returned (.tuple #[vv 0 0 ⟨#[]⟩, .int .i64 0, .bool false]) ∧ Below w.heap.size w w' :=
  (Get_v S a w hs).mono fun _ _ ⟨he, hw⟩ => ⟨by rw [he, h]; rfl, hw⟩
theorem Get_yes (S : ByteArray) (a : Int) (w : World) (hs : S.size ≤ maxLen) (k n : Int) (t : ByteArray) (next : Nat) (h : Val.getAt S a = some ((k, n, t), next)) :
    Calls Tryd.prog 12 #[.string S, .int .i64 a] w fun e w' => e = .returned (.tuple #[vv k n t, .int .i64 (next : Int), .bool true]) ∧ Below w.heap.size w w' :=
  (Get_v S a w hs).mono fun _ _ ⟨he, hw⟩ => ⟨by rw [he, h]; rfl, hw⟩

theorem walk_ValueOnce (s : ByteArray) (c a : Int) (near : Bool) (hs : s.size ≤ 140737488351232) (c0 : 0 ≤ c) (c1 : c ≤ 255) (a0 : -9223372036854775808 ≤ a) (a1 : a ≤ 9223372036854775807) (w : World) (hT : Tab w) :
    Calls Tryd.prog 5 #[.string s, .int .u8 c, .int .i64 a, .bool near] w fun e w' => e = .returned (.bool true) ∧ Below w.heap.size w w' := by
  have HT := Lib.hid hT; clear hT
  cases near
  · have hsz : s.size ≤ maxLen := by unfold maxLen; omega
    go_enter Tryd.func5, Tryd.ntmps5
    go_wp2_with fail
    go_at_call 9
    ((with_reducible refine (examples_any _ HT.out).mono ?_); rintro e w1 ⟨rfl, b1⟩)
    rcases hg : Val.getAt s a with _ | ⟨⟨k, n, t⟩, next⟩
    · have HG := Lib.hid hg; clear hg
      go_wp2_with (go_at_call 12; ((with_reducible refine (Get_no _ _ _ hsz HG.out).mono ?_); rintro e w2 ⟨rfl, b2⟩))
      go_ret
      exact ⟨rfl, bt b1 (bt b2 (ba _ _))⟩
    · obtain ⟨h0, h1, h2, h3, h4, h5, h6, h7⟩ := getAt_spec hg
      have HG := Lib.hid hg; clear hg
      obtain ⟨j, rfl⟩ := Int.eq_ofNat_of_zero_le h0
      go_wp2_with fail
      go_at_call 12
      ((with_reducible refine (Get_yes _ _ _ hsz _ _ _ _ HG.out).mono ?_); rintro e w2 ⟨rfl, b2⟩)
      have hjn : j < next := by omega
      have hnx : (next : Int) ≤ (s.size : Int) := by omega
      unfold maxLen at hsz
      have cR : ∀ w, Calls Tryd.prog 17 #[vv k n t] w fun e w' => e = .returned (.bool true) ∧ Below w.heap.size w w' := fun w =>
        (Right_any k n t w (by unfold maxLen; omega)).mono fun _ _ ⟨he, hw⟩ => ⟨by rw [he, h3], hw⟩
      have cP : ∀ w, Calls Tryd.prog 11 #[vv k n t] w fun e w' => e = .returned (.string (s.extract j next)) ∧ Below w.heap.size w w' := fun w =>
        (Put_v k n t w (by unfold maxLen; omega) h5 h6).mono fun _ _ ⟨he, hw⟩ => ⟨by
          rw [he]
          refine congrArg (fun x => Ending.returned (Value.string x)) (ByteArray.ext (Array.toList_inj.1 ?_))
          rw [extract_list, h7]; simp, hw⟩
      have H := Lib.hid (And.intro cR cP)
      have hsl := fun w => slice_string Tryd.prog w 9 Tryd.underlying9 s j next (by omega) h2
      have K1 := Box3.new w2 (.int .i64 k) (.int .i64 n) (.string t) 23
      have B2 := bt b1 (bt b2 (ba w2 (.cells #[.int .i64 k, .int .i64 n, .string t] 23)))
      clear cR cP h7 h3
      go_wp2_with fail
      generalize w2.alloc (.cells #[.int .i64 k, .int .i64 n, .string t] 23) = W at *
      obtain ⟨q0, q1, q2⟩ := K1
      have p0 := fun d os => cell_regrown q0 d os
      have p1 := fun d os => cell_regrown q1 d os
      have p2 := fun d os => cell_regrown q2 d os
      refine wp_region_quiet_below (by kernel_rfl) (by kernel_rfl) ?_
      repeat (go_big_quiet_step ((first | (go_at_call 17; exact Calls.regrown_of (H.out.1 _)) | (go_at_call 11; exact Calls.regrown_of (H.out.2 _)))))
      refine wpQuiet_nil ?_
      intro wq hw'
      have bq : Below W.heap.size W wq := by obtain ⟨p, rfl⟩ := hw'; exact below_regrown _ _ _
      clear hw'
      go_wp2
      go_ret
      exact ⟨rfl, bt B2 bq⟩
  · obtain ⟨x, hx⟩ : ∃ x : UInt8, c % 5 = (x.toNat : Int) := ⟨(c % 5).toNat.toUInt8, by simp; omega⟩
    have HX := Lib.hid hx; clear hx
    clear a0 a1
    go_enter Tryd.func5, Tryd.ntmps5
    go_wp2_with fail
    go_at_call 9
    ((with_reducible refine (examples_any _ HT.out).mono ?_); rintro e w1 ⟨rfl, b1⟩)
    have hcv := byte_string w1 (c % 5) x HX.out
    have b1' := bt b1 (ba w1 (.cells #[.int .u8 (c % 5)] 5))
    go_wp2_with fail
    have hsz : (⟨#[x]⟩ ++ s : ByteArray).size ≤ maxLen := by rw [ByteArray.size_append]; show 1 + s.size ≤ _; unfold maxLen; omega
    generalize (⟨#[x]⟩ ++ s : ByteArray) = S at *
    generalize w1.alloc (.cells #[.int .u8 (c % 5)] 5) = W1 at *
    clear hcv
    rcases hg : Val.getAt S 0 with _ | ⟨⟨k, n, t⟩, next⟩
    · have HG := Lib.hid hg; clear hg
      go_wp2_with (go_at_call 12; ((with_reducible refine (Get_no _ _ _ hsz HG.out).mono ?_); rintro e w2 ⟨rfl, b2⟩))
      go_ret
      exact ⟨rfl, bt b1' (bt b2 (ba _ _))⟩
    · obtain ⟨h0, h1, h2, h3, h4, h5, h6, h7⟩ := getAt_spec hg
      have HG := Lib.hid hg; clear hg
      go_wp2_with fail
      go_at_call 12
      ((with_reducible refine (Get_yes _ _ _ hsz _ _ _ _ HG.out).mono ?_); rintro e w2 ⟨rfl, b2⟩)
      have hjn : 0 < next := by omega
      have hnx : (next : Int) ≤ (S.size : Int) := by omega
      unfold maxLen at hsz
      have cR : ∀ w, Calls Tryd.prog 17 #[vv k n t] w fun e w' => e = .returned (.bool true) ∧ Below w.heap.size w w' := fun w =>
        (Right_any k n t w (by unfold maxLen; omega)).mono fun _ _ ⟨he, hw⟩ => ⟨by rw [he, h3], hw⟩
      have cP : ∀ w, Calls Tryd.prog 11 #[vv k n t] w fun e w' => e = .returned (.string (S.extract 0 next)) ∧ Below w.heap.size w w' := fun w =>
        (Put_v k n t w (by unfold maxLen; omega) h5 h6).mono fun _ _ ⟨he, hw⟩ => ⟨by
          rw [he]
          refine congrArg (fun x => Ending.returned (Value.string x)) (ByteArray.ext (Array.toList_inj.1 ?_))
          rw [extract_list, h7]; simp, hw⟩
      have H := Lib.hid (And.intro cR cP)
      have hsl : ∀ w, (Instr.slice 9 (.string S) (some (.int .i64 0)) (some (.int .i64 (next : Int))) none).run Tryd.prog w = .ok (.string (S.extract 0 next)) w := fun w => slice_string Tryd.prog w 9 Tryd.underlying9 S 0 next (by omega) h2
      have K1 := Box3.new w2 (.int .i64 k) (.int .i64 n) (.string t) 23
      have B2 := bt b1' (bt b2 (ba w2 (.cells #[.int .i64 k, .int .i64 n, .string t] 23)))
      clear cR cP h7 h3
      go_wp2_with fail
      generalize w2.alloc (.cells #[.int .i64 k, .int .i64 n, .string t] 23) = W at *
      obtain ⟨q0, q1, q2⟩ := K1
      have p0 := fun d os => cell_regrown q0 d os
      have p1 := fun d os => cell_regrown q1 d os
      have p2 := fun d os => cell_regrown q2 d os
      refine wp_region_quiet_below (by kernel_rfl) (by kernel_rfl) ?_
      repeat (go_big_quiet_step ((first | (go_at_call 17; exact Calls.regrown_of (H.out.1 _)) | (go_at_call 11; exact Calls.regrown_of (H.out.2 _)))))
      refine wpQuiet_nil ?_
      intro wq hw'
      have bq : Below W.heap.size W wq := by obtain ⟨p, rfl⟩ := hw'; exact below_regrown _ _ _
      clear hw'
      go_wp2
      go_ret
      exact ⟨rfl, bt B2 bq⟩
end Go.Proofs.YtomldmdnoalbiaaDoor
