/- VariOnce: the walk. -/
import Derived.Test.YtenbolgcgfhggaaEx01
import Derived.Test.YtenbolgcgfhggaaLift
import Derived.Test.YtenbolgcgfhggaaNum02
import Derived.BigQuiet
import Derived.Lib.QuietBelow
namespace Go.Proofs.Ytenbolgcgfhggaa
open Go.ChangeShapes Go.WideShapes Go.ChangeAt Go.RowKit
open Num (zig zag)
set_option linter.unusedVariables false

/-- 'string(l)'. -/
theorem string_of (w : World) (v : Value) (l : List UInt8) (h : BytesAt w v l) :
    (convert 37 9 v).run Try.prog w = .ok (.string ⟨l.toArray⟩) w := by
  rcases h with ⟨rfl, rfl⟩ | ⟨a, cap, rfl, _, _, hc⟩
  · exact run_convert_bytes_nil (P := Try.prog) w 37 5 Try.underlying37 Try.underlying5 0 0 9 Try.underlying9
  · exact run_convert_bytes_back (P := Try.prog) w 37 9 5 a cap l Try.underlying37 Try.underlying5 Try.underlying9 hc

/-- A string's piece. -/
theorem slice_str (P : Program) (w : World) (t : TypeId) (ht : P.underlying t = some .string) (s : ByteArray) (n k : Nat) (h1 : n ≤ k) (h2 : k ≤ s.size) :
    (Instr.slice t (.string s) (some (.int .i64 (n : Int))) (some (.int .i64 (k : Int))) none).run P w = .ok (.string (s.extract n k)) w := by
  have a1 : (0 : Int) ≤ (n : Int) := by omega
  have a2 : (n : Int) ≤ (k : Int) := by omega
  have a3 : (k : Int) ≤ (s.size : Int) := by omega
  have a4 : (0 : Int) ≤ (k : Int) := by omega
  simp [Instr.slice, run_underlying ht, Instr.sliceBounds, run_sliceBound, a1, a2, a3, a4]

set_option maxRecDepth 20000 in
theorem walk_VariOnce (s : ByteArray) (v : Value) (l : List UInt8) (a : Int) (near : Bool) (w : World) (hs : s.size ≤ 140737488351232) (hv : BytesAt w v l) (hl : l.length ≤ 140737488351232) (a0 : -9223372036854775808 ≤ a) (a1 : a ≤ 9223372036854775807):
    Calls Try.prog 7 #[.string s, v, .int .i64 a, .bool near] w fun e w' => e = .returned (.bool true) ∧ Below w.heap.size w w' := by
  have hcv := fun (w' : World) (hb : Below w.heap.size w w') => string_of w' v l (hv.later hb)
  have HV := Lib.hid hcv; clear hcv hv
  cases near
  · go_enter Try.func7, Try.ntmps7
    go_wp2_with (first
        | (go_at_call 10; ((with_reducible refine (examples_any _).mono ?_); rintro e w1 ⟨rfl, b1⟩; have hcv := HV.out _ b1)))
    have hsz : (s ++ ⟨l.toArray⟩ : ByteArray).size ≤ maxLen := by rw [ByteArray.size_append]; show s.size + l.length ≤ _; unfold maxLen; omega
    generalize (s ++ ⟨l.toArray⟩ : ByteArray) = S at *
    clear hcv
    rcases hg : Num.getAt S.data.toList a with _ | ⟨u, k⟩
    · have HG := Lib.hid hg; clear hg
      go_at_call 13
      ((with_reducible refine (Get_none _ _ _ hsz HG.out).mono ?_); rintro e w3 ⟨rfl, rfl⟩)
      go_wp2
      go_ret
      exact ⟨rfl, b1⟩
    · obtain ⟨h64, h0, hk, hkl, ht⟩ := Num.getAt_some hg
      have hl1 := Num.put_pos u
      have HG := Lib.hid hg; clear hg
      go_at_call 13
      ((with_reducible refine (Get_some _ _ _ hsz _ _ HG.out).mono ?_); rintro e w3 ⟨rfl, rfl⟩)
      obtain ⟨n, rfl⟩ := Int.eq_ofNat_of_zero_le h0
      have hk1 : n < k := by simp at hk; omega
      have hks : k ≤ S.size := by simpa using hkl
      have cP : ∀ w, Calls Try.prog 11 #[.int .u64 (u : Int)] w fun e w' => e = .returned (.string (S.extract n k)) ∧ Below w.heap.size w w' := fun w =>
        (Put_any u w (by omega) (by omega)).mono fun _ _ ⟨h, hw⟩ => ⟨by rw [h]; exact congrArg (fun s => Ending.returned (Value.string s)) (ByteArray.ext (by
          apply Array.toList_inj.1
          rw [Num.extract_toList, List.drop_take]
          simp at hk ht
          rw [show k - n = (Num.put u).length by omega, ht]; simp)), hw⟩
      have HP := Lib.hid cP
      have hks' : (k : Int) ≤ (S.size : Int) := by omega
      have hsl := fun w => slice_str Try.prog w 9 Try.underlying9 S n k (by omega) hks
      clear cP ht hk hkl h0 hl1 h64
      unfold maxLen at hsz
      go_wp2
      refine wp_region_quiet_below (by kernel_rfl) (by kernel_rfl) ?_
      repeat (go_big_quiet_step ((go_at_call 11; exact Calls.regrown_of (HP.out _))))
      refine wpQuiet_nil ?_
      intro wq hw'
      have bq : Below w1.heap.size w1 wq := by obtain ⟨p, rfl⟩ := hw'; exact below_regrown _ _ _
      clear hw'
      go_wp2
      go_ret
      exact ⟨rfl, bt b1 bq⟩
  · go_enter Try.func7, Try.ntmps7
    go_wp2_with (first
        | (go_at_call 10; ((with_reducible refine (examples_any _).mono ?_); rintro e w1 ⟨rfl, b1⟩; have hcv := HV.out _ b1)))
    clear a0 a1
    have hsz : (s ++ ⟨l.toArray⟩ : ByteArray).size ≤ maxLen := by rw [ByteArray.size_append]; show s.size + l.length ≤ _; unfold maxLen; omega
    generalize (s ++ ⟨l.toArray⟩ : ByteArray) = S at *
    generalize a.tmod ((s.size : Int) + (l.length : Int) + 1) = a at *
    clear hcv
    rcases hg : Num.getAt S.data.toList a with _ | ⟨u, k⟩
    · have HG := Lib.hid hg; clear hg
      go_at_call 13
      ((with_reducible refine (Get_none _ _ _ hsz HG.out).mono ?_); rintro e w3 ⟨rfl, rfl⟩)
      go_wp2
      go_ret
      exact ⟨rfl, b1⟩
    · obtain ⟨h64, h0, hk, hkl, ht⟩ := Num.getAt_some hg
      have hl1 := Num.put_pos u
      have HG := Lib.hid hg; clear hg
      go_at_call 13
      ((with_reducible refine (Get_some _ _ _ hsz _ _ HG.out).mono ?_); rintro e w3 ⟨rfl, rfl⟩)
      obtain ⟨n, rfl⟩ := Int.eq_ofNat_of_zero_le h0
      have hk1 : n < k := by simp at hk; omega
      have hks : k ≤ S.size := by simpa using hkl
      have cP : ∀ w, Calls Try.prog 11 #[.int .u64 (u : Int)] w fun e w' => e = .returned (.string (S.extract n k)) ∧ Below w.heap.size w w' := fun w =>
        (Put_any u w (by omega) (by omega)).mono fun _ _ ⟨h, hw⟩ => ⟨by rw [h]; exact congrArg (fun s => Ending.returned (Value.string s)) (ByteArray.ext (by
          apply Array.toList_inj.1
          rw [Num.extract_toList, List.drop_take]
          simp at hk ht
          rw [show k - n = (Num.put u).length by omega, ht]; simp)), hw⟩
      have HP := Lib.hid cP
      have hks' : (k : Int) ≤ (S.size : Int) := by omega
      have hsl := fun w => slice_str Try.prog w 9 Try.underlying9 S n k (by omega) hks
      clear cP ht hk hkl h0 hl1 h64
      unfold maxLen at hsz
      go_wp2
      refine wp_region_quiet_below (by kernel_rfl) (by kernel_rfl) ?_
      repeat (go_big_quiet_step ((go_at_call 11; exact Calls.regrown_of (HP.out _))))
      refine wpQuiet_nil ?_
      intro wq hw'
      have bq : Below w1.heap.size w1 wq := by obtain ⟨p, rfl⟩ := hw'; exact below_regrown _ _ _
      clear hw'
      go_wp2
      go_ret
      exact ⟨rfl, bt b1 bq⟩
end Go.Proofs.Ytenbolgcgfhggaa
