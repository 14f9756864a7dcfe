/- Contracts of the document's own answer to chapter 2: Put. -/
import Derived.Test.YtbmkbpehkpdcmaaRefV
import Derived.Test.YtbmkbpehkpdcmaaRef01
import Derived.Test.YtbmkbpehkpdcmaaValueP
namespace Go.Proofs.Ytbmkbpehkpdcmaa
open Go.ChangeShapes Go.WideShapes Go.ChangeAt Go.RowKit
open Num (zig zag)
set_option linter.unusedVariables false
set_option linter.unusedSimpArgs false

theorem rPut_v (k n : Int) (s : ByteArray) (w : World) (hs : s.size ≤ maxLen) (n0 : -9223372036854775808 ≤ n) (n1 : n ≤ 9223372036854775807) :
    Calls Try.prog 38 #[vv k n s] w fun e w' => e = .returned (.string ⟨(Val.put k n s).toArray⟩) ∧ Below w.heap.size w w' := by
  have cR := fun w => rRight_any k n s w hs
  have hP10 := Num.put_ten (Num.zig_natlt n n0 n1)
  unfold maxLen at hs
  have hb0 : Below w.heap.size w (w.alloc (.cells #[.int .i64 k, .int .i64 n, .string s] 83)) := (Below.refl _ _).alloc (Nat.le_refl _) _
  rcases hr : Val.right k n s with _ | _
  · have E := Lib.hid (Val.put_no hr)
    rw [hr] at cR
    have H := Lib.hid cR; clear cR hr
    go_enter Try.func38, Try.ntmps38
    go_wp2_with (go_at_call 36; ((with_reducible refine (H.out _).mono ?_); rintro e w1 ⟨rfl, b1⟩))
    go_ret
    exact ⟨by rw [E.out]; rfl, bt hb0 b1⟩
  · rcases Val.right_kind hr with rfl | rfl | rfl
    · have E := Lib.hid (Val.put_int hr)
      rw [hr] at cR
      have H := Lib.hid cR; clear cR hr
      go_enter Try.func38, Try.ntmps38
      go_wp2_with fail
      go_at_call 36
      ((with_reducible refine (H.out _).mono ?_); rintro e w1 ⟨rfl, b1⟩)
      obtain ⟨hc1, hf1⟩ := bcell b1
      have hz1 : w.heap.size < w1.heap.size := by have := b1.size; simp only [World.size_alloc] at this; omega
      have hcv := byte_string w1 1 1 rfl
      go_wp2_with (go_at_call 45; ((with_reducible refine (rPutInt_any _ _ n0 n1).mono ?_); rintro e w2 ⟨rfl, b2⟩))
      go_ret
      exact ⟨ret_bytes (by rw [E.out]; simp), bt hb0 (bt b1 (bt ((Below.refl _ _).alloc (Nat.le_refl _) _) b2))⟩
    · obtain ⟨_, hn⟩ := Val.right_bool hr
      have E := Lib.hid (Val.put_bool hr)
      rw [hr] at cR
      have H := Lib.hid cR; clear cR hr
      rcases hn with rfl | rfl
      all_goals
        go_enter Try.func38, Try.ntmps38
        go_wp2_with fail
        go_at_call 36
        ((with_reducible refine (H.out _).mono ?_); rintro e w1 ⟨rfl, b1⟩)
        obtain ⟨hc1, hf1⟩ := bcell b1
        have hz1 : w.heap.size < w1.heap.size := by have := b1.size; simp only [World.size_alloc] at this; omega
        have hcv := byte_string w1 2 2 rfl
        have hcv0 := byte_string (w1.alloc (.cells #[.int .u8 2] 5)) 0 0 rfl
        have hcv1 := byte_string (w1.alloc (.cells #[.int .u8 2] 5)) 1 1 rfl
        rw [World.size_alloc] at hcv0 hcv1
        go_wp2
        go_ret
        exact ⟨ret_bytes (by rw [E.out]; simp), bt hb0 (bt b1 (((Below.refl _ _).alloc (Nat.le_refl _) _).alloc (by simp) _))⟩
    · obtain ⟨rfl, hn⟩ := Val.right_text hr
      have E := Lib.hid (Val.put_text hr)
      rw [hr] at cR
      have H := Lib.hid cR; clear cR hr
      go_enter Try.func38, Try.ntmps38
      go_wp2_with fail
      go_at_call 36
      ((with_reducible refine (H.out _).mono ?_); rintro e w1 ⟨rfl, b1⟩)
      obtain ⟨hc1, hf1⟩ := bcell b1
      have hz1 : w.heap.size < w1.heap.size := by have := b1.size; simp only [World.size_alloc] at this; omega
      have hcv := byte_string w1 3 3 rfl
      have hQ10 := Num.put_ten (u := s.size) (by omega)
      go_wp2_with fail
      have hcell : (w1.alloc (.cells #[.int .u8 3] 5)).cell? ⟨w.heap.size, 2, none⟩ = some (.string s) := by
        rw [World.cell?_alloc_past _ _ _ hz1, hc1 _ _ (by simp), World.cell?_alloc_new]; rfl
      have bW : Below w1.heap.size w1 (w1.alloc (.cells #[.int .u8 3] 5)) := (Below.refl _ _).alloc (Nat.le_refl _) _
      generalize w1.alloc (.cells #[.int .u8 3] 5) = W at *
      have hq := fun d os => cell_regrown hcell d os
      clear hc1 hf1
      refine wp_region_quiet_below (by kernel_rfl) (by kernel_rfl) ?_
      repeat (go_big_quiet_step ((go_at_call 37; exact Calls.regrown_of (rPut_any _ _ (by omega) (by omega)))))
      refine wpQuiet_nil ?_
      intro wq hw'
      have bq : Below W.heap.size W wq := by obtain ⟨p, rfl⟩ := hw'; exact below_regrown _ _ _
      clear hw'
      go_wp2
      go_ret
      exact ⟨ret_bytes (by rw [E.out]; simp), bt hb0 (bt b1 (bt bW bq))⟩
end Go.Proofs.Ytbmkbpehkpdcmaa
