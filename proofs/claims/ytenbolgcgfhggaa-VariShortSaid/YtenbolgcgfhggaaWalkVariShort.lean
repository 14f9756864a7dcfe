/- VariShort: the walk. -/
import Derived.Test.YtenbolgcgfhggaaEx01
import Derived.Test.YtenbolgcgfhggaaLift
namespace Go.Proofs.Ytenbolgcgfhggaa
open Go.ChangeShapes Go.WideShapes Go.ChangeAt Go.RowKit
open Num (zig zag)
set_option linter.unusedVariables false

theorem Put_len (U m : Nat) (w : World) (h : U < 18446744073709551616) (hm : (Num.put U).length = m) : Calls Try.prog 11 #[.int .u64 (U : Int)] w fun e w' => ∃ s : ByteArray, e = .returned (.string s) ∧ s.size = m ∧ Below w.heap.size w w' :=
  (Put_any U w (by omega) (by omega)).mono fun _ _ ⟨he, hw⟩ => ⟨_, he, hm, hw⟩

set_option maxRecDepth 20000 in
theorem walk_VariShort (u v b : Int) (u0 : 0 ≤ u) (u1 : u ≤ 18446744073709551615) (v0 : 0 ≤ v) (v1 : v ≤ 18446744073709551615) (b0 : 0 ≤ b) (b1 : b ≤ 255) (w : World) :
    Calls Try.prog 6 #[.int .u64 u, .int .u64 v, .int .u8 b] w fun e w' => e = .returned (.bool true) ∧ Below w.heap.size w w' := by
  have xu := Num.shr_bd u (b % 64).toNat u0 u1
  have xv := Num.shr_bd v (b / 4 % 64).toNat v0 v1
  obtain ⟨xu0, xu1⟩ := xu
  obtain ⟨xv0, xv1⟩ := xv
  go_enter Try.func6, Try.ntmps6
  go_wp2_with (first
        | (go_at_call 10; ((with_reducible refine (examples_any _).mono ?_); rintro e w1 ⟨rfl, b1⟩)))
  generalize u / 2 ^ (b % 64).toNat = U at *
  generalize v / 2 ^ (b / 4 % 64).toNat = V at *
  obtain ⟨U, rfl⟩ := Int.eq_ofNat_of_zero_le xu0
  obtain ⟨V, rfl⟩ := Int.eq_ofNat_of_zero_le xv0
  have hU : U < 18446744073709551616 := by omega
  go_loop [8, 9] (fun mv kv => ∃ m k : Nat, mv = .int .i64 m ∧ kv = .int .u64 k ∧ Num.ShortRel U m k ∧ k ≤ U) (fun _ kv => (intOf kv).toNat)
  case atStart => exact ⟨1, U / 128, rfl, rfl, Num.ShortRel.start U, by omega⟩
  case round =>
    obtain ⟨m, k, rfl, rfl, HR, hk⟩ := hrel
    have hm := HR.le hU
    by_cases h0 : 0 < k
    · go_wp2
      exact ⟨⟨m + 1, k / 128, by go_num, rfl, HR.next h0, by omega⟩, by simp [intOf]; omega⟩
    · obtain rfl : k = 0 := by omega
      have hd := Lib.hid HR.done
      have hmo : V < U ∨ m ≤ (Num.put V).length := by
        rcases (by omega : U ≤ V ∨ V < U) with hc | hc
        · right; rw [← hd.out]; exact Num.put_mono V U V (Nat.le_refl _) hc
        · exact Or.inl hc
      generalize hn : (Num.put V).length = n at hmo
      have HN := Lib.hid hn; clear hn
      rcases hmo with hc | hc
      all_goals
        go_wp2_with (first
          | (go_at_call 11; ((with_reducible refine (Put_len U m _ hU hd.out).mono ?_); rintro e w2 ⟨s, rfl, hs, b2⟩))
          | (go_at_call 11; ((with_reducible refine (Put_len V n _ (by omega) HN.out).mono ?_); rintro e w3 ⟨t, rfl, ht, b3⟩)))
        all_goals
          go_ret
          refine ⟨ret_bool ?_, bt b1 (bt b2 b3)⟩
          first | rfl | (simp; omega)
end Go.Proofs.Ytenbolgcgfhggaa
