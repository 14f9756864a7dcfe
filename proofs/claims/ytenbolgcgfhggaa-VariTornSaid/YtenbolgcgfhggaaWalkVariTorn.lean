/- VariTorn: the walk. -/
import Derived.Test.YtenbolgcgfhggaaEx01
import Derived.Test.YtenbolgcgfhggaaLift
import Derived.Test.YtenbolgcgfhggaaNum02
namespace Go.Proofs.Ytenbolgcgfhggaa
open Go.ChangeShapes Go.WideShapes Go.ChangeAt Go.RowKit
open Num (zig zag)
set_option linter.unusedVariables false

theorem bytesRow_last (D : List UInt8) (d : UInt8) (cap : Nat) : (bytesRow ⟨(D ++ [d]).toArray⟩ cap)[D.length]? = some (.int .u8 (d.toNat : Int)) := by
  rw [bytesRow_at _ _ _ (by simp)]; simp
theorem frozen_last (w : World) (D : List UInt8) (d : UInt8) (cap m : Nat) : (w.alloc (.cells (bytesRow ⟨(D ++ [d]).toArray⟩ cap) 5 ((bytesRow ⟨(D ++ [d]).toArray⟩ cap).size, m))).frozen? ⟨w.heap.size, D.length, none⟩ = false := by
  rw [World.frozen?_alloc_mark]
  simp [bytesRow]; omega

/-- 'string(b)' behind b's last byte has been written. -/
theorem torn_string (w : World) (D : List UInt8) (d E : UInt8) (cap : Nat) (fr : Nat × Nat) :
    (convert 37 9 (.slice (some ⟨w.heap.size, 0, none⟩) (D.length + 1) cap)).run Try.prog ((w.alloc (.cells (bytesRow ⟨(D ++ [d]).toArray⟩ cap) 5 fr)).setCell ⟨w.heap.size, D.length, none⟩ (.int .u8 (E.toNat : Int))).drew
      = .ok (.string ⟨(D ++ [E]).toArray⟩) ((w.alloc (.cells (bytesRow ⟨(D ++ [d]).toArray⟩ cap) 5 fr)).setCell ⟨w.heap.size, D.length, none⟩ (.int .u8 (E.toNat : Int))).drew := by
  have := run_convert_bytes_back (P := Try.prog) ((w.alloc (.cells (bytesRow ⟨(D ++ [d]).toArray⟩ cap) 5 fr)).setCell ⟨w.heap.size, D.length, none⟩ (.int .u8 (E.toNat : Int))).drew 37 9 5 ⟨w.heap.size, 0, none⟩ cap (D ++ [E]) Try.underlying37 Try.underlying5 Try.underlying9 (fun j hj => by
    rw [add_plain, Nat.zero_add]
    rw [List.length_append, List.length_singleton] at hj
    show ((w.alloc _).setCell _ _).cell? _ = _
    rcases (by omega : j = D.length ∨ j < D.length) with rfl | h
    · rw [World.cell?_setCell_same _ _ _ (by rw [World.cell?_alloc_mark, bytesRow_last])]
      simp
    · rw [World.cell?_setCell_other _ _ _ _ (by intro h'; injection h'; omega), World.cell?_alloc_mark, bytesRow_at _ _ _ (by simp; omega)]
      simp [List.getElem_append_left h])
  rw [List.length_append, List.length_singleton] at this
  exact this

set_option maxRecDepth 20000 in
theorem walk_VariTorn (u c : Int) (u0 : 0 ≤ u) (u1 : u ≤ 18446744073709551615) (c0 : 0 ≤ c) (c1 : c ≤ 255) (w : World) :
    Calls Try.prog 8 #[.int .u64 u, .int .u8 c] w fun e w' => e = .returned (.bool true) ∧ Below w.heap.size w w' := by
  obtain ⟨U, rfl⟩ := Int.eq_ofNat_of_zero_le u0
  obtain ⟨D, d, he, hD, hd⟩ := Num.put_shape U U (Nat.le_refl _)
  have hs : ∀ w, Calls Try.prog 11 #[.int .u64 (U : Int)] w fun e w' => e = .returned (.string ⟨(D ++ [d]).toArray⟩) ∧ Below w.heap.size w w' := fun w =>
    (Put_any U w (by omega) u1).mono fun _ _ ⟨h, hw⟩ => ⟨by rw [h]; exact ret_str he, hw⟩
  have HS := Lib.hid hs; clear hs
  have hie : (D ++ [d]).isEmpty = false := by simp
  have hq0 : 0 ≤ c % ((D.length : Int) + 1) := Int.emod_nonneg _ (by omega)
  have hq2 : c % ((D.length : Int) + 1) < (D.length : Int) + 1 := Int.emod_lt_of_pos _ (by omega)
  have hq1 : c % ((D.length : Int) + 1) ≤ (D.length : Int) + 1 := by omega
  have hg1 := Num.torn_prefix U he (by omega) (c % ((D.length : Int) + 1)) hq2
  have HG := Lib.hid hg1; clear hg1
  have h9 : D.length ≤ 9 := Num.shape_len U he (by omega)
  have hcl := fun (w : World) (cap : Nat) (fr : Nat × Nat) => (World.cell?_alloc_mark w (bytesRow ⟨(D ++ [d]).toArray⟩ cap) 5 fr D.length).trans (bytesRow_last D d cap)
  have hfz := fun (w : World) (cap m : Nat) => frozen_last w D d cap m
  obtain ⟨E, hE, hE8⟩ := Num.or_last d hd
  have hcv := fun (w : World) (cap : Nat) (fr : Nat × Nat) => torn_string w D d E cap fr
  have hg2 := Lib.hid (Num.torn_nought D E hD hE8)
  have hbs := fun w => run_bytes_of_string (P := Try.prog) w 9 37 5 ⟨(D ++ [d]).toArray⟩ Try.underlying9 Try.underlying37 Try.underlying5
  go_enter Try.func8, Try.ntmps8
  go_wp2_with (first
        | (go_at_call 10; ((with_reducible refine (examples_any _).mono ?_); rintro e w1 ⟨rfl, b1⟩))
        | (go_at_call 13; ((with_reducible refine (Get_none _ _ _ (HG.out).1 (HG.out).2).mono ?_); rintro e w3 ⟨rfl, rfl⟩))
        | (go_at_call 13; ((with_reducible refine (Get_none _ _ _ (hg2.out h9).1 (hg2.out h9).2).mono ?_); rintro e w3 ⟨rfl, rfl⟩))
        | (go_at_call 11; ((with_reducible refine (HS.out _).mono ?_); rintro e w2 ⟨rfl, b2⟩)))
  go_ret
  exact ⟨rfl, bt b1 (bt b2 (((Below.refl _ _).alloc (Nat.le_refl _) _).setCell (by simp) _).drew)⟩
end Go.Proofs.Ytenbolgcgfhggaa
