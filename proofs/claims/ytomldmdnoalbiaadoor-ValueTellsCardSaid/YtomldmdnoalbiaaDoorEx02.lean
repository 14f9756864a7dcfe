/- The examples of chapter 2 hold. -/
import Derived.Test.YtomldmdnoalbiaaDoorValueO
import Derived.Test.YtomldmdnoalbiaaDoorValueP
import Derived.Test.YtomldmdnoalbiaaDoorValueG
import Derived.Test.YtomldmdnoalbiaaDoorValueS
namespace Go.Proofs.YtomldmdnoalbiaaDoor
open Go.ChangeShapes Go.WideShapes Go.ChangeAt Go.RowKit
set_option linter.unusedVariables false
set_option linter.unusedSimpArgs false

theorem xg1 : Val.getAt ⟨#[120, 3, 2, 97, 98]⟩ 1 = some ((3, 0, ⟨#[97, 98]⟩), 5) := by decide +kernel
theorem xg2 : Val.getAt ⟨#[2, 2]⟩ 0 = none := by decide +kernel
theorem xo1 : orderV 3 0 ⟨#[97]⟩ 3 0 ⟨#[97, 98]⟩ = .tuple #[.int .i64 (-1), .bool true] := by
  rw [orderV_text (by decide +kernel) (by decide +kernel), show Val.cmpS ⟨#[97]⟩ ⟨#[97, 98]⟩ = -1 by decide +kernel]
theorem xo2 : orderV 2 1 ⟨#[]⟩ 3 0 ⟨#[97, 98]⟩ = .tuple #[.int .i64 0, .bool false] := orderV_no (Or.inr (Or.inr (by decide)))
theorem xp : Val.put 2 1 ⟨#[]⟩ = [2, 1] := by decide +kernel
theorem xs1 : Val.showL 2 1 ⟨#[]⟩ = [116, 114, 117, 101] := by decide +kernel
theorem xs2 : Val.showL 3 0 ⟨#[97, 98]⟩ = [39, 97, 98, 39] := by decide +kernel
theorem xs3 : Val.showL 1 (-7) ⟨#[]⟩ = [45, 55] := by decide +kernel
theorem xs4 : Val.showL 0 0 ⟨#[]⟩ = [63] := by decide +kernel
theorem xr : Val.right 0 0 ⟨#[]⟩ = false := by decide +kernel
theorem m1 : (⟨#[]⟩ : ByteArray).size ≤ maxLen := by decide
theorem m2 : (⟨#[97, 98]⟩ : ByteArray).size ≤ maxLen := by decide

theorem cg1 (w : World) : Calls Tryd.prog 12 #[.string ⟨#[120, 3, 2, 97, 98]⟩, .int .i64 1] w fun e w' => e = .returned (.tuple #[vv 3 0 ⟨#[97, 98]⟩, .int .i64 5, .bool true]) ∧ Below w.heap.size w w' :=
  (Get_v _ _ w (by decide)).mono fun _ _ ⟨he, hw⟩ => ⟨by rw [he, xg1]; rfl, hw⟩
theorem cg2 (w : World) : Calls Tryd.prog 12 #[.string ⟨#[2, 2]⟩, .int .i64 0] w fun e w' => e = .returned (.tuple #[vv 0 0 ⟨#[]⟩, .int .i64 0, .bool false]) ∧ Below w.heap.size w w' :=
  (Get_v _ _ w (by decide)).mono fun _ _ ⟨he, hw⟩ => ⟨by rw [he, xg2]; rfl, hw⟩
theorem co1 (w : World) : Calls Tryd.prog 14 #[vv 3 0 ⟨#[97]⟩, vv 3 0 ⟨#[97, 98]⟩] w fun e w' => e = .returned (.tuple #[.int .i64 (-1), .bool true]) ∧ Below w.heap.size w w' :=
  (Order_any _ _ _ _ _ _ w (by decide) (by decide)).mono fun _ _ ⟨he, hw⟩ => ⟨by rw [he, xo1], hw⟩
theorem co2 (w : World) : Calls Tryd.prog 14 #[vv 2 1 ⟨#[]⟩, vv 3 0 ⟨#[97, 98]⟩] w fun e w' => e = .returned (.tuple #[.int .i64 0, .bool false]) ∧ Below w.heap.size w w' :=
  (Order_any _ _ _ _ _ _ w (by decide) (by decide)).mono fun _ _ ⟨he, hw⟩ => ⟨by rw [he, xo2], hw⟩
theorem cp (w : World) : Calls Tryd.prog 11 #[vv 2 1 ⟨#[]⟩] w fun e w' => e = .returned (.string ⟨#[2, 1]⟩) ∧ Below w.heap.size w w' :=
  (Put_v _ _ _ w (by decide) (by decide) (by decide)).mono fun _ _ ⟨he, hw⟩ => ⟨by rw [he, xp], hw⟩
theorem cs1 (w : World) (ht : Tab w) : Calls Tryd.prog 20 #[vv 2 1 ⟨#[]⟩] w fun e w' => e = .returned (.string ⟨#[116, 114, 117, 101]⟩) ∧ Below w.heap.size w w' :=
  (Show_v _ _ _ w (by decide) (by decide) (by decide) ht).mono fun _ _ ⟨he, hw⟩ => ⟨by rw [he, xs1], hw⟩
theorem cs2 (w : World) (ht : Tab w) : Calls Tryd.prog 20 #[vv 3 0 ⟨#[97, 98]⟩] w fun e w' => e = .returned (.string ⟨#[39, 97, 98, 39]⟩) ∧ Below w.heap.size w w' :=
  (Show_v _ _ _ w (by decide) (by decide) (by decide) ht).mono fun _ _ ⟨he, hw⟩ => ⟨by rw [he, xs2], hw⟩
theorem cs3 (w : World) (ht : Tab w) : Calls Tryd.prog 20 #[vv 1 (-7) ⟨#[]⟩] w fun e w' => e = .returned (.string ⟨#[45, 55]⟩) ∧ Below w.heap.size w w' :=
  (Show_v _ _ _ w (by decide) (by decide) (by decide) ht).mono fun _ _ ⟨he, hw⟩ => ⟨by rw [he, xs3], hw⟩
theorem cs4 (w : World) (ht : Tab w) : Calls Tryd.prog 20 #[vv 0 0 ⟨#[]⟩] w fun e w' => e = .returned (.string ⟨#[63]⟩) ∧ Below w.heap.size w w' :=
  (Show_v _ _ _ w (by decide) (by decide) (by decide) ht).mono fun _ _ ⟨he, hw⟩ => ⟨by rw [he, xs4], hw⟩
theorem cr (w : World) : Calls Tryd.prog 17 #[vv 0 0 ⟨#[]⟩] w fun e w' => e = .returned (.bool false) ∧ Below w.heap.size w w' :=
  (Right_any _ _ _ w (by decide)).mono fun _ _ ⟨he, hw⟩ => ⟨by rw [he, xr], hw⟩

set_option maxRecDepth 20000 in
theorem examples_any (w : World) (ht : Tab w) : Calls Tryd.prog 9 #[] w fun e w' => e = .returned (.bool true) ∧ Below w.heap.size w w' := by
  have HT := Lib.hid ht; clear ht
  go_enter Tryd.func9, Tryd.ntmps9
  go_wp2_with fail
  go_at_call 12
  ((with_reducible refine (cg1 _).mono ?_); rintro e w1 ⟨rfl, b1⟩)
  have B1 := bt (ba _ _) b1
  have K1 := (Box3.new w _ _ _ _).later b1
  go_wp2_with fail
  go_at_call 12
  ((with_reducible refine (cg2 _).mono ?_); rintro e w2 ⟨rfl, b2⟩)
  have K2 := (Box3.new w1 _ _ _ _).later b2
  have B2 := bt B1 (bt (ba _ _) b2)
  have K1' := (K1.later (ba _ _)).later b2
  go_wp2_with fail
  go_at_call 14
  ((with_reducible refine (co1 _).mono ?_); rintro e w3 ⟨rfl, b3⟩)
  have B3 := bt B2 (bt (ba _ _) b3)
  have K := Lib.hid (And.intro ((K1'.later (ba _ _)).later b3) (And.intro ((K2.later (ba _ _)).later b3) (And.intro (HT.out.later B3) B3)))
  obtain ⟨⟨x0, x1, x2⟩, ⟨y0, y1, y2⟩, _, _⟩ := K.out
  clear b1 b2 b3 B1 B2 B3 K1 K2 K1'
  go_wp2_with (first
      | (go_at_call 14; ((with_reducible refine (co2 _).mono ?_); rintro e w2 ⟨rfl, b2⟩; have k0 := K.out; obtain ⟨k1, k2, kt, kb⟩ := k0; replace K := Lib.hid (And.intro (k1.later b2) (And.intro (k2.later b2) (And.intro (kt.later b2) (bt kb b2)))); obtain ⟨⟨x0, x1, x2⟩, ⟨y0, y1, y2⟩, _, _⟩ := K.out; clear k1 k2 kt kb b2))
      | (go_at_call 11; ((with_reducible refine (cp _).mono ?_); rintro e w2 ⟨rfl, b2⟩; have k0 := K.out; obtain ⟨k1, k2, kt, kb⟩ := k0; replace K := Lib.hid (And.intro (k1.later b2) (And.intro (k2.later b2) (And.intro (kt.later b2) (bt kb b2)))); obtain ⟨⟨x0, x1, x2⟩, ⟨y0, y1, y2⟩, _, _⟩ := K.out; clear k1 k2 kt kb b2))
      | (go_at_call 20; ((with_reducible refine (cs1 _ K.out.2.2.1).mono ?_); rintro e w2 ⟨rfl, b2⟩; have k0 := K.out; obtain ⟨k1, k2, kt, kb⟩ := k0; replace K := Lib.hid (And.intro (k1.later b2) (And.intro (k2.later b2) (And.intro (kt.later b2) (bt kb b2)))); obtain ⟨⟨x0, x1, x2⟩, ⟨y0, y1, y2⟩, _, _⟩ := K.out; clear k1 k2 kt kb b2))
      | (go_at_call 20; ((with_reducible refine (cs2 _ K.out.2.2.1).mono ?_); rintro e w2 ⟨rfl, b2⟩; have k0 := K.out; obtain ⟨k1, k2, kt, kb⟩ := k0; replace K := Lib.hid (And.intro (k1.later b2) (And.intro (k2.later b2) (And.intro (kt.later b2) (bt kb b2)))); obtain ⟨⟨x0, x1, x2⟩, ⟨y0, y1, y2⟩, _, _⟩ := K.out; clear k1 k2 kt kb b2))
      | (go_at_call 20; ((with_reducible refine (cs3 _ K.out.2.2.1).mono ?_); rintro e w2 ⟨rfl, b2⟩; have k0 := K.out; obtain ⟨k1, k2, kt, kb⟩ := k0; replace K := Lib.hid (And.intro (k1.later b2) (And.intro (k2.later b2) (And.intro (kt.later b2) (bt kb b2)))); obtain ⟨⟨x0, x1, x2⟩, ⟨y0, y1, y2⟩, _, _⟩ := K.out; clear k1 k2 kt kb b2))
      | (go_at_call 20; ((with_reducible refine (cs4 _ K.out.2.2.1).mono ?_); rintro e w2 ⟨rfl, b2⟩; have k0 := K.out; obtain ⟨k1, k2, kt, kb⟩ := k0; replace K := Lib.hid (And.intro (k1.later b2) (And.intro (k2.later b2) (And.intro (kt.later b2) (bt kb b2)))); obtain ⟨⟨x0, x1, x2⟩, ⟨y0, y1, y2⟩, _, _⟩ := K.out; clear k1 k2 kt kb b2))
      | (go_at_call 17; ((with_reducible refine (cr _).mono ?_); rintro e w2 ⟨rfl, b2⟩; have k0 := K.out; obtain ⟨k1, k2, kt, kb⟩ := k0; replace K := Lib.hid (And.intro (k1.later b2) (And.intro (k2.later b2) (And.intro (kt.later b2) (bt kb b2)))); obtain ⟨⟨x0, x1, x2⟩, ⟨y0, y1, y2⟩, _, _⟩ := K.out; clear k1 k2 kt kb b2)))
  go_ret
  exact ⟨rfl, K.out.2.2.2⟩
end Go.Proofs.YtomldmdnoalbiaaDoor
