/- The examples of chapter 4 hold. -/
import Derived.Test.YtbmkbpehkpdcmaaEventI
import Derived.Test.YtbmkbpehkpdcmaaEventF
namespace Go.Proofs.Ytbmkbpehkpdcmaa
open Go.ChangeShapes Go.WideShapes Go.ChangeAt Go.RowKit
open Ev (V3 rightV OkV)
set_option linter.unusedVariables false
set_option linter.unusedSimpArgs false

theorem vals_lit {w : World} {g : Nat} {k n : Int} {s : ByteArray} (h : Blk w g 35 #[.int .i64 k, .int .i64 n, .string s]) : ValsAt w (.slice (some ⟨g, 0, none⟩) 1 1) [(k, n, s)] := by
  refine ⟨some ⟨g, 0, none⟩, 1, rfl, by simp, by unfold maxLen; omega, fun _ => ⟨_, rfl, fun j hj => ?_⟩⟩
  obtain rfl : j = 0 := by simp at hj; exact hj
  exact ⟨h.cell 0, h.cell 1, h.cell 2⟩
theorem fields_lit {w : World} {g : Nat} {n : ByteArray} {k : Int} (h : Blk w g 37 #[.string n, .int .i64 k]) : FieldsAt w (.slice (some ⟨g, 0, none⟩) 1 1) [(n, k)] := by
  refine ⟨some ⟨g, 0, none⟩, 1, rfl, by simp, by unfold maxLen; omega, fun _ => ⟨_, rfl, fun j hj => ?_⟩⟩
  obtain rfl : j = 0 := by simp at hj; exact hj
  exact ⟨h.cell 0, h.cell 1⟩
/-- What the examples lay first. -/
def ExFacts (b : Nat) (w : World) : Prop :=
  Box3 w b (.bool true) (.int .i64 5) (.slice none 0 0) ∧ Box2 w (b + 2) (.int .i64 300) (.slice (some ⟨b + 1, 0, none⟩) 1 1) ∧ Box2 w (b + 4) (.string ⟨#[97]⟩) (.slice (some ⟨b + 3, 0, none⟩) 1 1) ∧
  ValsAt w (.slice (some ⟨b + 1, 0, none⟩) 1 1) [(1, -1, ⟨#[]⟩)] ∧ FieldsAt w (.slice (some ⟨b + 3, 0, none⟩) 1 1) [(⟨#[120]⟩, 1)]
theorem ExFacts.later {b : Nat} {w w' : World} (h : ExFacts b w) (hb : Below w.heap.size w w') : ExFacts b w' :=
  ⟨h.1.later hb, h.2.1.later hb, h.2.2.1.later hb, h.2.2.2.1.later hb, h.2.2.2.2.later hb⟩
theorem exv {b : Nat} {w : World} (h : ExFacts b w) : ValsAt w (.slice (some ⟨b + 1, 0, none⟩) 1 1) [(1, -1, ⟨#[]⟩)] := h.2.2.2.1
theorem exf {b : Nat} {w : World} (h : ExFacts b w) : FieldsAt w (.slice (some ⟨b + 3, 0, none⟩) 1 1) [(⟨#[120]⟩, 1)] := h.2.2.2.2
theorem ex_start (w : World) : ExFacts w.heap.size (((((w.alloc (.cells #[.bool true, .int .i64 5, .slice none 0 0] 26)).alloc (.cells #[.int .i64 1, .int .i64 (-1), .string ⟨#[]⟩] 35)).alloc (.cells #[.int .i64 300, .slice (some ⟨w.heap.size + 1, 0, none⟩) 1 1] 24)).alloc (.cells #[.string ⟨#[120]⟩, .int .i64 1] 37)).alloc (.cells #[.string ⟨#[97]⟩, .slice (some ⟨w.heap.size + 3, 0, none⟩) 1 1] 30)) := by
  have B1 := Blk.new (w.alloc (.cells #[.bool true, .int .i64 5, .slice none 0 0] 26)) 35 #[.int .i64 1, .int .i64 (-1), .string ⟨#[]⟩]
  rw [World.size_alloc] at B1
  have B2 := Box2.new ((w.alloc (.cells #[.bool true, .int .i64 5, .slice none 0 0] 26)).alloc (.cells #[.int .i64 1, .int .i64 (-1), .string ⟨#[]⟩] 35)) (.int .i64 300) (.slice (some ⟨w.heap.size + 1, 0, none⟩) 1 1) 24
  rw [World.size_alloc, World.size_alloc] at B2
  have B3 := Blk.new (((w.alloc (.cells #[.bool true, .int .i64 5, .slice none 0 0] 26)).alloc (.cells #[.int .i64 1, .int .i64 (-1), .string ⟨#[]⟩] 35)).alloc (.cells #[.int .i64 300, .slice (some ⟨w.heap.size + 1, 0, none⟩) 1 1] 24)) 37 #[.string ⟨#[120]⟩, .int .i64 1]
  rw [World.size_alloc, World.size_alloc, World.size_alloc] at B3
  have B4 := Box2.new ((((w.alloc (.cells #[.bool true, .int .i64 5, .slice none 0 0] 26)).alloc (.cells #[.int .i64 1, .int .i64 (-1), .string ⟨#[]⟩] 35)).alloc (.cells #[.int .i64 300, .slice (some ⟨w.heap.size + 1, 0, none⟩) 1 1] 24)).alloc (.cells #[.string ⟨#[120]⟩, .int .i64 1] 37)) (.string ⟨#[97]⟩) (.slice (some ⟨w.heap.size + 3, 0, none⟩) 1 1) 30
  rw [World.size_alloc, World.size_alloc, World.size_alloc, World.size_alloc] at B4
  exact ⟨((((Box3.new w _ _ _ _).later (ba _ _)).later (ba _ _)).later (ba _ _)).later (ba _ _), (B2.later (ba _ _)).later (ba _ _), B4, vals_lit (((B1.alloc _).alloc _).alloc _), fields_lit (B3.alloc _)⟩

def xe : List V3 := [(1, -1, ⟨#[]⟩)]
theorem xe_size : ∀ x ∈ [((1, -1, ⟨#[]⟩) : V3)], x.2.2.size ≤ maxLen := by decide
theorem xe_ok : ∀ x ∈ [((1, -1, ⟨#[]⟩) : V3)], OkV x := by
  intro x hx
  obtain rfl : x = (1, -1, ⟨#[]⟩) := by simpa using hx
  exact ⟨by decide, by decide, by decide, by decide⟩
theorem xp : Ev.plain 300 [((1, -1, ⟨#[]⟩) : V3)] = true := by decide +kernel
theorem xput : Ev.put 300 [((1, -1, ⟨#[]⟩) : V3)] = [172, 2, 1, 1, 1] := by decide +kernel
theorem xi1 : Ev.getI ⟨#[1, 5]⟩ = some (true, 5, []) := by decide +kernel
theorem xg1 : Ev.get ⟨#[172, 2, 1, 1, 1]⟩ = some (300, [(1, -1, ⟨#[]⟩)]) := by decide +kernel
theorem xg2 : Ev.get ⟨#[172, 2, 1, 1]⟩ = none := by decide +kernel
theorem xpi : Ev.putI true 5 [] = [1, 5] := by decide +kernel
theorem xr1 : Ev.rightI true 5 [] = true := by decide +kernel
theorem xr2 : Ev.rightI true 300 [((1, -1, ⟨#[]⟩) : V3)] = false := by decide +kernel
theorem xf1 : fitsE [((⟨#[120]⟩, 1) : ByteArray × Int)] 300 [((1, -1, ⟨#[]⟩) : V3)] = 0 := by decide +kernel
theorem xf2 : fitsE [((⟨#[120]⟩, 1) : ByteArray × Int)] 0 [] = 7 := by decide +kernel
theorem xpl : Ev.plain (-1) [] = false := by decide +kernel
theorem xnil : ∀ x ∈ ([] : List V3), x.2.2.size ≤ maxLen := by simp
theorem xnilok : ∀ x ∈ ([] : List V3), OkV x := by simp
theorem cPutItem (w : World)  : Calls Try.prog 6 #[item true 5 (.slice none 0 0)] w fun e w' => e = .returned (.string ⟨#[1, 5]⟩) ∧ Below w.heap.size w w' :=
  (PutItem_mark 5 (.slice none 0 0) [] w (ValsAt.nil w) xnil xr1).mono fun _ _ ⟨he, hw⟩ => ⟨by rw [he, xpi], hw⟩
theorem cPut (v : Value) (w : World) (hv : ValsAt w v [(1, -1, ⟨#[]⟩)]) : Calls Try.prog 7 #[ev 300 v] w fun e w' => e = .returned (.string ⟨#[172, 2, 1, 1, 1]⟩) ∧ Below w.heap.size w w' :=
  (Put_yes 300 v _ w hv xe_ok xp).mono fun _ _ ⟨he, hw⟩ => ⟨by rw [he, xput], hw⟩
theorem cFits1 (v fv : Value) (w : World) (hf : FieldsAt w fv [(⟨#[120]⟩, 1)]) (hv : ValsAt w v [(1, -1, ⟨#[]⟩)]) : Calls Try.prog 13 #[strm ⟨#[97]⟩ fv, ev 300 v] w fun e w' => e = .returned (.int .i64 0) ∧ Below w.heap.size w w' :=
  (Fits_any _ fv _ 300 v _ w hf hv xe_size).mono fun _ _ ⟨he, hw⟩ => ⟨by rw [he, xf1], hw⟩
theorem cFits2 (fv : Value) (w : World) (hf : FieldsAt w fv [(⟨#[120]⟩, 1)]) : Calls Try.prog 13 #[strm ⟨#[97]⟩ fv, ev 0 (.slice none 0 0)] w fun e w' => e = .returned (.int .i64 7) ∧ Below w.heap.size w w' :=
  (Fits_any _ fv _ 0 _ [] w hf (ValsAt.nil w) xnil).mono fun _ _ ⟨he, hw⟩ => ⟨by rw [he, xf2], hw⟩
theorem cRight1 (w : World)  : Calls Try.prog 22 #[item true 5 (.slice none 0 0)] w fun e w' => e = .returned (.bool true) ∧ Below w.heap.size w w' :=
  (Right_i true 5 _ [] w (ValsAt.nil w) xnil).mono fun _ _ ⟨he, hw⟩ => ⟨by rw [he, xr1], hw⟩
theorem cRight2 (v : Value) (w : World) (hv : ValsAt w v [(1, -1, ⟨#[]⟩)]) : Calls Try.prog 22 #[item true 300 v] w fun e w' => e = .returned (.bool false) ∧ Below w.heap.size w w' :=
  (Right_i true 300 v _ w hv xe_size).mono fun _ _ ⟨he, hw⟩ => ⟨by rw [he, xr2], hw⟩
theorem cPlain1 (v : Value) (w : World) (hv : ValsAt w v [(1, -1, ⟨#[]⟩)]) : Calls Try.prog 20 #[ev 300 v] w fun e w' => e = .returned (.bool true) ∧ Below w.heap.size w w' :=
  (Plain_any 300 v _ w hv xe_size).mono fun _ _ ⟨he, hw⟩ => ⟨by rw [he, xp], hw⟩
theorem cPlain2 (w : World)  : Calls Try.prog 20 #[ev (-1) (.slice none 0 0)] w fun e w' => e = .returned (.bool false) ∧ Below w.heap.size w w' :=
  (Plain_any (-1) _ [] w (ValsAt.nil w) xnil).mono fun _ _ ⟨he, hw⟩ => ⟨by rw [he, xpl], hw⟩
theorem cSameItem (v : Value) (w : World) (hv : ValsAt w v []) : Calls Try.prog 17 #[item true 5 v, item true 5 (.slice none 0 0)] w fun e w' => e = .returned (.bool true) ∧ Below w.heap.size w w' :=
  (SameItem_any true 5 v [] true 5 _ [] w hv (ValsAt.nil w)).mono fun _ _ ⟨he, hw⟩ => ⟨by rw [he]; rfl, hw⟩
theorem cSame (v u : Value) (w : World) (hv : ValsAt w v [(1, -1, ⟨#[]⟩)]) (hu : ValsAt w u [(1, -1, ⟨#[]⟩)]) : Calls Try.prog 15 #[ev 300 v, ev 300 u] w fun e w' => e = .returned (.bool true) ∧ Below w.heap.size w w' :=
  (Same_any 300 v _ 300 u _ w hv hu).mono fun _ _ ⟨he, hw⟩ => ⟨by rw [he]; simp, hw⟩

set_option maxRecDepth 20000 in
set_option maxHeartbeats 1000000 in
theorem examples_any (w : World) : Calls Try.prog 4 #[] w fun e w' => e = .returned (.bool true) ∧ Below w.heap.size w w' := by
  have HX := Lib.hid (ex_start w)
  have bX := bt (bt (bt (bt (ba w (.cells #[.bool true, .int .i64 5, .slice none 0 0] 26)) (ba _ (.cells #[.int .i64 1, .int .i64 (-1), .string ⟨#[]⟩] 35))) (ba _ (.cells #[.int .i64 300, .slice (some ⟨w.heap.size + 1, 0, none⟩) 1 1] 24))) (ba _ (.cells #[.string ⟨#[120]⟩, .int .i64 1] 37))) (ba _ (.cells #[.string ⟨#[97]⟩, .slice (some ⟨w.heap.size + 3, 0, none⟩) 1 1] 30))
  have K := Lib.hid (And.intro HX.out bX)
  clear HX bX
  go_enter Try.func4, Try.ntmps4
  go_wp2_with fail
  go_at_call 8
  ((with_reducible refine (GetItem_yes _ _ (by decide) _ _ _ xi1).mono ?_); rintro e w1 ⟨v1, ⟨rfl, hv1⟩, b1⟩)
  obtain ⟨A1, c1, rfl⟩ : ∃ A c, v1 = .slice A 0 c := hv1.shape
  have bA := ba w1 (.cells #[.bool true, .int .i64 5, .slice A1 0 c1] 26)
  replace K := Lib.hid (And.intro (K.out.1.later (bt b1 bA)) (And.intro (bt K.out.2 (bt b1 bA)) (And.intro (Box3.new w1 (.bool true) (.int .i64 5) (.slice A1 0 c1) 26) (hv1.vals.later bA))))
  clear b1 bA hv1
  go_wp2_with fail
  go_at_call 10
  ((with_reducible refine (EGet_yes _ _ (by decide) _ _ xg1).mono ?_); rintro e w2 ⟨v2, ⟨rfl, hv2⟩, b2⟩)
  obtain ⟨A2, c2, rfl⟩ : ∃ A c, v2 = .slice A 1 c := hv2.shape
  have bA := ba w2 (.cells #[.int .i64 300, .slice A2 1 c2] 24)
  replace K := Lib.hid (And.intro (K.out.1.later (bt b2 bA)) (And.intro (bt K.out.2.1 (bt b2 bA)) (And.intro (K.out.2.2.1.later (bt b2 bA)) (And.intro (K.out.2.2.2.later (bt b2 bA)) (And.intro (Box2.new w2 (.int .i64 300) (.slice A2 1 c2) 24) (hv2.vals.later bA))))))
  clear b2 bA hv2
  go_wp2_with fail
  go_at_call 10
  ((with_reducible refine (EGet_no _ _ (by decide) xg2).mono ?_); rintro e w3 ⟨rfl, b3⟩)
  have bB := bt b3 (ba w3 (.cells #[.int .i64 0, .slice none 0 0] 24))
  have k0 := K.out; replace K := Lib.hid (And.intro (k0.1.later bB) (And.intro (bt k0.2.1 bB) (And.intro (k0.2.2.1.later bB) (And.intro (k0.2.2.2.1.later bB) (And.intro (k0.2.2.2.2.1.later bB) (k0.2.2.2.2.2.later bB)))))); clear k0
  clear b3 bB
  obtain ⟨⟨⟨m0, m1, m2⟩, ⟨e0, e1⟩, ⟨s0, s1⟩, -, -⟩, -, ⟨x0, x1, x2⟩, -, ⟨f0, f1⟩, -⟩ := K.out
  go_wp2_with (first
    | (go_at_call 6; ((with_reducible refine (cPutItem _).mono ?_); rintro e w9 ⟨rfl, b9⟩; have k0 := K.out; replace K := Lib.hid (And.intro (k0.1.later b9) (And.intro (bt k0.2.1 b9) (And.intro (k0.2.2.1.later b9) (And.intro (k0.2.2.2.1.later b9) (And.intro (k0.2.2.2.2.1.later b9) (k0.2.2.2.2.2.later b9)))))); clear k0; clear b9; obtain ⟨⟨⟨m0, m1, m2⟩, ⟨e0, e1⟩, ⟨s0, s1⟩, -, -⟩, -, ⟨x0, x1, x2⟩, -, ⟨f0, f1⟩, -⟩ := K.out))
    | (go_at_call 17; ((with_reducible refine (cSameItem _ _ K.out.2.2.2.1).mono ?_); rintro e w9 ⟨rfl, b9⟩; have k0 := K.out; replace K := Lib.hid (And.intro (k0.1.later b9) (And.intro (bt k0.2.1 b9) (And.intro (k0.2.2.1.later b9) (And.intro (k0.2.2.2.1.later b9) (And.intro (k0.2.2.2.2.1.later b9) (k0.2.2.2.2.2.later b9)))))); clear k0; clear b9; obtain ⟨⟨⟨m0, m1, m2⟩, ⟨e0, e1⟩, ⟨s0, s1⟩, -, -⟩, -, ⟨x0, x1, x2⟩, -, ⟨f0, f1⟩, -⟩ := K.out))
    | (go_at_call 7; ((with_reducible refine (cPut _ _ (exv K.out.1)).mono ?_); rintro e w9 ⟨rfl, b9⟩; have k0 := K.out; replace K := Lib.hid (And.intro (k0.1.later b9) (And.intro (bt k0.2.1 b9) (And.intro (k0.2.2.1.later b9) (And.intro (k0.2.2.2.1.later b9) (And.intro (k0.2.2.2.2.1.later b9) (k0.2.2.2.2.2.later b9)))))); clear k0; clear b9; obtain ⟨⟨⟨m0, m1, m2⟩, ⟨e0, e1⟩, ⟨s0, s1⟩, -, -⟩, -, ⟨x0, x1, x2⟩, -, ⟨f0, f1⟩, -⟩ := K.out))
    | (go_at_call 15; ((with_reducible refine (cSame _ _ _ K.out.2.2.2.2.2 (exv K.out.1)).mono ?_); rintro e w9 ⟨rfl, b9⟩; have k0 := K.out; replace K := Lib.hid (And.intro (k0.1.later b9) (And.intro (bt k0.2.1 b9) (And.intro (k0.2.2.1.later b9) (And.intro (k0.2.2.2.1.later b9) (And.intro (k0.2.2.2.2.1.later b9) (k0.2.2.2.2.2.later b9)))))); clear k0; clear b9; obtain ⟨⟨⟨m0, m1, m2⟩, ⟨e0, e1⟩, ⟨s0, s1⟩, -, -⟩, -, ⟨x0, x1, x2⟩, -, ⟨f0, f1⟩, -⟩ := K.out))
    | (go_at_call 13; ((with_reducible refine (cFits1 _ _ _ (exf K.out.1) (exv K.out.1)).mono ?_); rintro e w9 ⟨rfl, b9⟩; have k0 := K.out; replace K := Lib.hid (And.intro (k0.1.later b9) (And.intro (bt k0.2.1 b9) (And.intro (k0.2.2.1.later b9) (And.intro (k0.2.2.2.1.later b9) (And.intro (k0.2.2.2.2.1.later b9) (k0.2.2.2.2.2.later b9)))))); clear k0; clear b9; obtain ⟨⟨⟨m0, m1, m2⟩, ⟨e0, e1⟩, ⟨s0, s1⟩, -, -⟩, -, ⟨x0, x1, x2⟩, -, ⟨f0, f1⟩, -⟩ := K.out))
    | (go_at_call 13; ((with_reducible refine (cFits2 _ _ (exf K.out.1)).mono ?_); rintro e w9 ⟨rfl, b9⟩; have k0 := K.out; replace K := Lib.hid (And.intro (k0.1.later b9) (And.intro (bt k0.2.1 b9) (And.intro (k0.2.2.1.later b9) (And.intro (k0.2.2.2.1.later b9) (And.intro (k0.2.2.2.2.1.later b9) (k0.2.2.2.2.2.later b9)))))); clear k0; clear b9; obtain ⟨⟨⟨m0, m1, m2⟩, ⟨e0, e1⟩, ⟨s0, s1⟩, -, -⟩, -, ⟨x0, x1, x2⟩, -, ⟨f0, f1⟩, -⟩ := K.out))
    | (go_at_call 22; ((with_reducible refine (cRight1 _).mono ?_); rintro e w9 ⟨rfl, b9⟩; have k0 := K.out; replace K := Lib.hid (And.intro (k0.1.later b9) (And.intro (bt k0.2.1 b9) (And.intro (k0.2.2.1.later b9) (And.intro (k0.2.2.2.1.later b9) (And.intro (k0.2.2.2.2.1.later b9) (k0.2.2.2.2.2.later b9)))))); clear k0; clear b9; obtain ⟨⟨⟨m0, m1, m2⟩, ⟨e0, e1⟩, ⟨s0, s1⟩, -, -⟩, -, ⟨x0, x1, x2⟩, -, ⟨f0, f1⟩, -⟩ := K.out))
    | (go_at_call 22; ((with_reducible refine (cRight2 _ _ (exv K.out.1)).mono ?_); rintro e w9 ⟨rfl, b9⟩; have k0 := K.out; replace K := Lib.hid (And.intro (k0.1.later b9) (And.intro (bt k0.2.1 b9) (And.intro (k0.2.2.1.later b9) (And.intro (k0.2.2.2.1.later b9) (And.intro (k0.2.2.2.2.1.later b9) (k0.2.2.2.2.2.later b9)))))); clear k0; clear b9; obtain ⟨⟨⟨m0, m1, m2⟩, ⟨e0, e1⟩, ⟨s0, s1⟩, -, -⟩, -, ⟨x0, x1, x2⟩, -, ⟨f0, f1⟩, -⟩ := K.out))
    | (go_at_call 20; ((with_reducible refine (cPlain1 _ _ (exv K.out.1)).mono ?_); rintro e w9 ⟨rfl, b9⟩; have k0 := K.out; replace K := Lib.hid (And.intro (k0.1.later b9) (And.intro (bt k0.2.1 b9) (And.intro (k0.2.2.1.later b9) (And.intro (k0.2.2.2.1.later b9) (And.intro (k0.2.2.2.2.1.later b9) (k0.2.2.2.2.2.later b9)))))); clear k0; clear b9; obtain ⟨⟨⟨m0, m1, m2⟩, ⟨e0, e1⟩, ⟨s0, s1⟩, -, -⟩, -, ⟨x0, x1, x2⟩, -, ⟨f0, f1⟩, -⟩ := K.out))
    | (go_at_call 20; ((with_reducible refine (cPlain2 _).mono ?_); rintro e w9 ⟨rfl, b9⟩; have k0 := K.out; replace K := Lib.hid (And.intro (k0.1.later b9) (And.intro (bt k0.2.1 b9) (And.intro (k0.2.2.1.later b9) (And.intro (k0.2.2.2.1.later b9) (And.intro (k0.2.2.2.2.1.later b9) (k0.2.2.2.2.2.later b9)))))); clear k0; clear b9; obtain ⟨⟨⟨m0, m1, m2⟩, ⟨e0, e1⟩, ⟨s0, s1⟩, -, -⟩, -, ⟨x0, x1, x2⟩, -, ⟨f0, f1⟩, -⟩ := K.out)))
  go_ret
  exact ⟨rfl, K.out.2.1⟩
end Go.Proofs.Ytbmkbpehkpdcmaa
