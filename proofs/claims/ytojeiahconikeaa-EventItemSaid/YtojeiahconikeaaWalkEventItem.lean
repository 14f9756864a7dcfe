/- EventItem: the walk. -/
import Derived.Test.YtojeiahconikeaaEx04
import Derived.Test.YtojeiahconikeaaEventL
namespace Go.Proofs.Ytojeiahconikeaa
open Go.ChangeShapes Go.WideShapes Go.ChangeAt Go.RowKit
open Ev (V3 rightV OkV)
set_option linter.unusedVariables false
set_option linter.unusedSimpArgs false

theorem ok_size {l : List V3} (h : ∀ x ∈ l, OkV x) : ∀ x ∈ l, x.2.2.size ≤ maxLen := fun x hx => by have := (h x hx).size; unfold maxLen; omega
theorem put_nine {u : Nat} (h : u < 9223372036854775808) : (Num.put u).length ≤ 9 := by
  have h1 := Num.put_mono 9223372036854775807 u 9223372036854775807 (Nat.le_refl _) (by omega)
  have h2 : (Num.put 9223372036854775807).length = 9 := by decide +kernel
  omega
/-- What the law's two items are, and their bytes. -/
theorem item_pack (T : Int) (V : List V3) (T2 : Int) (hp : Ev.plain T V = true) (ho : ∀ x ∈ V, OkV x) (h0 : 0 ≤ T2) (h1 : T2 ≤ 2305843009213693952) :
    ∃ X Y P : ByteArray, (∀ w u, ValsAt w u V → Calls Try.prog 10 #[item false T u] w fun e w' => e = .returned (.string X) ∧ Below w.heap.size w w') ∧
      (∀ w, Calls Try.prog 10 #[item true T2 (.slice none 0 0)] w fun e w' => e = .returned (.string Y) ∧ Below w.heap.size w w') ∧
      (∀ w u, ValsAt w u V → Calls Try.prog 11 #[ev T u] w fun e w' => e = .returned (.string P) ∧ Below w.heap.size w w') ∧
      Ev.getI X = some (false, T, V) ∧ Ev.getI Y = some (true, T2, []) ∧ X.size = P.size + 1 ∧ Y.size ≤ 10 ∧ P.size ≤ 500 ∧ ¬ X.toList = Y.toList := by
  have hr : Ev.rightI false T V = true := by unfold Ev.rightI; simp [hp]
  have hp2 : Ev.plain T2 [] = true := Ev.plain_mk h0 h1 (by simp) (by simp)
  have hr2 : Ev.rightI true T2 [] = true := by unfold Ev.rightI; simp [hp2]
  refine ⟨⟨(Ev.putI false T V).toArray⟩, ⟨(Ev.putI true T2 []).toArray⟩, ⟨(Ev.put T V).toArray⟩, ?_, ?_, ?_, ?_, ?_, ?_, ?_, ?_, ?_⟩
  · exact fun w u hu => PutItem_event T u V w hu ho hp
  · exact fun w => PutItem_mark T2 _ [] w (ValsAt.nil w) xnil hr2
  · exact fun w u hu => Put_yes T u V w hu ho hp
  · exact Ev.getI_put hr ho rfl
  · exact Ev.getI_put hr2 (by simp) rfl
  · show (Ev.putI false T V).length = (Ev.put T V).length + 1
    rw [Ev.putI_event hp]; simp
  · show (Ev.putI true T2 []).length ≤ 10
    rw [Ev.putI_mark hr2]
    have := put_nine (u := T2.toNat) (by omega)
    simp; omega
  · exact Ev.put_len hp ho
  · rw [Lib.toList_data, Lib.toList_data]
    show ¬ Ev.putI false T V = Ev.putI true T2 []
    rw [Ev.putI_event hp, Ev.putI_mark hr2]; simp

set_option maxHeartbeats 1000000 in
set_option maxRecDepth 20000 in
theorem walk_EventItem (a : Int) (v : Value) (l : List UInt8) (s : ByteArray) (b : Int) (w : World) (a0 : 0 ≤ a) (a1 : a ≤ 18446744073709551615) (hv : BytesAt w v l) (hl : l.length ≤ 140737488351232) (hs : s.size ≤ 140737488351232) (b0 : 0 ≤ b) (b1 : b ≤ 18446744073709551615) :
    Calls Try.prog 6 #[.int .u64 a, v, .string s, .int .u64 b] w fun e w' => e = .returned (.bool true) ∧ Below w.heap.size w w' := by
  have hp := plain_plain a a0 l s
  have ho := plainV_ok l s
  have cpl := fun (w0 : World) (hb : Below w.heap.size w w0) => plain_any a v l s w0 a0 a1 (hv.later hb) hl (by unfold maxLen; omega)
  have hT2 : b % 2305843009213693953 = plainT b := rfl
  have h20 : 0 ≤ plainT b ∧ plainT b ≤ 2305843009213693952 := by unfold plainT; omega
  generalize plainT a = T at *
  generalize plainV l s = V at *
  generalize plainT b = T2 at *
  obtain ⟨X, Y, P, cX, cY, cP, gX, gY, sX, sY, sP, ne⟩ := item_pack T V T2 hp ho h20.1 h20.2
  have neb : (X.toList == Y.toList) = false := by simpa using ne
  have neb' : (X.toList != Y.toList) = true := by simpa using ne
  have hr1 : Ev.rightI false T V = true := by unfold Ev.rightI; simp [hp]
  have hr2 : Ev.rightI true T2 [] = true := by unfold Ev.rightI; simp [Ev.plain_mk h20.1 h20.2 (l := []) (by simp) (by simp)]
  have cR1 : ∀ w u, ValsAt w u V → Calls Try.prog 26 #[item false T u] w fun e w' => e = .returned (.bool true) ∧ Below w.heap.size w w' := fun w u hu => (Right_i false T u V w hu (ok_size ho)).mono fun _ _ ⟨he, hw⟩ => ⟨by rw [he, hr1], hw⟩
  have cR2 : ∀ w, Calls Try.prog 26 #[item true T2 (.slice none 0 0)] w fun e w' => e = .returned (.bool true) ∧ Below w.heap.size w w' := fun w => (Right_i true T2 _ [] w (ValsAt.nil w) xnil).mono fun _ _ ⟨he, hw⟩ => ⟨by rw [he, hr2], hw⟩
  have cS1 : ∀ w u u', ValsAt w u V → ValsAt w u' V → Calls Try.prog 21 #[item false T u, item false T u'] w fun e w' => e = .returned (.bool true) ∧ Below w.heap.size w w' := fun w u u' h h' => (SameItem_any false T u V false T u' V w h h').mono fun _ _ ⟨he, hw⟩ => ⟨by rw [he]; simp, hw⟩
  have cS2 : ∀ w u, ValsAt w u [] → Calls Try.prog 21 #[item true T2 u, item true T2 (.slice none 0 0)] w fun e w' => e = .returned (.bool true) ∧ Below w.heap.size w w' := fun w u h => (SameItem_any true T2 u [] true T2 _ [] w h (ValsAt.nil w)).mono fun _ _ ⟨he, hw⟩ => ⟨by rw [he]; simp, hw⟩
  have cS3 : ∀ w u, ValsAt w u V → Calls Try.prog 21 #[item false T u, item true T2 (.slice none 0 0)] w fun e w' => e = .returned (.bool false) ∧ Below w.heap.size w w' := fun w u h => (SameItem_any false T u V true T2 _ [] w h (ValsAt.nil w)).mono fun _ _ ⟨he, hw⟩ => ⟨by rw [he]; simp, hw⟩
  have hXm : X.size ≤ maxLen := by unfold maxLen; omega
  have hYm : Y.size ≤ maxLen := by unfold maxLen; omega
  have C := Lib.hid (And.intro cX (And.intro cY (And.intro cP (And.intro gX (And.intro gY (And.intro cR1 (And.intro cR2 (And.intro cS1 (And.intro cS2 (And.intro cS3 (And.intro cpl hT2)))))))))))
  have HS := Lib.hid (And.intro sX ne)
  have sXi : (X.size : Int) = 1 + (P.size : Int) := by omega
  have sXb : ((X.size : Int) == 1 + (P.size : Int)) = true := by simpa using sXi
  have HSX := Lib.hid sXi
  clear cX cY cP gX gY cR1 cR2 cS1 cS2 cS3 cpl hv hp ho hr1 hr2 sXi sX ne
  go_enter Try.func6, Try.ntmps6
  go_wp2_with fail
  go_at_call 8
  ((with_reducible refine (examples_any _).mono ?_); rintro e w1 ⟨rfl, b1'⟩)
  go_wp2_with fail
  go_at_call 9
  ((with_reducible refine (C.out.2.2.2.2.2.2.2.2.2.2.1 _ b1').mono ?_); rintro e w2 ⟨u, ⟨rfl, hu⟩, b2'⟩)
  obtain ⟨A1, c1, rfl⟩ := hu.shape
  have by2 := Box3.new (w2.alloc (.cells #[.bool false, .int .i64 T, .slice A1 V.length c1] 26)) (.bool true) (.int .i64 T2) (.slice none 0 0) 26
  rw [World.size_alloc] at by2
  have K := Lib.hid (And.intro ((Box3.new w2 (.bool false) (.int .i64 T) (.slice A1 V.length c1) 26).later (ba _ (.cells #[.bool true, .int .i64 T2, .slice none 0 0] 26))) (And.intro ((hu.vals.later (ba w2 (.cells #[.bool false, .int .i64 T, .slice A1 V.length c1] 26))).later (ba _ (.cells #[.bool true, .int .i64 T2, .slice none 0 0] 26))) (And.intro (by2) (bt (bt b1' b2') (bt (ba w2 (.cells #[.bool false, .int .i64 T, .slice A1 V.length c1] 26)) (ba _ (.cells #[.bool true, .int .i64 T2, .slice none 0 0] 26)))))))
  clear b1' b2' hu by2
  obtain ⟨⟨x0, x1, x2⟩, -, ⟨y0, y1, y2⟩, -⟩ := K.out
  go_wp2_with fail
  go_at_call 10
  ((with_reducible refine (C.out.1 _ _ K.out.2.1).mono ?_); rintro e w3 ⟨rfl, b9⟩)
  have k0 := K.out; replace K := Lib.hid (And.intro ((k0.1).later (b9)) (And.intro ((k0.2.1).later (b9)) (And.intro ((k0.2.2.1).later (b9)) (bt (k0.2.2.2) (b9))))); clear k0
  clear b9 x0 x1 x2 y0 y1 y2
  obtain ⟨⟨x0, x1, x2⟩, -, ⟨y0, y1, y2⟩, -⟩ := K.out
  go_wp2_with fail
  go_at_call 10
  ((with_reducible refine (C.out.2.1 _).mono ?_); rintro e w4 ⟨rfl, b9⟩)
  have k0 := K.out; replace K := Lib.hid (And.intro ((k0.1).later (b9)) (And.intro ((k0.2.1).later (b9)) (And.intro ((k0.2.2.1).later (b9)) (bt (k0.2.2.2) (b9))))); clear k0
  clear b9 x0 x1 x2 y0 y1 y2
  go_wp2_with fail
  go_at_call 12
  ((with_reducible refine (GetItem_yes _ _ hXm _ _ _ C.out.2.2.2.1).mono ?_); rintro e w5 ⟨v5, ⟨rfl, hv5⟩, b9⟩)
  obtain ⟨A5, c5, rfl⟩ := hv5.shape
  have bA := bt b9 (ba w5 (.cells #[.bool false, .int .i64 T, .slice A5 V.length c5] 26))
  have k0 := K.out; replace K := Lib.hid (And.intro ((k0.1).later (bA)) (And.intro ((k0.2.1).later (bA)) (And.intro ((k0.2.2.1).later (bA)) (And.intro (bt (k0.2.2.2) (bA)) (And.intro (Box3.new w5 (.bool false) (.int .i64 T) (.slice A5 V.length c5) 26) (hv5.vals.later (ba w5 (.cells #[.bool false, .int .i64 T, .slice A5 V.length c5] 26)))))))); clear k0
  clear b9 bA hv5
  go_wp2_with fail
  go_at_call 12
  ((with_reducible refine (GetItem_yes _ _ hYm _ _ _ C.out.2.2.2.2.1).mono ?_); rintro e w6 ⟨v6, ⟨rfl, hv6⟩, b9⟩)
  obtain ⟨A6, c6, rfl⟩ : ∃ A c, v6 = .slice A 0 c := hv6.shape
  have bA := bt b9 (ba w6 (.cells #[.bool true, .int .i64 T2, .slice A6 0 c6] 26))
  have k0 := K.out; replace K := Lib.hid (And.intro ((k0.1).later (bA)) (And.intro ((k0.2.1).later (bA)) (And.intro ((k0.2.2.1).later (bA)) (And.intro (bt (k0.2.2.2.1) (bA)) (And.intro ((k0.2.2.2.2.1).later (bA)) (And.intro ((k0.2.2.2.2.2).later (bA)) (And.intro (Box3.new w6 (.bool true) (.int .i64 T2) (.slice A6 0 c6) 26) (hv6.vals.later (ba w6 (.cells #[.bool true, .int .i64 T2, .slice A6 0 c6] 26)))))))))); clear k0
  clear b9 bA hv6
  obtain ⟨⟨x0, x1, x2⟩, -, ⟨y0, y1, y2⟩, -, ⟨g0, g1, g2⟩, -, ⟨h0, h1, h2⟩, -⟩ := K.out
  go_wp2_with (first
    | (go_at_call 26; ((with_reducible refine (C.out.2.2.2.2.2.1 _ _ K.out.2.1).mono ?_); rintro e w9 ⟨rfl, b9⟩; have k0 := K.out; replace K := Lib.hid (And.intro ((k0.1).later (b9)) (And.intro ((k0.2.1).later (b9)) (And.intro ((k0.2.2.1).later (b9)) (And.intro (bt (k0.2.2.2.1) (b9)) (And.intro ((k0.2.2.2.2.1).later (b9)) (And.intro ((k0.2.2.2.2.2.1).later (b9)) (And.intro ((k0.2.2.2.2.2.2.1).later (b9)) ((k0.2.2.2.2.2.2.2).later (b9))))))))); clear k0; clear b9; obtain ⟨⟨x0, x1, x2⟩, -, ⟨y0, y1, y2⟩, -, ⟨g0, g1, g2⟩, -, ⟨h0, h1, h2⟩, -⟩ := K.out))
    | (go_at_call 26; ((with_reducible refine (C.out.2.2.2.2.2.2.1 _).mono ?_); rintro e w9 ⟨rfl, b9⟩; have k0 := K.out; replace K := Lib.hid (And.intro ((k0.1).later (b9)) (And.intro ((k0.2.1).later (b9)) (And.intro ((k0.2.2.1).later (b9)) (And.intro (bt (k0.2.2.2.1) (b9)) (And.intro ((k0.2.2.2.2.1).later (b9)) (And.intro ((k0.2.2.2.2.2.1).later (b9)) (And.intro ((k0.2.2.2.2.2.2.1).later (b9)) ((k0.2.2.2.2.2.2.2).later (b9))))))))); clear k0; clear b9; obtain ⟨⟨x0, x1, x2⟩, -, ⟨y0, y1, y2⟩, -, ⟨g0, g1, g2⟩, -, ⟨h0, h1, h2⟩, -⟩ := K.out))
    | (go_at_call 21; ((with_reducible refine (C.out.2.2.2.2.2.2.2.1 _ _ _ K.out.2.2.2.2.2.1 K.out.2.1).mono ?_); rintro e w9 ⟨rfl, b9⟩; have k0 := K.out; replace K := Lib.hid (And.intro ((k0.1).later (b9)) (And.intro ((k0.2.1).later (b9)) (And.intro ((k0.2.2.1).later (b9)) (And.intro (bt (k0.2.2.2.1) (b9)) (And.intro ((k0.2.2.2.2.1).later (b9)) (And.intro ((k0.2.2.2.2.2.1).later (b9)) (And.intro ((k0.2.2.2.2.2.2.1).later (b9)) ((k0.2.2.2.2.2.2.2).later (b9))))))))); clear k0; clear b9; obtain ⟨⟨x0, x1, x2⟩, -, ⟨y0, y1, y2⟩, -, ⟨g0, g1, g2⟩, -, ⟨h0, h1, h2⟩, -⟩ := K.out))
    | (go_at_call 21; ((with_reducible refine (C.out.2.2.2.2.2.2.2.2.1 _ _ K.out.2.2.2.2.2.2.2).mono ?_); rintro e w9 ⟨rfl, b9⟩; have k0 := K.out; replace K := Lib.hid (And.intro ((k0.1).later (b9)) (And.intro ((k0.2.1).later (b9)) (And.intro ((k0.2.2.1).later (b9)) (And.intro (bt (k0.2.2.2.1) (b9)) (And.intro ((k0.2.2.2.2.1).later (b9)) (And.intro ((k0.2.2.2.2.2.1).later (b9)) (And.intro ((k0.2.2.2.2.2.2.1).later (b9)) ((k0.2.2.2.2.2.2.2).later (b9))))))))); clear k0; clear b9; obtain ⟨⟨x0, x1, x2⟩, -, ⟨y0, y1, y2⟩, -, ⟨g0, g1, g2⟩, -, ⟨h0, h1, h2⟩, -⟩ := K.out))
    | (go_at_call 21; ((with_reducible refine (C.out.2.2.2.2.2.2.2.2.2.1 _ _ K.out.2.1).mono ?_); rintro e w9 ⟨rfl, b9⟩; have k0 := K.out; replace K := Lib.hid (And.intro ((k0.1).later (b9)) (And.intro ((k0.2.1).later (b9)) (And.intro ((k0.2.2.1).later (b9)) (And.intro (bt (k0.2.2.2.1) (b9)) (And.intro ((k0.2.2.2.2.1).later (b9)) (And.intro ((k0.2.2.2.2.2.1).later (b9)) (And.intro ((k0.2.2.2.2.2.2.1).later (b9)) ((k0.2.2.2.2.2.2.2).later (b9))))))))); clear k0; clear b9; obtain ⟨⟨x0, x1, x2⟩, -, ⟨y0, y1, y2⟩, -, ⟨g0, g1, g2⟩, -, ⟨h0, h1, h2⟩, -⟩ := K.out))
    | (go_at_call 11; ((with_reducible refine (C.out.2.2.1 _ _ K.out.2.1).mono ?_); rintro e w9 ⟨rfl, b9⟩; have k0 := K.out; replace K := Lib.hid (And.intro ((k0.1).later (b9)) (And.intro ((k0.2.1).later (b9)) (And.intro ((k0.2.2.1).later (b9)) (And.intro (bt (k0.2.2.2.1) (b9)) (And.intro ((k0.2.2.2.2.1).later (b9)) (And.intro ((k0.2.2.2.2.2.1).later (b9)) (And.intro ((k0.2.2.2.2.2.2.1).later (b9)) ((k0.2.2.2.2.2.2.2).later (b9))))))))); clear k0; clear b9; obtain ⟨⟨x0, x1, x2⟩, -, ⟨y0, y1, y2⟩, -, ⟨g0, g1, g2⟩, -, ⟨h0, h1, h2⟩, -⟩ := K.out)))
  go_ret
  exact ⟨rfl, K.out.2.2.2.1⟩
end Go.Proofs.Ytojeiahconikeaa
