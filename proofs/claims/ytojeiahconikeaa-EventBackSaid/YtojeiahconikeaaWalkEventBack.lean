/- EventBack: the walk. -/
import Derived.Test.YtojeiahconikeaaWalkEventItem
import Derived.Lib.QuietBelow
namespace Go.Proofs.Ytojeiahconikeaa
open Go.ChangeShapes Go.WideShapes Go.ChangeAt Go.RowKit
open Ev (V3 rightV OkV)
set_option linter.unusedVariables false
set_option linter.unusedSimpArgs false

theorem ev_pack (T : Int) (V : List V3) (hp : Ev.plain T V = true) (ho : ∀ x ∈ V, OkV x) :
    ∃ X : ByteArray, X.data.toList = Ev.put T V ∧ (∀ w u, ValsAt w u V → Calls Try.prog 11 #[ev T u] w fun e w' => e = .returned (.string X) ∧ Below w.heap.size w w') ∧ Ev.get X = some (T, V) ∧ X.size ≤ 500 ∧
      (∀ w u, ValsAt w u V → Calls Try.prog 24 #[ev T u] w fun e w' => e = .returned (.bool true) ∧ Below w.heap.size w w') ∧
      (∀ w u u', ValsAt w u V → ValsAt w u' V → Calls Try.prog 19 #[ev T u, ev T u'] w fun e w' => e = .returned (.bool true) ∧ Below w.heap.size w w') := by
  refine ⟨⟨(Ev.put T V).toArray⟩, rfl, fun w u hu => Put_yes T u V w hu ho hp, Ev.get_put hp ho rfl, Ev.put_len hp ho, fun w u hu => ?_, fun w u u' h h' => ?_⟩
  · exact (Plain_any T u V w hu (ok_size ho)).mono fun _ _ ⟨he, hw⟩ => ⟨by rw [he, hp], hw⟩
  · exact (Same_any T u V T u' V w h h').mono fun _ _ ⟨he, hw⟩ => ⟨by rw [he]; simp, hw⟩

set_option maxHeartbeats 2000000 in
set_option maxRecDepth 20000 in
theorem walk_EventBack (a : Int) (v : Value) (l : List UInt8) (b : Int) (v2 : Value) (m : List UInt8) (s : ByteArray) (same : Bool) (w : World) (a0 : 0 ≤ a) (a1 : a ≤ 18446744073709551615) (hv : BytesAt w v l) (hl : l.length ≤ 140737488351232) (b0 : 0 ≤ b) (b1 : b ≤ 18446744073709551615) (hv2 : BytesAt w v2 m) (hm : m.length ≤ 140737488351232) (hs : s.size ≤ 140737488351232) :
    Calls Try.prog 4 #[.int .u64 a, v, .int .u64 b, v2, .string s, .bool same] w fun e w' => e = .returned (.bool true) ∧ Below w.heap.size w w' := by
  have hp := plain_plain a a0 l s
  have ho := plainV_ok l s
  have hp2 := plain_plain b b0 m s
  have ho2 := plainV_ok m s
  have cpl := fun (w0 : World) (hb : Below w.heap.size w w0) => plain_any a v l s w0 a0 a1 (hv.later hb) hl (by unfold maxLen; omega)
  have cpl2 := fun (w0 : World) (hb : Below w.heap.size w w0) => plain_any b v2 m s w0 b0 b1 (hv2.later hb) hm (by unfold maxLen; omega)
  generalize plainT a = T at *
  generalize plainV l s = V at *
  generalize plainT b = T2 at *
  generalize plainV m s = V2 at *
  obtain ⟨X, hX, cX, gX, sX, cPl, cS⟩ := ev_pack T V hp ho
  obtain ⟨Y, hY, cY, gY, sY, -, -⟩ := ev_pack T2 V2 hp2 ho2
  have cS2 := fun w0 u u' (h : ValsAt w0 u V) (h' : ValsAt w0 u' V2) => Same_any T u V T2 u' V2 w0 h h'
  have hway : (T = T2 ∧ V = V2 ∧ X = Y) ∨ (¬ X.toList = Y.toList ∧ (decide (T = T2) && decide (V = V2)) = false) := by
    by_cases h : T = T2 ∧ V = V2
    · obtain ⟨rfl, rfl⟩ := h
      exact Or.inl ⟨rfl, rfl, ByteArray.ext (Array.toList_inj.1 (by rw [hX, hY]))⟩
    · refine Or.inr ⟨fun h2 => h ?_, ?_⟩
      · rw [Lib.toList_data, Lib.toList_data, hX, hY] at h2
        exact Ev.put_same hp ho hp2 ho2 h2
      · rcases Classical.em (T = T2) with h1 | h1
        · rw [decide_eq_true h1, decide_eq_false (fun h2 => h ⟨h1, h2⟩)]; rfl
        · rw [decide_eq_false h1]; rfl
  have hXm : X.size ≤ maxLen := by unfold maxLen; omega
  have C := Lib.hid (And.intro cX (And.intro gX (And.intro cPl (And.intro cS (And.intro cpl cpl2)))))
  clear cX gX cPl cS cpl cpl2 hp ho hp2 ho2 hv hv2 hX hY gY
  cases same
  · rcases hway with ⟨rfl, rfl, rfl⟩ | ⟨hne, hq⟩
    · have C2 := Lib.hid (And.intro cY (fun w0 u u' (h : ValsAt w0 u V) (h' : ValsAt w0 u' V) => C.out.2.2.2.1 w0 u u' h h'))
      clear cY cS2
      go_enter Try.func4, Try.ntmps4
      go_wp2_with fail
      go_at_call 8
      ((with_reducible refine (examples_any _).mono ?_); rintro e w1 ⟨rfl, b1'⟩)
      go_wp2_with fail
      go_at_call 9
      ((with_reducible refine (C.out.2.2.2.2.1 _ b1').mono ?_); rintro e w2 ⟨u, ⟨rfl, hu⟩, b2'⟩)
      obtain ⟨A1, c1, rfl⟩ := hu.shape
      have K := Lib.hid (And.intro (Box2.new w2 (.int .i64 T) (.slice A1 V.length c1) 24) (And.intro (hu.vals.later (ba w2 (.cells #[.int .i64 T, .slice A1 V.length c1] 24))) (bt (bt b1' b2') (ba w2 (.cells #[.int .i64 T, .slice A1 V.length c1] 24)))))
      clear b1' b2' hu
      go_wp2_with fail
      go_at_call 9
      ((with_reducible refine (C.out.2.2.2.2.2 _ K.out.2.2).mono ?_); rintro e w3 ⟨u2, ⟨rfl, hu2⟩, b9⟩)
      obtain ⟨A2, c2, rfl⟩ := hu2.shape
      have b10 := bt b9 (ba w3 (.cells #[.int .i64 T, .slice A2 V.length c2] 24))
      have k0 := K.out; replace K := Lib.hid (And.intro ((k0.1).later (b10)) (And.intro ((k0.2.1).later (b10)) (And.intro (bt (k0.2.2) (b10)) (And.intro (Box2.new w3 (.int .i64 T) (.slice A2 V.length c2) 24) (hu2.vals.later (ba w3 (.cells #[.int .i64 T, .slice A2 V.length c2] 24))))))); clear k0
      clear b9 b10 hu2
      obtain ⟨⟨e0, e1⟩, -, -, ⟨f0, f1⟩, -⟩ := K.out
      go_wp2_with fail
      go_at_call 11
      ((with_reducible refine (C.out.1 _ _ K.out.2.1).mono ?_); rintro e w5 ⟨rfl, b9⟩)
      have k0 := K.out; replace K := Lib.hid (And.intro ((k0.1).later (b9)) (And.intro ((k0.2.1).later (b9)) (And.intro (bt (k0.2.2.1) (b9)) (And.intro ((k0.2.2.2.1).later (b9)) ((k0.2.2.2.2).later (b9)))))); clear k0
      clear b9 e0 e1 f0 f1
      go_wp2_with fail
      go_at_call 14
      ((with_reducible refine (EGet_yes _ _ hXm _ _ C.out.2.1).mono ?_); rintro e w6 ⟨v5, ⟨rfl, hv5⟩, b9⟩)
      obtain ⟨A5, c5, rfl⟩ := hv5.shape
      have b10 := bt b9 (ba w6 (.cells #[.int .i64 T, .slice A5 V.length c5] 24))
      have k0 := K.out; replace K := Lib.hid (And.intro ((k0.1).later (b10)) (And.intro ((k0.2.1).later (b10)) (And.intro (bt (k0.2.2.1) (b10)) (And.intro ((k0.2.2.2.1).later (b10)) (And.intro ((k0.2.2.2.2).later (b10)) (And.intro (Box2.new w6 (.int .i64 T) (.slice A5 V.length c5) 24) (hv5.vals.later (ba w6 (.cells #[.int .i64 T, .slice A5 V.length c5] 24))))))))); clear k0
      clear b9 b10 hv5
      go_wp2_with fail
      generalize w6.alloc (.cells #[.int .i64 T, .slice A5 V.length c5] 24) = W at *
      have R := Lib.hid (fun (d : Nat) (os : Array Obj) => And.intro ((K.out.2.1).later (below_regrown W d os)) (And.intro ((K.out.2.2.2.2.1).later (below_regrown W d os)) ((K.out.2.2.2.2.2.2).later (below_regrown W d os))))
      have p0 := fun d os => cell_regrown (K.out.1).1 d os
      have p1 := fun d os => cell_regrown (K.out.1).2 d os
      have p2 := fun d os => cell_regrown (K.out.2.2.2.1).1 d os
      have p3 := fun d os => cell_regrown (K.out.2.2.2.1).2 d os
      have p4 := fun d os => cell_regrown (K.out.2.2.2.2.2.1).1 d os
      have p5 := fun d os => cell_regrown (K.out.2.2.2.2.2.1).2 d os
      refine wp_region_quiet_below (by kernel_rfl) (by kernel_rfl) ?_
      repeat (go_big_quiet_step ((first
        | (go_at_call 24; exact Calls.regrown_of (C.out.2.2.1 _ _ (R.out _ _).1))
        | (go_at_call 11; exact Calls.regrown_of (C2.out.1 _ _ (R.out _ _).2.1))
        | (go_at_call 19; with_reducible exact Calls.regrown_of (C.out.2.2.2.1 _ _ _ (R.out _ _).2.2 (R.out _ _).1))
        | (go_at_call 19; with_reducible exact Calls.regrown_of (C2.out.2 _ _ _ (R.out _ _).1 (R.out _ _).2.1)))))
      refine wpQuiet_nil ?_
      intro wq hw'
      have bq : Below W.heap.size W wq := by obtain ⟨p, rfl⟩ := hw'; exact below_regrown _ _ _
      clear hw' R p0 p1 p2 p3 p4 p5
      go_wp2
      go_ret
      exact ⟨rfl, bt K.out.2.2.1 bq⟩
    · have hneb : (X.toList == Y.toList) = false := by simpa using hne
      have cS3 : ∀ w0 u u', ValsAt w0 u V → ValsAt w0 u' V2 → Calls Try.prog 19 #[ev T u, ev T2 u'] w0 fun e w' => e = .returned (.bool false) ∧ Below w0.heap.size w0 w' := fun w0 u u' h h' => (cS2 w0 u u' h h').mono fun _ _ ⟨he, hw⟩ => ⟨by rw [he, hq], hw⟩
      have C2 := Lib.hid (And.intro cY cS3)
      clear cY cS2 cS3 hq
      go_enter Try.func4, Try.ntmps4
      go_wp2_with fail
      go_at_call 8
      ((with_reducible refine (examples_any _).mono ?_); rintro e w1 ⟨rfl, b1'⟩)
      go_wp2_with fail
      go_at_call 9
      ((with_reducible refine (C.out.2.2.2.2.1 _ b1').mono ?_); rintro e w2 ⟨u, ⟨rfl, hu⟩, b2'⟩)
      obtain ⟨A1, c1, rfl⟩ := hu.shape
      have K := Lib.hid (And.intro (Box2.new w2 (.int .i64 T) (.slice A1 V.length c1) 24) (And.intro (hu.vals.later (ba w2 (.cells #[.int .i64 T, .slice A1 V.length c1] 24))) (bt (bt b1' b2') (ba w2 (.cells #[.int .i64 T, .slice A1 V.length c1] 24)))))
      clear b1' b2' hu
      go_wp2_with fail
      go_at_call 9
      ((with_reducible refine (C.out.2.2.2.2.2 _ K.out.2.2).mono ?_); rintro e w3 ⟨u2, ⟨rfl, hu2⟩, b9⟩)
      obtain ⟨A2, c2, rfl⟩ := hu2.shape
      have b10 := bt b9 (ba w3 (.cells #[.int .i64 T2, .slice A2 V2.length c2] 24))
      have k0 := K.out; replace K := Lib.hid (And.intro ((k0.1).later (b10)) (And.intro ((k0.2.1).later (b10)) (And.intro (bt (k0.2.2) (b10)) (And.intro (Box2.new w3 (.int .i64 T2) (.slice A2 V2.length c2) 24) (hu2.vals.later (ba w3 (.cells #[.int .i64 T2, .slice A2 V2.length c2] 24))))))); clear k0
      clear b9 b10 hu2
      obtain ⟨⟨e0, e1⟩, -, -, ⟨f0, f1⟩, -⟩ := K.out
      go_wp2_with fail
      go_at_call 11
      ((with_reducible refine (C.out.1 _ _ K.out.2.1).mono ?_); rintro e w5 ⟨rfl, b9⟩)
      have k0 := K.out; replace K := Lib.hid (And.intro ((k0.1).later (b9)) (And.intro ((k0.2.1).later (b9)) (And.intro (bt (k0.2.2.1) (b9)) (And.intro ((k0.2.2.2.1).later (b9)) ((k0.2.2.2.2).later (b9)))))); clear k0
      clear b9 e0 e1 f0 f1
      go_wp2_with fail
      go_at_call 14
      ((with_reducible refine (EGet_yes _ _ hXm _ _ C.out.2.1).mono ?_); rintro e w6 ⟨v5, ⟨rfl, hv5⟩, b9⟩)
      obtain ⟨A5, c5, rfl⟩ := hv5.shape
      have b10 := bt b9 (ba w6 (.cells #[.int .i64 T, .slice A5 V.length c5] 24))
      have k0 := K.out; replace K := Lib.hid (And.intro ((k0.1).later (b10)) (And.intro ((k0.2.1).later (b10)) (And.intro (bt (k0.2.2.1) (b10)) (And.intro ((k0.2.2.2.1).later (b10)) (And.intro ((k0.2.2.2.2).later (b10)) (And.intro (Box2.new w6 (.int .i64 T) (.slice A5 V.length c5) 24) (hv5.vals.later (ba w6 (.cells #[.int .i64 T, .slice A5 V.length c5] 24))))))))); clear k0
      clear b9 b10 hv5
      go_wp2_with fail
      generalize w6.alloc (.cells #[.int .i64 T, .slice A5 V.length c5] 24) = W at *
      have R := Lib.hid (fun (d : Nat) (os : Array Obj) => And.intro ((K.out.2.1).later (below_regrown W d os)) (And.intro ((K.out.2.2.2.2.1).later (below_regrown W d os)) ((K.out.2.2.2.2.2.2).later (below_regrown W d os))))
      have p0 := fun d os => cell_regrown (K.out.1).1 d os
      have p1 := fun d os => cell_regrown (K.out.1).2 d os
      have p2 := fun d os => cell_regrown (K.out.2.2.2.1).1 d os
      have p3 := fun d os => cell_regrown (K.out.2.2.2.1).2 d os
      have p4 := fun d os => cell_regrown (K.out.2.2.2.2.2.1).1 d os
      have p5 := fun d os => cell_regrown (K.out.2.2.2.2.2.1).2 d os
      refine wp_region_quiet_below (by kernel_rfl) (by kernel_rfl) ?_
      repeat (go_big_quiet_step ((first
        | (go_at_call 24; exact Calls.regrown_of (C.out.2.2.1 _ _ (R.out _ _).1))
        | (go_at_call 11; exact Calls.regrown_of (C2.out.1 _ _ (R.out _ _).2.1))
        | (go_at_call 19; with_reducible exact Calls.regrown_of (C.out.2.2.2.1 _ _ _ (R.out _ _).2.2 (R.out _ _).1))
        | (go_at_call 19; with_reducible exact Calls.regrown_of (C2.out.2 _ _ _ (R.out _ _).1 (R.out _ _).2.1)))))
      refine wpQuiet_nil ?_
      intro wq hw'
      have bq : Below W.heap.size W wq := by obtain ⟨p, rfl⟩ := hw'; exact below_regrown _ _ _
      clear hw' R p0 p1 p2 p3 p4 p5
      go_wp2
      go_ret
      exact ⟨rfl, bt K.out.2.2.1 bq⟩
  · have C2 := Lib.hid (And.intro C.out.1 (fun w0 u u' (h : ValsAt w0 u V) (h' : ValsAt w0 u' V) => C.out.2.2.2.1 w0 u u' h h'))
    clear cY cS2 hway
    go_enter Try.func4, Try.ntmps4
    go_wp2_with fail
    go_at_call 8
    ((with_reducible refine (examples_any _).mono ?_); rintro e w1 ⟨rfl, b1'⟩)
    go_wp2_with fail
    go_at_call 9
    ((with_reducible refine (C.out.2.2.2.2.1 _ b1').mono ?_); rintro e w2 ⟨u, ⟨rfl, hu⟩, b2'⟩)
    obtain ⟨A1, c1, rfl⟩ := hu.shape
    have K := Lib.hid (And.intro (Box2.new w2 (.int .i64 T) (.slice A1 V.length c1) 24) (And.intro (hu.vals.later (ba w2 (.cells #[.int .i64 T, .slice A1 V.length c1] 24))) (bt (bt b1' b2') (ba w2 (.cells #[.int .i64 T, .slice A1 V.length c1] 24)))))
    clear b1' b2' hu
    go_wp2_with fail
    go_at_call 9
    ((with_reducible refine (C.out.2.2.2.2.2 _ K.out.2.2).mono ?_); rintro e w3 ⟨u2, ⟨rfl, hu2⟩, b9⟩)
    obtain ⟨A2, c2, rfl⟩ := hu2.shape
    have b10 := bt b9 (ba w3 (.cells #[.int .i64 T2, .slice A2 V2.length c2] 24))
    go_wp2_with fail
    go_at_call 9
    ((with_reducible refine (C.out.2.2.2.2.1 _ (bt K.out.2.2 b10)).mono ?_); rintro e w4 ⟨u3, ⟨rfl, hu3⟩, b11⟩)
    obtain ⟨A3, c3, rfl⟩ := hu3.shape
    have hn23 : ¬ (w2.heap.size = w3.heap.size) := by have := b9.size; simp only [World.size_alloc] at this; omega
    have FB := (Blk.new w3 24 #[.int .i64 T2, .slice A2 V2.length c2]).later b11
    obtain ⟨q0, q1⟩ := FB.two
    have q2 := FB.frozen
    have bW := below_put2 (bt b10 b11) (g := w3.heap.size) b9.size (.int .i64 T) (.slice A3 V.length c3)
    have hu4 := hu3.put2 (g := w3.heap.size) (by simp only [World.size_alloc]; omega) (.int .i64 T) (.slice A3 V.length c3)
    have FB2 : Box2 ((w4.setCell ⟨w3.heap.size, 0, none⟩ (.int .i64 T)).setCell ⟨w3.heap.size, 1, none⟩ (.slice A3 V.length c3)) w3.heap.size (.int .i64 T) (.slice A3 V.length c3) := (FB.put2 (.int .i64 T) (.slice A3 V.length c3)).two
    have k0 := K.out; replace K := Lib.hid (And.intro ((k0.1).later (bW)) (And.intro ((k0.2.1).later (bW)) (And.intro (bt (k0.2.2) (bW)) (And.intro (FB2) (hu4.vals))))); clear k0
    clear b9 b10 b11 bW hu3 hu4 FB FB2 hu2
    obtain ⟨⟨e0, e1⟩, -, -, ⟨f0, f1⟩, -⟩ := K.out
    go_wp2_with fail
    go_at_call 11
    ((with_reducible refine (C.out.1 _ _ K.out.2.1).mono ?_); rintro e w5 ⟨rfl, b9⟩)
    have k0 := K.out; replace K := Lib.hid (And.intro ((k0.1).later (b9)) (And.intro ((k0.2.1).later (b9)) (And.intro (bt (k0.2.2.1) (b9)) (And.intro ((k0.2.2.2.1).later (b9)) ((k0.2.2.2.2).later (b9)))))); clear k0
    clear b9 e0 e1 f0 f1
    go_wp2_with fail
    go_at_call 14
    ((with_reducible refine (EGet_yes _ _ hXm _ _ C.out.2.1).mono ?_); rintro e w6 ⟨v5, ⟨rfl, hv5⟩, b9⟩)
    obtain ⟨A5, c5, rfl⟩ := hv5.shape
    have b10 := bt b9 (ba w6 (.cells #[.int .i64 T, .slice A5 V.length c5] 24))
    have k0 := K.out; replace K := Lib.hid (And.intro ((k0.1).later (b10)) (And.intro ((k0.2.1).later (b10)) (And.intro (bt (k0.2.2.1) (b10)) (And.intro ((k0.2.2.2.1).later (b10)) (And.intro ((k0.2.2.2.2).later (b10)) (And.intro (Box2.new w6 (.int .i64 T) (.slice A5 V.length c5) 24) (hv5.vals.later (ba w6 (.cells #[.int .i64 T, .slice A5 V.length c5] 24))))))))); clear k0
    clear b9 b10 hv5
    go_wp2_with fail
    generalize w6.alloc (.cells #[.int .i64 T, .slice A5 V.length c5] 24) = W at *
    have R := Lib.hid (fun (d : Nat) (os : Array Obj) => And.intro ((K.out.2.1).later (below_regrown W d os)) (And.intro ((K.out.2.2.2.2.1).later (below_regrown W d os)) ((K.out.2.2.2.2.2.2).later (below_regrown W d os))))
    have p0 := fun d os => cell_regrown (K.out.1).1 d os
    have p1 := fun d os => cell_regrown (K.out.1).2 d os
    have p2 := fun d os => cell_regrown (K.out.2.2.2.1).1 d os
    have p3 := fun d os => cell_regrown (K.out.2.2.2.1).2 d os
    have p4 := fun d os => cell_regrown (K.out.2.2.2.2.2.1).1 d os
    have p5 := fun d os => cell_regrown (K.out.2.2.2.2.2.1).2 d os
    refine wp_region_quiet_below (by kernel_rfl) (by kernel_rfl) ?_
    repeat (go_big_quiet_step ((first
      | (go_at_call 24; exact Calls.regrown_of (C.out.2.2.1 _ _ (R.out _ _).1))
      | (go_at_call 11; exact Calls.regrown_of (C2.out.1 _ _ (R.out _ _).2.1))
      | (go_at_call 19; with_reducible exact Calls.regrown_of (C.out.2.2.2.1 _ _ _ (R.out _ _).2.2 (R.out _ _).1))
      | (go_at_call 19; with_reducible exact Calls.regrown_of (C2.out.2 _ _ _ (R.out _ _).1 (R.out _ _).2.1)))))
    refine wpQuiet_nil ?_
    intro wq hw'
    have bq : Below W.heap.size W wq := by obtain ⟨p, rfl⟩ := hw'; exact below_regrown _ _ _
    clear hw' R p0 p1 p2 p3 p4 p5
    go_wp2
    go_ret
    exact ⟨rfl, bt K.out.2.2.1 bq⟩
end Go.Proofs.Ytojeiahconikeaa
