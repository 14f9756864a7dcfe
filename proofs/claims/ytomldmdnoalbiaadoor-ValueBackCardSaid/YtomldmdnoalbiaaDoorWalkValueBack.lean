/- ValueBack: the walk. -/
import Derived.Test.YtomldmdnoalbiaaDoorEx02
import Derived.Test.YtomldmdnoalbiaaDoorNum24
import Derived.Test.YtomldmdnoalbiaaDoorWalkValueOnce
namespace Go.Proofs.YtomldmdnoalbiaaDoor
open Go.ChangeShapes Go.WideShapes Go.ChangeAt Go.RowKit
set_option linter.unusedVariables false
set_option linter.unusedSimpArgs false

theorem put_len {k n : Int} {s : ByteArray} (h : Val.right k n s = true) (n0 : -9223372036854775808 ≤ n) (n1 : n ≤ 9223372036854775807) (hs : s.size ≤ 64) : (Val.put k n s).length ≤ 75 := by
  rcases Val.right_kind h with rfl | rfl | rfl
  · rw [Val.put_int h]; have := Num.put_ten (Num.zig_natlt n n0 n1); simp; omega
  · rw [Val.put_bool h]; simp
  · rw [Val.put_text h]; have := Num.put_ten (u := s.size) (by omega); simp; omega

theorem Put_text (k n : Int) (s : ByteArray) (w : World) (hs : s.size ≤ 64) (n0 : -9223372036854775808 ≤ n) (n1 : n ≤ 9223372036854775807) (X : ByteArray) (hX : X = ⟨(Val.put k n s).toArray⟩) :
    Calls Tryd.prog 11 #[vv k n s] w fun e w' => e = .returned (.string X) ∧ Below w.heap.size w w' :=
  (Put_v _ _ _ w (by unfold maxLen; omega) n0 n1).mono fun _ _ ⟨he, hw⟩ => ⟨by rw [he, hX], hw⟩

theorem back_way {k a : Int} {A : ByteArray} {l b : Int} {B : ByteArray} (r1 : Val.right k a A = true) (r2 : Val.right l b B = true) (n0 : -9223372036854775808 ≤ a) (n1 : a ≤ 9223372036854775807) (m0 : -9223372036854775808 ≤ b) (m1 : b ≤ 9223372036854775807)
    {X Y : ByteArray} (hX : X = ⟨(Val.put k a A).toArray⟩) (hY : Y = ⟨(Val.put l b B).toArray⟩) :
    (k = l ∧ a = b ∧ A = B ∧ X = Y) ∨ ((X.toList == Y.toList) = false ∧ ¬ X.toList = Y.toList ∧ (¬ k = l ∨ ¬ a = b ∨ ¬ A.toList = B.toList)) := by
  have lX : X.toList = Val.put k a A := by rw [Lib.toList_data, hX]
  have lY : Y.toList = Val.put l b B := by rw [Lib.toList_data, hY]
  by_cases h : k = l ∧ a = b ∧ A = B
  · obtain ⟨rfl, rfl, rfl⟩ := h
    exact Or.inl ⟨rfl, rfl, rfl, by rw [hX, hY]⟩
  · right
    have hne : ¬ X.toList = Y.toList := fun h2 => h (by rw [lX, lY] at h2; exact put_same r1 r2 n0 n1 m0 m1 h2)
    refine ⟨by simpa using hne, hne, ?_⟩
    rcases Classical.em (k = l) with h1 | h1
    · rcases Classical.em (a = b) with h2 | h2
      · right; right; exact fun h3 => h ⟨h1, h2, toList_inj h3⟩
      · right; left; exact h2
    · left; exact h1

/-- Both gets. -/
theorem back_gets {k a : Int} {A : ByteArray} {l b : Int} {B : ByteArray} (r1 : Val.right k a A = true) (r2 : Val.right l b B = true) (n0 : -9223372036854775808 ≤ a) (n1 : a ≤ 9223372036854775807) (m0 : -9223372036854775808 ≤ b) (m1 : b ≤ 9223372036854775807)
    (z1 : A.size ≤ 64) (z2 : B.size ≤ 64) {X Y : ByteArray} (hX : X = ⟨(Val.put k a A).toArray⟩) (hY : Y = ⟨(Val.put l b B).toArray⟩) (U : ByteArray) (hU : U.size ≤ 140737488351232) :
    (U ++ X ++ Y ++ U).size ≤ maxLen ∧ Val.getAt (U ++ X ++ Y ++ U) (U.size : Int) = some ((k, a, A), U.size + X.size) ∧ Val.getAt (U ++ X ++ Y ++ U) ((U.size : Int) + (X.size : Int)) = some ((l, b, B), U.size + X.size + Y.size) ∧ X.size ≤ 75 ∧ Y.size ≤ 75 := by
  have sX : X.size = (Val.put k a A).length := by rw [hX]; rfl
  have sY : Y.size = (Val.put l b B).length := by rw [hY]; rfl
  have lX : X.data.toList = Val.put k a A := by rw [hX]
  have lY : Y.data.toList = Val.put l b B := by rw [hY]
  have b1 := put_len r1 n0 n1 z1
  have b2 := put_len r2 m0 m1 z2
  refine ⟨?_, ?_, ?_, by omega, by omega⟩
  · rw [ByteArray.size_append, ByteArray.size_append, ByteArray.size_append]; unfold maxLen; omega
  · rw [getAt_put r1 n0 n1 _ U.data.toList (Y.data.toList ++ U.data.toList) (by simp [lX]) _ (by simp)]
    rw [← sX]; simp
  · rw [getAt_put r2 m0 m1 _ (U.data.toList ++ X.data.toList) U.data.toList (by simp [lY]) _ (by simp)]
    rw [← sY]; simp

set_option maxHeartbeats 1000000 in
theorem walk_ValueBack (c n : Int) (s : ByteArray) (d m : Int) (t : ByteArray) (same : Bool) (U : ByteArray) (c0 : 0 ≤ c) (c1 : c ≤ 255) (n0 : -9223372036854775808 ≤ n) (n1 : n ≤ 9223372036854775807) (hs : s.size ≤ 140737488351232)
    (d0 : 0 ≤ d) (d1 : d ≤ 255) (m0 : -9223372036854775808 ≤ m) (m1 : m ≤ 9223372036854775807) (ht : t.size ≤ 140737488351232) (hU : U.size ≤ 140737488351232) (w : World) (hT : Tab w) :
    Calls Tryd.prog 4 #[.int .u8 c, .int .i64 n, .string s, .int .u8 d, .int .i64 m, .string t, .bool same, .string U] w fun e w' => e = .returned (.bool true) ∧ Below w.heap.size w w' := by
  have co1 := fun w => own_v c n s w (by unfold maxLen; omega) c0 c1 n0 n1
  have co2 := fun w => own_v d m t w (by unfold maxLen; omega) d0 d1 m0 m1
  have r1 := own_right c n s c0
  have r2 := own_right d m t d0
  have z1 := ownS_size c s
  have z2 := ownS_size d t
  have e1 := ownN_lo c n n0
  have e2 := ownN_hi c n n1
  have e3 := ownN_lo d m m0
  have e4 := ownN_hi d m m1
  generalize ownK c = k at *
  generalize ownN c n = a at *
  generalize ownS c s = A at *
  generalize ownK d = l at *
  generalize ownN d m = b at *
  generalize ownS d t = B at *
  have HT := Lib.hid hT
  clear hT
  go_enter Tryd.func4, Tryd.ntmps4
  go_wp2_with fail
  go_at_call 9
  ((with_reducible refine (examples_any _ HT.out).mono ?_); rintro e w1 ⟨rfl, b1⟩)
  have H := Lib.hid (And.intro co1 co2)
  clear co1 co2
  go_wp2_with fail
  go_at_call 10
  ((with_reducible refine (H.out.1 _).mono ?_); rintro e w2 ⟨rfl, b2⟩)
  have B2 := bt b1 b2
  have K1 := Box3.new w2 (.int .i64 k) (.int .i64 a) (.string A) 23
  go_wp2_with fail
  go_at_call 10
  ((with_reducible refine (H.out.2 _).mono ?_); rintro e w3 ⟨rfl, b3⟩)
  have B3 := bt B2 (bt (ba _ _) b3)
  clear H
  cases same
  · have A3 := ba w3 (.cells #[.int .i64 l, .int .i64 b, .string B] 23)
    have K2 := Box3.new w3 (.int .i64 l) (.int .i64 b) (.string B) 23
    have K := Lib.hid (And.intro ((K1.later b3).later A3) (And.intro K2 (bt B3 A3)))
    obtain ⟨⟨x0, x1, x2⟩, ⟨y0, y1, y2⟩, -⟩ := K.out
    clear A3 b1 b2 b3 B2 B3 K1 K2
    obtain ⟨X, hX⟩ : ∃ X : ByteArray, X = ⟨(Val.put k a A).toArray⟩ := ⟨_, rfl⟩
    obtain ⟨Y, hY⟩ : ∃ Y : ByteArray, Y = ⟨(Val.put l b B).toArray⟩ := ⟨_, rfl⟩
    have cX := fun w => Put_text k a A w z1 e1 e2 X hX
    have cY := fun w => Put_text l b B w z2 e3 e4 Y hY
    have hway := back_way r1 r2 e1 e2 e3 e4 hX hY
    obtain ⟨g0, g1, g2, g3, g4⟩ := back_gets r1 r2 e1 e2 e3 e4 z1 z2 hX hY U hU
    have C := Lib.hid (And.intro cX (And.intro cY (And.intro g0 (And.intro g1 g2))))
    clear cX cY g0 g1 g2 hX hY r1 r2
    go_wp2_with (first
      | (go_at_call 11; ((with_reducible refine (C.out.1 _).mono ?_); rintro e w5 ⟨rfl, b5⟩; have k0 := K.out; obtain ⟨k1, k2, kb⟩ := k0; replace K := Lib.hid (And.intro (k1.later b5) (And.intro (k2.later b5) (bt kb b5))); obtain ⟨⟨x0, x1, x2⟩, ⟨y0, y1, y2⟩, -⟩ := K.out; clear k1 k2 kb b5))
      | (go_at_call 11; ((with_reducible refine (C.out.2.1 _).mono ?_); rintro e w5 ⟨rfl, b5⟩; have k0 := K.out; obtain ⟨k1, k2, kb⟩ := k0; replace K := Lib.hid (And.intro (k1.later b5) (And.intro (k2.later b5) (bt kb b5))); obtain ⟨⟨x0, x1, x2⟩, ⟨y0, y1, y2⟩, -⟩ := K.out; clear k1 k2 kb b5)))
    rcases hway with ⟨rfl, rfl, rfl, rfl⟩ | ⟨hb, hne, hv⟩
    · go_at_call 12
      ((with_reducible refine (Get_yes _ _ _ C.out.2.2.1 _ _ _ _ C.out.2.2.2.1).mono ?_); rintro e w6 ⟨rfl, b6⟩)
      obtain ⟨k1, k2, kb⟩ := K.out
      have A6 := ba w6 (.cells #[.int .i64 k, .int .i64 a, .string A] 23)
      replace K := Lib.hid (And.intro ((k1.later b6).later A6) (And.intro ((k2.later b6).later A6) (And.intro (Box3.new w6 (.int .i64 k) (.int .i64 a) (.string A) 23) (bt kb (bt b6 A6)))))
      clear k1 k2 kb b6 A6
      go_wp2_with fail
      go_at_call 12
      ((with_reducible refine (Get_yes _ _ _ C.out.2.2.1 _ _ _ _ C.out.2.2.2.2).mono ?_); rintro e w7 ⟨rfl, b7⟩)
      obtain ⟨k1, k2, k3, kb⟩ := K.out
      have A7 := ba w7 (.cells #[.int .i64 k, .int .i64 a, .string A] 23)
      replace K := Lib.hid (And.intro ((k1.later b7).later A7) (And.intro ((k2.later b7).later A7) (And.intro ((k3.later b7).later A7) (And.intro (Box3.new w7 (.int .i64 k) (.int .i64 a) (.string A) 23) (bt kb (bt b7 A7))))))
      obtain ⟨⟨x0, x1, x2⟩, ⟨y0, y1, y2⟩, ⟨u0, u1, u2⟩, ⟨t0, t1, t2⟩, -⟩ := K.out
      clear k1 k2 k3 kb b7 A7
      go_wp2
      go_ret
      exact ⟨rfl, K.out.2.2.2.2⟩
    · rcases hv with hv | hv | hv
      all_goals
        go_at_call 12
        ((with_reducible refine (Get_yes _ _ _ C.out.2.2.1 _ _ _ _ C.out.2.2.2.1).mono ?_); rintro e w6 ⟨rfl, b6⟩)
        obtain ⟨k1, k2, kb⟩ := K.out
        have A6 := ba w6 (.cells #[.int .i64 k, .int .i64 a, .string A] 23)
        replace K := Lib.hid (And.intro ((k1.later b6).later A6) (And.intro ((k2.later b6).later A6) (And.intro (Box3.new w6 (.int .i64 k) (.int .i64 a) (.string A) 23) (bt kb (bt b6 A6)))))
        clear k1 k2 kb b6 A6
        go_wp2_with fail
        go_at_call 12
        ((with_reducible refine (Get_yes _ _ _ C.out.2.2.1 _ _ _ _ C.out.2.2.2.2).mono ?_); rintro e w7 ⟨rfl, b7⟩)
        obtain ⟨k1, k2, k3, kb⟩ := K.out
        have A7 := ba w7 (.cells #[.int .i64 l, .int .i64 b, .string B] 23)
        replace K := Lib.hid (And.intro ((k1.later b7).later A7) (And.intro ((k2.later b7).later A7) (And.intro ((k3.later b7).later A7) (And.intro (Box3.new w7 (.int .i64 l) (.int .i64 b) (.string B) 23) (bt kb (bt b7 A7))))))
        obtain ⟨⟨x0, x1, x2⟩, ⟨y0, y1, y2⟩, ⟨u0, u1, u2⟩, ⟨t0, t1, t2⟩, -⟩ := K.out
        clear k1 k2 k3 kb b7 A7
        go_wp2
        go_ret
        exact ⟨rfl, K.out.2.2.2.2⟩
  · obtain ⟨q0, q1, q2⟩ := (K1.later b3).later (ba w3 (.cells #[.int .i64 l, .int .i64 b, .string B] 23))
    have A3 := ba w3 (.cells #[.int .i64 k, .int .i64 a, .string A] 23)
    have K2 := Box3.new w3 (.int .i64 k) (.int .i64 a) (.string A) 23
    have K := Lib.hid (And.intro ((K1.later b3).later A3) (And.intro K2 (bt B3 A3)))
    obtain ⟨⟨x0, x1, x2⟩, ⟨y0, y1, y2⟩, -⟩ := K.out
    clear A3 b1 b2 b3 B2 B3 K1 K2
    obtain ⟨X, hX⟩ : ∃ X : ByteArray, X = ⟨(Val.put k a A).toArray⟩ := ⟨_, rfl⟩
    have cX := fun w => Put_text k a A w z1 e1 e2 X hX
    obtain ⟨g0, g1, g2, g3, g4⟩ := back_gets r1 r1 e1 e2 e1 e2 z1 z1 hX hX U hU
    have C := Lib.hid (And.intro cX (And.intro cX (And.intro g0 (And.intro g1 g2))))
    clear cX g0 g1 g2 hX r1 r2
    go_wp2_with (first
      | (go_at_call 11; ((with_reducible refine (C.out.1 _).mono ?_); rintro e w5 ⟨rfl, b5⟩; have k0 := K.out; obtain ⟨k1, k2, kb⟩ := k0; replace K := Lib.hid (And.intro (k1.later b5) (And.intro (k2.later b5) (bt kb b5))); obtain ⟨⟨x0, x1, x2⟩, ⟨y0, y1, y2⟩, -⟩ := K.out; clear k1 k2 kb b5))
      | (go_at_call 11; ((with_reducible refine (C.out.2.1 _).mono ?_); rintro e w5 ⟨rfl, b5⟩; have k0 := K.out; obtain ⟨k1, k2, kb⟩ := k0; replace K := Lib.hid (And.intro (k1.later b5) (And.intro (k2.later b5) (bt kb b5))); obtain ⟨⟨x0, x1, x2⟩, ⟨y0, y1, y2⟩, -⟩ := K.out; clear k1 k2 kb b5)))
    go_at_call 12
    ((with_reducible refine (Get_yes _ _ _ C.out.2.2.1 _ _ _ _ C.out.2.2.2.1).mono ?_); rintro e w6 ⟨rfl, b6⟩)
    obtain ⟨k1, k2, kb⟩ := K.out
    have A6 := ba w6 (.cells #[.int .i64 k, .int .i64 a, .string A] 23)
    replace K := Lib.hid (And.intro ((k1.later b6).later A6) (And.intro ((k2.later b6).later A6) (And.intro (Box3.new w6 (.int .i64 k) (.int .i64 a) (.string A) 23) (bt kb (bt b6 A6)))))
    clear k1 k2 kb b6 A6
    go_wp2_with fail
    go_at_call 12
    ((with_reducible refine (Get_yes _ _ _ C.out.2.2.1 _ _ _ _ C.out.2.2.2.2).mono ?_); rintro e w7 ⟨rfl, b7⟩)
    obtain ⟨k1, k2, k3, kb⟩ := K.out
    have A7 := ba w7 (.cells #[.int .i64 k, .int .i64 a, .string A] 23)
    replace K := Lib.hid (And.intro ((k1.later b7).later A7) (And.intro ((k2.later b7).later A7) (And.intro ((k3.later b7).later A7) (And.intro (Box3.new w7 (.int .i64 k) (.int .i64 a) (.string A) 23) (bt kb (bt b7 A7))))))
    obtain ⟨⟨x0, x1, x2⟩, ⟨y0, y1, y2⟩, ⟨u0, u1, u2⟩, ⟨t0, t1, t2⟩, -⟩ := K.out
    clear k1 k2 k3 kb b7 A7
    go_wp2
    go_ret
    exact ⟨rfl, K.out.2.2.2.2⟩
end Go.Proofs.YtomldmdnoalbiaaDoor
