/- ValueTells: the walk's paths. -/
import Derived.Test.YtomldmdnoalbiaaDoorTellsP
namespace Go.Proofs.YtomldmdnoalbiaaDoor
open Go.ChangeShapes Go.WideShapes Go.ChangeAt Go.RowKit
set_option linter.unusedVariables false
set_option linter.unusedSimpArgs false
set_option maxHeartbeats 4000000 in
theorem tells_100 (k n : Int) (s : ByteArray) (l m : Int) (t : ByteArray) (c : Int) (U : ByteArray) (a : Int) (kk nn : Int) (ss : ByteArray) (ll mm : Int) (tt : ByteArray)
    (n0 : -9223372036854775808 ≤ n) (n1 : n ≤ 9223372036854775807) (hs : s.size ≤ 140737488351232) (m0 : -9223372036854775808 ≤ m) (m1 : m ≤ 9223372036854775807) (ht : t.size ≤ 140737488351232)
    (e1 : -9223372036854775808 ≤ nn) (e2 : nn ≤ 9223372036854775807) (z1 : ss.size ≤ 64) (z2 : tt.size ≤ 64)
    (c0 : 0 ≤ c) (c1 : c ≤ 255) (hU : U.size ≤ 140737488351232) (a0 : -9223372036854775808 ≤ a) (a1 : a ≤ 9223372036854775807) (w : World) (hT : Tab w)
    (hca : 0 < c % 4) (hcb : c % 8 ≤ 3)
    (HC : Hid ((∀ w, Calls Tryd.prog 10 #[.int .u8 (c / 4), .int .i64 n, .string s] w fun e w' => e = .returned (vv kk nn ss) ∧ Below w.heap.size w w') ∧
      (∀ w, Calls Tryd.prog 10 #[.int .u8 (c / 4 + c / 64), .int .i64 m, .string t] w fun e w' => e = .returned (vv ll mm tt) ∧ Below w.heap.size w w'))) :
    Calls Tryd.prog 3 #[vv k n s, vv l m t, .int .u8 c, .string U, .int .i64 a, .bool false] w fun e w' => e = .returned (.bool true) ∧ Below w.heap.size w w' := by
  have HT := Lib.hid hT
  clear hT
  have B0 : Below w.heap.size w ((w.alloc (.cells #[.int .i64 k, .int .i64 n, .string s] 23)).alloc (.cells #[.int .i64 l, .int .i64 m, .string t] 23)) := bt (ba _ _) (ba _ _)
  have X0 := (Box3.new w (.int .i64 k) (.int .i64 n) (.string s) 23).later (ba _ (.cells #[.int .i64 l, .int .i64 m, .string t] 23))
  have Y0 := Box3.new (w.alloc (.cells #[.int .i64 k, .int .i64 n, .string s] 23)) (.int .i64 l) (.int .i64 m) (.string t) 23
  rw [World.size_alloc] at Y0
  have N1 : NF ((w.alloc (.cells #[.int .i64 k, .int .i64 n, .string s] 23)).alloc (.cells #[.int .i64 l, .int .i64 m, .string t] 23)) w.heap.size := ⟨by simp only [World.size_alloc]; omega, fun o => World.frozen?_alloc2_first _ _ _ _⟩
  have N2 : NF ((w.alloc (.cells #[.int .i64 k, .int .i64 n, .string s] 23)).alloc (.cells #[.int .i64 l, .int .i64 m, .string t] 23)) (w.heap.size + 1) := ⟨by simp only [World.size_alloc]; omega, fun o => World.frozen?_alloc2_new _ _ _ _⟩
  obtain ⟨gk, gn, gs, gx, gb, x, ob, rb, X, Y, C0⟩ := tells_pack kk nn ss l m t U a (by unfold maxLen; omega) e1 e2 (by unfold maxLen; omega) (by unfold maxLen; omega)
  have C := Lib.hid C0; clear C0
  go_enter Tryd.func3, Tryd.ntmps3
  go_wp2_with fail
  go_at_call 9
  ((with_reducible refine (examples_any _ (HT.out.later B0)).mono ?_); rintro e w1 ⟨rfl, b1⟩)
  have K := Lib.hid (And.intro (X0.later b1) (And.intro (Y0.later b1) (bt B0 b1)))
  obtain ⟨⟨x0, x1, x2⟩, ⟨y0, y1, y2⟩, -⟩ := K.out
  replace N1 := N1.later b1
  replace N2 := N2.later b1
  clear b1 B0 X0 Y0
  go_wp2_with fail
  go_at_call 10
  ((with_reducible refine (HC.out.1 _).mono ?_); rintro e w2 ⟨rfl, b2⟩)
  obtain ⟨k1, k2, kb⟩ := K.out
  obtain ⟨x0, x1, x2⟩ := k1.later b2
  obtain ⟨y0, y1, y2⟩ := k2.later b2
  replace K := Lib.hid (And.intro ((k1.later b2).set (.int .i64 kk) (.int .i64 nn) (.string ss)) (And.intro ((k2.later b2).far (c := w.heap.size) (by omega) (.int .i64 kk) (.int .i64 nn) (.string ss)) (below_set3 (bt kb b2) (Nat.le_refl _) (.int .i64 kk) (.int .i64 nn) (.string ss))))
  obtain ⟨-, f1⟩ := N1.later b2
  obtain ⟨-, f2⟩ := N2.later b2
  replace N1 := (N1.later b2).set3 w.heap.size (.int .i64 kk) (.int .i64 nn) (.string ss)
  replace N2 := (N2.later b2).set3 w.heap.size (.int .i64 kk) (.int .i64 nn) (.string ss)
  unfold set3 at K N1 N2
  clear k1 k2 kb b2
  go_wp2_with fail
  go_at_call 12
  ((with_reducible refine (C.out.1 _).mono ?_); rintro e w6 ⟨rfl, b6⟩)
  obtain ⟨k1, k2, kb⟩ := K.out
  have A6 := ba w6 (.cells #[.int .i64 gk, .int .i64 gn, .string gs] 23)
  replace K := Lib.hid (And.intro ((k1.later b6).later A6) (And.intro ((k2.later b6).later A6) (And.intro (Box3.new w6 (.int .i64 gk) (.int .i64 gn) (.string gs) 23) (bt kb (bt b6 A6)))))
  clear k1 k2 kb b6 A6
  go_wp2_with fail
  go_at_call 13
  ((with_reducible refine (C.out.2.1 _).mono ?_); rintro e w7 ⟨rfl, b7⟩)
  obtain ⟨k1, k2, k3, kb⟩ := K.out
  have A7 := ba w7 (.cells #[.int .i64 gk, .int .i64 gn, .string gs] 29)
  replace K := Lib.hid (And.intro ((k1.later b7).later A7) (And.intro ((k2.later b7).later A7) (And.intro ((k3.later b7).later A7) (And.intro (Box3.new w7 (.int .i64 gk) (.int .i64 gn) (.string gs) 29) (bt kb (bt b7 A7))))))
  obtain ⟨⟨x0, x1, x2⟩, ⟨y0, y1, y2⟩, ⟨u0, u1, u2⟩, ⟨t0, t1, t2⟩, -⟩ := K.out
  clear k1 k2 k3 kb b7 A7
  go_wp2_with fail
  go_at_call 14
  ((with_reducible refine (C.out.2.2.1 _).mono ?_); rintro e v0 ⟨rfl, b6⟩)
  obtain ⟨k1, k2, k3, k4, kb⟩ := K.out
  replace K := Lib.hid (And.intro (k1.later b6) (And.intro (k2.later b6) (And.intro (k3.later b6) (And.intro (k4.later b6) (bt kb b6)))))
  clear k1 k2 k3 k4 kb b6
  obtain ⟨⟨x0, x1, x2⟩, ⟨y0, y1, y2⟩, ⟨u0, u1, u2⟩, ⟨t0, t1, t2⟩, -⟩ := K.out
  go_wp2_with fail
  clear x0 x1 x2 y0 y1 y2 u0 u1 u2 t0 t1 t2
  obtain ⟨⟨q0, q1, q2⟩, ⟨q3, q4, q5⟩, ⟨q6, q7, q8⟩, ⟨q9, q10, q11⟩, kb⟩ := K.out
  have p0 := fun d os => cell_regrown q0 d os
  have p1 := fun d os => cell_regrown q1 d os
  have p2 := fun d os => cell_regrown q2 d os
  have p3 := fun d os => cell_regrown q3 d os
  have p4 := fun d os => cell_regrown q4 d os
  have p5 := fun d os => cell_regrown q5 d os
  have p6 := fun d os => cell_regrown q6 d os
  have p7 := fun d os => cell_regrown q7 d os
  have p8 := fun d os => cell_regrown q8 d os
  have p9 := fun d os => cell_regrown q9 d os
  have p10 := fun d os => cell_regrown q10 d os
  have p11 := fun d os => cell_regrown q11 d os
  have S := Lib.hid (fun d os => C.out.2.2.2.2.2.2.2.2.1 _ ((HT.out.later kb).later (below_regrown _ d os)))
  clear q0 q1 q2 q3 q4 q5 q6 q7 q8 q9 q10 q11 kb
  refine wp_region_quiet_below (by kernel_rfl) (by kernel_rfl) ?_
  repeat (go_big_quiet_step ((first
    | (go_at_call 16; exact Calls.regrown_of (ref_v _ _ _ _))
    | (go_at_call 15; exact Calls.regrown_of (C.out.2.2.2.1 _))
    | (go_at_call 17; exact Calls.regrown_of (C.out.2.2.2.2.1 _))
    | (go_at_call 18; exact Calls.regrown_of (C.out.2.2.2.2.2.1 _))
    | (go_at_call 11; exact Calls.regrown_of (C.out.2.2.2.2.2.2.1 _))
    | (go_at_call 19; exact Calls.regrown_of (C.out.2.2.2.2.2.2.2.1 _))
    | (go_at_call 20; exact Calls.regrown_of (S.out _ _))
    | (go_at_call 21; exact Calls.regrown_of (C.out.2.2.2.2.2.2.2.2.2 _))
    )))
  refine wpQuiet_nil ?_
  intro v1 hw'
  have b6 : Below v0.heap.size v0 v1 := by obtain ⟨p, rfl⟩ := hw'; exact below_regrown _ _ _
  clear hw' S p0 p1 p2 p3 p4 p5 p6 p7 p8 p9 p10 p11
  obtain ⟨k1, k2, k3, k4, kb⟩ := K.out
  replace K := Lib.hid (And.intro (k1.later b6) (And.intro (k2.later b6) (And.intro (k3.later b6) (And.intro (k4.later b6) (bt kb b6)))))
  clear k1 k2 k3 k4 kb b6
  obtain ⟨⟨x0, x1, x2⟩, ⟨y0, y1, y2⟩, ⟨u0, u1, u2⟩, ⟨t0, t1, t2⟩, -⟩ := K.out
  go_wp2_with fail
  clear x0 x1 x2 y0 y1 y2 u0 u1 u2 t0 t1 t2
  obtain ⟨⟨q0, q1, q2⟩, ⟨q3, q4, q5⟩, ⟨q6, q7, q8⟩, ⟨q9, q10, q11⟩, kb⟩ := K.out
  have p0 := fun d os => cell_regrown q0 d os
  have p1 := fun d os => cell_regrown q1 d os
  have p2 := fun d os => cell_regrown q2 d os
  have p3 := fun d os => cell_regrown q3 d os
  have p4 := fun d os => cell_regrown q4 d os
  have p5 := fun d os => cell_regrown q5 d os
  have p6 := fun d os => cell_regrown q6 d os
  have p7 := fun d os => cell_regrown q7 d os
  have p8 := fun d os => cell_regrown q8 d os
  have p9 := fun d os => cell_regrown q9 d os
  have p10 := fun d os => cell_regrown q10 d os
  have p11 := fun d os => cell_regrown q11 d os
  have S := Lib.hid (fun d os => C.out.2.2.2.2.2.2.2.2.1 _ ((HT.out.later kb).later (below_regrown _ d os)))
  clear q0 q1 q2 q3 q4 q5 q6 q7 q8 q9 q10 q11 kb
  refine wp_region_quiet_below (by kernel_rfl) (by kernel_rfl) ?_
  repeat (go_big_quiet_step ((first
    | (go_at_call 16; exact Calls.regrown_of (ref_v _ _ _ _))
    | (go_at_call 15; exact Calls.regrown_of (C.out.2.2.2.1 _))
    | (go_at_call 17; exact Calls.regrown_of (C.out.2.2.2.2.1 _))
    | (go_at_call 18; exact Calls.regrown_of (C.out.2.2.2.2.2.1 _))
    | (go_at_call 11; exact Calls.regrown_of (C.out.2.2.2.2.2.2.1 _))
    | (go_at_call 19; exact Calls.regrown_of (C.out.2.2.2.2.2.2.2.1 _))
    | (go_at_call 20; exact Calls.regrown_of (S.out _ _))
    | (go_at_call 21; exact Calls.regrown_of (C.out.2.2.2.2.2.2.2.2.2 _))
    )))
  refine wpQuiet_nil ?_
  intro v2 hw'
  have b6 : Below v1.heap.size v1 v2 := by obtain ⟨p, rfl⟩ := hw'; exact below_regrown _ _ _
  clear hw' S p0 p1 p2 p3 p4 p5 p6 p7 p8 p9 p10 p11
  obtain ⟨k1, k2, k3, k4, kb⟩ := K.out
  replace K := Lib.hid (And.intro (k1.later b6) (And.intro (k2.later b6) (And.intro (k3.later b6) (And.intro (k4.later b6) (bt kb b6)))))
  clear k1 k2 k3 k4 kb b6
  obtain ⟨⟨x0, x1, x2⟩, ⟨y0, y1, y2⟩, ⟨u0, u1, u2⟩, ⟨t0, t1, t2⟩, -⟩ := K.out
  go_wp2
  go_ret
  exact ⟨rfl, K.out.2.2.2.2⟩
set_option maxHeartbeats 4000000 in
theorem tells_101 (k n : Int) (s : ByteArray) (l m : Int) (t : ByteArray) (c : Int) (U : ByteArray) (a : Int) (kk nn : Int) (ss : ByteArray) (ll mm : Int) (tt : ByteArray)
    (n0 : -9223372036854775808 ≤ n) (n1 : n ≤ 9223372036854775807) (hs : s.size ≤ 140737488351232) (m0 : -9223372036854775808 ≤ m) (m1 : m ≤ 9223372036854775807) (ht : t.size ≤ 140737488351232)
    (e1 : -9223372036854775808 ≤ nn) (e2 : nn ≤ 9223372036854775807) (z1 : ss.size ≤ 64) (z2 : tt.size ≤ 64)
    (c0 : 0 ≤ c) (c1 : c ≤ 255) (hU : U.size ≤ 140737488351232) (a0 : -9223372036854775808 ≤ a) (a1 : a ≤ 9223372036854775807) (w : World) (hT : Tab w)
    (hca : 0 < c % 4) (hcb : c % 8 ≤ 3)
    (HC : Hid ((∀ w, Calls Tryd.prog 10 #[.int .u8 (c / 4), .int .i64 n, .string s] w fun e w' => e = .returned (vv kk nn ss) ∧ Below w.heap.size w w') ∧
      (∀ w, Calls Tryd.prog 10 #[.int .u8 (c / 4 + c / 64), .int .i64 m, .string t] w fun e w' => e = .returned (vv ll mm tt) ∧ Below w.heap.size w w'))) :
    Calls Tryd.prog 3 #[vv k n s, vv l m t, .int .u8 c, .string U, .int .i64 a, .bool true] w fun e w' => e = .returned (.bool true) ∧ Below w.heap.size w w' := by
  have HT := Lib.hid hT
  clear hT
  have B0 : Below w.heap.size w ((w.alloc (.cells #[.int .i64 k, .int .i64 n, .string s] 23)).alloc (.cells #[.int .i64 l, .int .i64 m, .string t] 23)) := bt (ba _ _) (ba _ _)
  have X0 := (Box3.new w (.int .i64 k) (.int .i64 n) (.string s) 23).later (ba _ (.cells #[.int .i64 l, .int .i64 m, .string t] 23))
  have Y0 := Box3.new (w.alloc (.cells #[.int .i64 k, .int .i64 n, .string s] 23)) (.int .i64 l) (.int .i64 m) (.string t) 23
  rw [World.size_alloc] at Y0
  have N1 : NF ((w.alloc (.cells #[.int .i64 k, .int .i64 n, .string s] 23)).alloc (.cells #[.int .i64 l, .int .i64 m, .string t] 23)) w.heap.size := ⟨by simp only [World.size_alloc]; omega, fun o => World.frozen?_alloc2_first _ _ _ _⟩
  have N2 : NF ((w.alloc (.cells #[.int .i64 k, .int .i64 n, .string s] 23)).alloc (.cells #[.int .i64 l, .int .i64 m, .string t] 23)) (w.heap.size + 1) := ⟨by simp only [World.size_alloc]; omega, fun o => World.frozen?_alloc2_new _ _ _ _⟩
  obtain ⟨Z, hZ⟩ : ∃ Z : ByteArray, Z = ⟨(Val.put kk nn ss).toArray⟩ := ⟨_, rfl⟩
  have hZs : Z.size ≤ 75 := by rw [hZ]; exact put_len_any kk nn ss e1 e2
  have cZ : ∀ w, Calls Tryd.prog 11 #[vv kk nn ss] w fun e w' => e = .returned (.string Z) ∧ Below w.heap.size w w' := fun w => (Put_v kk nn ss w (by unfold maxLen; omega) e1 e2).mono fun _ _ ⟨he, hw⟩ => ⟨by rw [he, hZ], hw⟩
  have HZ := Lib.hid cZ; clear cZ hZ
  obtain ⟨gk, gn, gs, gx, gb, x, ob, rb, X, Y, C0⟩ := tells_pack kk nn ss l m t (U ++ Z ++ U) (a.tmod ((U.size : Int) + (Z.size : Int) + (U.size : Int) + 2)) (by unfold maxLen; omega) e1 e2 (by unfold maxLen; omega) (by rw [ByteArray.size_append, ByteArray.size_append]; unfold maxLen; omega)
  have C := Lib.hid C0; clear C0
  go_enter Tryd.func3, Tryd.ntmps3
  go_wp2_with fail
  go_at_call 9
  ((with_reducible refine (examples_any _ (HT.out.later B0)).mono ?_); rintro e w1 ⟨rfl, b1⟩)
  have K := Lib.hid (And.intro (X0.later b1) (And.intro (Y0.later b1) (bt B0 b1)))
  obtain ⟨⟨x0, x1, x2⟩, ⟨y0, y1, y2⟩, -⟩ := K.out
  replace N1 := N1.later b1
  replace N2 := N2.later b1
  clear b1 B0 X0 Y0
  go_wp2_with fail
  go_at_call 10
  ((with_reducible refine (HC.out.1 _).mono ?_); rintro e w2 ⟨rfl, b2⟩)
  obtain ⟨k1, k2, kb⟩ := K.out
  obtain ⟨x0, x1, x2⟩ := k1.later b2
  obtain ⟨y0, y1, y2⟩ := k2.later b2
  replace K := Lib.hid (And.intro ((k1.later b2).set (.int .i64 kk) (.int .i64 nn) (.string ss)) (And.intro ((k2.later b2).far (c := w.heap.size) (by omega) (.int .i64 kk) (.int .i64 nn) (.string ss)) (below_set3 (bt kb b2) (Nat.le_refl _) (.int .i64 kk) (.int .i64 nn) (.string ss))))
  obtain ⟨-, f1⟩ := N1.later b2
  obtain ⟨-, f2⟩ := N2.later b2
  replace N1 := (N1.later b2).set3 w.heap.size (.int .i64 kk) (.int .i64 nn) (.string ss)
  replace N2 := (N2.later b2).set3 w.heap.size (.int .i64 kk) (.int .i64 nn) (.string ss)
  unfold set3 at K N1 N2
  clear k1 k2 kb b2
  go_wp2_with fail
  go_at_call 11
  ((with_reducible refine (HZ.out _).mono ?_); rintro e w4 ⟨rfl, b4⟩)
  have k0 := K.out; obtain ⟨k1, k2, kb⟩ := k0; replace K := Lib.hid (And.intro (k1.later b4) (And.intro (k2.later b4) (bt kb b4))); obtain ⟨⟨x0, x1, x2⟩, ⟨y0, y1, y2⟩, -⟩ := K.out; clear k1 k2 kb b4
  go_wp2_with fail
  go_at_call 12
  ((with_reducible refine (C.out.1 _).mono ?_); rintro e w6 ⟨rfl, b6⟩)
  obtain ⟨k1, k2, kb⟩ := K.out
  have A6 := ba w6 (.cells #[.int .i64 gk, .int .i64 gn, .string gs] 23)
  replace K := Lib.hid (And.intro ((k1.later b6).later A6) (And.intro ((k2.later b6).later A6) (And.intro (Box3.new w6 (.int .i64 gk) (.int .i64 gn) (.string gs) 23) (bt kb (bt b6 A6)))))
  clear k1 k2 kb b6 A6
  go_wp2_with fail
  go_at_call 13
  ((with_reducible refine (C.out.2.1 _).mono ?_); rintro e w7 ⟨rfl, b7⟩)
  obtain ⟨k1, k2, k3, kb⟩ := K.out
  have A7 := ba w7 (.cells #[.int .i64 gk, .int .i64 gn, .string gs] 29)
  replace K := Lib.hid (And.intro ((k1.later b7).later A7) (And.intro ((k2.later b7).later A7) (And.intro ((k3.later b7).later A7) (And.intro (Box3.new w7 (.int .i64 gk) (.int .i64 gn) (.string gs) 29) (bt kb (bt b7 A7))))))
  obtain ⟨⟨x0, x1, x2⟩, ⟨y0, y1, y2⟩, ⟨u0, u1, u2⟩, ⟨t0, t1, t2⟩, -⟩ := K.out
  clear k1 k2 k3 kb b7 A7
  go_wp2_with fail
  go_at_call 14
  ((with_reducible refine (C.out.2.2.1 _).mono ?_); rintro e v0 ⟨rfl, b6⟩)
  obtain ⟨k1, k2, k3, k4, kb⟩ := K.out
  replace K := Lib.hid (And.intro (k1.later b6) (And.intro (k2.later b6) (And.intro (k3.later b6) (And.intro (k4.later b6) (bt kb b6)))))
  clear k1 k2 k3 k4 kb b6
  obtain ⟨⟨x0, x1, x2⟩, ⟨y0, y1, y2⟩, ⟨u0, u1, u2⟩, ⟨t0, t1, t2⟩, -⟩ := K.out
  go_wp2_with fail
  clear x0 x1 x2 y0 y1 y2 u0 u1 u2 t0 t1 t2
  obtain ⟨⟨q0, q1, q2⟩, ⟨q3, q4, q5⟩, ⟨q6, q7, q8⟩, ⟨q9, q10, q11⟩, kb⟩ := K.out
  have p0 := fun d os => cell_regrown q0 d os
  have p1 := fun d os => cell_regrown q1 d os
  have p2 := fun d os => cell_regrown q2 d os
  have p3 := fun d os => cell_regrown q3 d os
  have p4 := fun d os => cell_regrown q4 d os
  have p5 := fun d os => cell_regrown q5 d os
  have p6 := fun d os => cell_regrown q6 d os
  have p7 := fun d os => cell_regrown q7 d os
  have p8 := fun d os => cell_regrown q8 d os
  have p9 := fun d os => cell_regrown q9 d os
  have p10 := fun d os => cell_regrown q10 d os
  have p11 := fun d os => cell_regrown q11 d os
  have S := Lib.hid (fun d os => C.out.2.2.2.2.2.2.2.2.1 _ ((HT.out.later kb).later (below_regrown _ d os)))
  clear q0 q1 q2 q3 q4 q5 q6 q7 q8 q9 q10 q11 kb
  refine wp_region_quiet_below (by kernel_rfl) (by kernel_rfl) ?_
  repeat (go_big_quiet_step ((first
    | (go_at_call 16; exact Calls.regrown_of (ref_v _ _ _ _))
    | (go_at_call 15; exact Calls.regrown_of (C.out.2.2.2.1 _))
    | (go_at_call 17; exact Calls.regrown_of (C.out.2.2.2.2.1 _))
    | (go_at_call 18; exact Calls.regrown_of (C.out.2.2.2.2.2.1 _))
    | (go_at_call 11; exact Calls.regrown_of (C.out.2.2.2.2.2.2.1 _))
    | (go_at_call 19; exact Calls.regrown_of (C.out.2.2.2.2.2.2.2.1 _))
    | (go_at_call 20; exact Calls.regrown_of (S.out _ _))
    | (go_at_call 21; exact Calls.regrown_of (C.out.2.2.2.2.2.2.2.2.2 _))
    )))
  refine wpQuiet_nil ?_
  intro v1 hw'
  have b6 : Below v0.heap.size v0 v1 := by obtain ⟨p, rfl⟩ := hw'; exact below_regrown _ _ _
  clear hw' S p0 p1 p2 p3 p4 p5 p6 p7 p8 p9 p10 p11
  obtain ⟨k1, k2, k3, k4, kb⟩ := K.out
  replace K := Lib.hid (And.intro (k1.later b6) (And.intro (k2.later b6) (And.intro (k3.later b6) (And.intro (k4.later b6) (bt kb b6)))))
  clear k1 k2 k3 k4 kb b6
  obtain ⟨⟨x0, x1, x2⟩, ⟨y0, y1, y2⟩, ⟨u0, u1, u2⟩, ⟨t0, t1, t2⟩, -⟩ := K.out
  go_wp2_with fail
  clear x0 x1 x2 y0 y1 y2 u0 u1 u2 t0 t1 t2
  obtain ⟨⟨q0, q1, q2⟩, ⟨q3, q4, q5⟩, ⟨q6, q7, q8⟩, ⟨q9, q10, q11⟩, kb⟩ := K.out
  have p0 := fun d os => cell_regrown q0 d os
  have p1 := fun d os => cell_regrown q1 d os
  have p2 := fun d os => cell_regrown q2 d os
  have p3 := fun d os => cell_regrown q3 d os
  have p4 := fun d os => cell_regrown q4 d os
  have p5 := fun d os => cell_regrown q5 d os
  have p6 := fun d os => cell_regrown q6 d os
  have p7 := fun d os => cell_regrown q7 d os
  have p8 := fun d os => cell_regrown q8 d os
  have p9 := fun d os => cell_regrown q9 d os
  have p10 := fun d os => cell_regrown q10 d os
  have p11 := fun d os => cell_regrown q11 d os
  have S := Lib.hid (fun d os => C.out.2.2.2.2.2.2.2.2.1 _ ((HT.out.later kb).later (below_regrown _ d os)))
  clear q0 q1 q2 q3 q4 q5 q6 q7 q8 q9 q10 q11 kb
  refine wp_region_quiet_below (by kernel_rfl) (by kernel_rfl) ?_
  repeat (go_big_quiet_step ((first
    | (go_at_call 16; exact Calls.regrown_of (ref_v _ _ _ _))
    | (go_at_call 15; exact Calls.regrown_of (C.out.2.2.2.1 _))
    | (go_at_call 17; exact Calls.regrown_of (C.out.2.2.2.2.1 _))
    | (go_at_call 18; exact Calls.regrown_of (C.out.2.2.2.2.2.1 _))
    | (go_at_call 11; exact Calls.regrown_of (C.out.2.2.2.2.2.2.1 _))
    | (go_at_call 19; exact Calls.regrown_of (C.out.2.2.2.2.2.2.2.1 _))
    | (go_at_call 20; exact Calls.regrown_of (S.out _ _))
    | (go_at_call 21; exact Calls.regrown_of (C.out.2.2.2.2.2.2.2.2.2 _))
    )))
  refine wpQuiet_nil ?_
  intro v2 hw'
  have b6 : Below v1.heap.size v1 v2 := by obtain ⟨p, rfl⟩ := hw'; exact below_regrown _ _ _
  clear hw' S p0 p1 p2 p3 p4 p5 p6 p7 p8 p9 p10 p11
  obtain ⟨k1, k2, k3, k4, kb⟩ := K.out
  replace K := Lib.hid (And.intro (k1.later b6) (And.intro (k2.later b6) (And.intro (k3.later b6) (And.intro (k4.later b6) (bt kb b6)))))
  clear k1 k2 k3 k4 kb b6
  obtain ⟨⟨x0, x1, x2⟩, ⟨y0, y1, y2⟩, ⟨u0, u1, u2⟩, ⟨t0, t1, t2⟩, -⟩ := K.out
  go_wp2
  go_ret
  exact ⟨rfl, K.out.2.2.2.2⟩
set_option maxHeartbeats 4000000 in
theorem tells_110 (k n : Int) (s : ByteArray) (l m : Int) (t : ByteArray) (c : Int) (U : ByteArray) (a : Int) (kk nn : Int) (ss : ByteArray) (ll mm : Int) (tt : ByteArray)
    (n0 : -9223372036854775808 ≤ n) (n1 : n ≤ 9223372036854775807) (hs : s.size ≤ 140737488351232) (m0 : -9223372036854775808 ≤ m) (m1 : m ≤ 9223372036854775807) (ht : t.size ≤ 140737488351232)
    (e1 : -9223372036854775808 ≤ nn) (e2 : nn ≤ 9223372036854775807) (z1 : ss.size ≤ 64) (z2 : tt.size ≤ 64)
    (c0 : 0 ≤ c) (c1 : c ≤ 255) (hU : U.size ≤ 140737488351232) (a0 : -9223372036854775808 ≤ a) (a1 : a ≤ 9223372036854775807) (w : World) (hT : Tab w)
    (hca : 0 < c % 4) (hcb : 3 < c % 8)
    (HC : Hid ((∀ w, Calls Tryd.prog 10 #[.int .u8 (c / 4), .int .i64 n, .string s] w fun e w' => e = .returned (vv kk nn ss) ∧ Below w.heap.size w w') ∧
      (∀ w, Calls Tryd.prog 10 #[.int .u8 (c / 4 + c / 64), .int .i64 m, .string t] w fun e w' => e = .returned (vv ll mm tt) ∧ Below w.heap.size w w'))) :
    Calls Tryd.prog 3 #[vv k n s, vv l m t, .int .u8 c, .string U, .int .i64 a, .bool false] w fun e w' => e = .returned (.bool true) ∧ Below w.heap.size w w' := by
  have HT := Lib.hid hT
  clear hT
  have B0 : Below w.heap.size w ((w.alloc (.cells #[.int .i64 k, .int .i64 n, .string s] 23)).alloc (.cells #[.int .i64 l, .int .i64 m, .string t] 23)) := bt (ba _ _) (ba _ _)
  have X0 := (Box3.new w (.int .i64 k) (.int .i64 n) (.string s) 23).later (ba _ (.cells #[.int .i64 l, .int .i64 m, .string t] 23))
  have Y0 := Box3.new (w.alloc (.cells #[.int .i64 k, .int .i64 n, .string s] 23)) (.int .i64 l) (.int .i64 m) (.string t) 23
  rw [World.size_alloc] at Y0
  have N1 : NF ((w.alloc (.cells #[.int .i64 k, .int .i64 n, .string s] 23)).alloc (.cells #[.int .i64 l, .int .i64 m, .string t] 23)) w.heap.size := ⟨by simp only [World.size_alloc]; omega, fun o => World.frozen?_alloc2_first _ _ _ _⟩
  have N2 : NF ((w.alloc (.cells #[.int .i64 k, .int .i64 n, .string s] 23)).alloc (.cells #[.int .i64 l, .int .i64 m, .string t] 23)) (w.heap.size + 1) := ⟨by simp only [World.size_alloc]; omega, fun o => World.frozen?_alloc2_new _ _ _ _⟩
  obtain ⟨gk, gn, gs, gx, gb, x, ob, rb, X, Y, C0⟩ := tells_pack kk nn ss ll mm tt U a (by unfold maxLen; omega) e1 e2 (by unfold maxLen; omega) (by unfold maxLen; omega)
  have C := Lib.hid C0; clear C0
  go_enter Tryd.func3, Tryd.ntmps3
  go_wp2_with fail
  go_at_call 9
  ((with_reducible refine (examples_any _ (HT.out.later B0)).mono ?_); rintro e w1 ⟨rfl, b1⟩)
  have K := Lib.hid (And.intro (X0.later b1) (And.intro (Y0.later b1) (bt B0 b1)))
  obtain ⟨⟨x0, x1, x2⟩, ⟨y0, y1, y2⟩, -⟩ := K.out
  replace N1 := N1.later b1
  replace N2 := N2.later b1
  clear b1 B0 X0 Y0
  go_wp2_with fail
  go_at_call 10
  ((with_reducible refine (HC.out.1 _).mono ?_); rintro e w2 ⟨rfl, b2⟩)
  obtain ⟨k1, k2, kb⟩ := K.out
  obtain ⟨x0, x1, x2⟩ := k1.later b2
  obtain ⟨y0, y1, y2⟩ := k2.later b2
  replace K := Lib.hid (And.intro ((k1.later b2).set (.int .i64 kk) (.int .i64 nn) (.string ss)) (And.intro ((k2.later b2).far (c := w.heap.size) (by omega) (.int .i64 kk) (.int .i64 nn) (.string ss)) (below_set3 (bt kb b2) (Nat.le_refl _) (.int .i64 kk) (.int .i64 nn) (.string ss))))
  obtain ⟨-, f1⟩ := N1.later b2
  obtain ⟨-, f2⟩ := N2.later b2
  replace N1 := (N1.later b2).set3 w.heap.size (.int .i64 kk) (.int .i64 nn) (.string ss)
  replace N2 := (N2.later b2).set3 w.heap.size (.int .i64 kk) (.int .i64 nn) (.string ss)
  unfold set3 at K N1 N2
  clear k1 k2 kb b2
  go_wp2_with fail
  go_at_call 10
  ((with_reducible refine (HC.out.2 _).mono ?_); rintro e w3 ⟨rfl, b2⟩)
  obtain ⟨k1, k2, kb⟩ := K.out
  obtain ⟨x0, x1, x2⟩ := k1.later b2
  obtain ⟨y0, y1, y2⟩ := k2.later b2
  replace K := Lib.hid (And.intro ((k1.later b2).far (c := w.heap.size + 1) (by omega) (.int .i64 ll) (.int .i64 mm) (.string tt)) (And.intro ((k2.later b2).set (.int .i64 ll) (.int .i64 mm) (.string tt)) (below_set3 (bt kb b2) (Nat.le_succ _) (.int .i64 ll) (.int .i64 mm) (.string tt))))
  obtain ⟨-, f1⟩ := N1.later b2
  obtain ⟨-, f2⟩ := N2.later b2
  replace N1 := (N1.later b2).set3 (w.heap.size + 1) (.int .i64 ll) (.int .i64 mm) (.string tt)
  replace N2 := (N2.later b2).set3 (w.heap.size + 1) (.int .i64 ll) (.int .i64 mm) (.string tt)
  unfold set3 at K N1 N2
  clear k1 k2 kb b2
  go_wp2_with fail
  go_at_call 12
  ((with_reducible refine (C.out.1 _).mono ?_); rintro e w6 ⟨rfl, b6⟩)
  obtain ⟨k1, k2, kb⟩ := K.out
  have A6 := ba w6 (.cells #[.int .i64 gk, .int .i64 gn, .string gs] 23)
  replace K := Lib.hid (And.intro ((k1.later b6).later A6) (And.intro ((k2.later b6).later A6) (And.intro (Box3.new w6 (.int .i64 gk) (.int .i64 gn) (.string gs) 23) (bt kb (bt b6 A6)))))
  clear k1 k2 kb b6 A6
  go_wp2_with fail
  go_at_call 13
  ((with_reducible refine (C.out.2.1 _).mono ?_); rintro e w7 ⟨rfl, b7⟩)
  obtain ⟨k1, k2, k3, kb⟩ := K.out
  have A7 := ba w7 (.cells #[.int .i64 gk, .int .i64 gn, .string gs] 29)
  replace K := Lib.hid (And.intro ((k1.later b7).later A7) (And.intro ((k2.later b7).later A7) (And.intro ((k3.later b7).later A7) (And.intro (Box3.new w7 (.int .i64 gk) (.int .i64 gn) (.string gs) 29) (bt kb (bt b7 A7))))))
  obtain ⟨⟨x0, x1, x2⟩, ⟨y0, y1, y2⟩, ⟨u0, u1, u2⟩, ⟨t0, t1, t2⟩, -⟩ := K.out
  clear k1 k2 k3 kb b7 A7
  go_wp2_with fail
  go_at_call 14
  ((with_reducible refine (C.out.2.2.1 _).mono ?_); rintro e v0 ⟨rfl, b6⟩)
  obtain ⟨k1, k2, k3, k4, kb⟩ := K.out
  replace K := Lib.hid (And.intro (k1.later b6) (And.intro (k2.later b6) (And.intro (k3.later b6) (And.intro (k4.later b6) (bt kb b6)))))
  clear k1 k2 k3 k4 kb b6
  obtain ⟨⟨x0, x1, x2⟩, ⟨y0, y1, y2⟩, ⟨u0, u1, u2⟩, ⟨t0, t1, t2⟩, -⟩ := K.out
  go_wp2_with fail
  clear x0 x1 x2 y0 y1 y2 u0 u1 u2 t0 t1 t2
  obtain ⟨⟨q0, q1, q2⟩, ⟨q3, q4, q5⟩, ⟨q6, q7, q8⟩, ⟨q9, q10, q11⟩, kb⟩ := K.out
  have p0 := fun d os => cell_regrown q0 d os
  have p1 := fun d os => cell_regrown q1 d os
  have p2 := fun d os => cell_regrown q2 d os
  have p3 := fun d os => cell_regrown q3 d os
  have p4 := fun d os => cell_regrown q4 d os
  have p5 := fun d os => cell_regrown q5 d os
  have p6 := fun d os => cell_regrown q6 d os
  have p7 := fun d os => cell_regrown q7 d os
  have p8 := fun d os => cell_regrown q8 d os
  have p9 := fun d os => cell_regrown q9 d os
  have p10 := fun d os => cell_regrown q10 d os
  have p11 := fun d os => cell_regrown q11 d os
  have S := Lib.hid (fun d os => C.out.2.2.2.2.2.2.2.2.1 _ ((HT.out.later kb).later (below_regrown _ d os)))
  clear q0 q1 q2 q3 q4 q5 q6 q7 q8 q9 q10 q11 kb
  refine wp_region_quiet_below (by kernel_rfl) (by kernel_rfl) ?_
  repeat (go_big_quiet_step ((first
    | (go_at_call 16; exact Calls.regrown_of (ref_v _ _ _ _))
    | (go_at_call 15; exact Calls.regrown_of (C.out.2.2.2.1 _))
    | (go_at_call 17; exact Calls.regrown_of (C.out.2.2.2.2.1 _))
    | (go_at_call 18; exact Calls.regrown_of (C.out.2.2.2.2.2.1 _))
    | (go_at_call 11; exact Calls.regrown_of (C.out.2.2.2.2.2.2.1 _))
    | (go_at_call 19; exact Calls.regrown_of (C.out.2.2.2.2.2.2.2.1 _))
    | (go_at_call 20; exact Calls.regrown_of (S.out _ _))
    | (go_at_call 21; exact Calls.regrown_of (C.out.2.2.2.2.2.2.2.2.2 _))
    )))
  refine wpQuiet_nil ?_
  intro v1 hw'
  have b6 : Below v0.heap.size v0 v1 := by obtain ⟨p, rfl⟩ := hw'; exact below_regrown _ _ _
  clear hw' S p0 p1 p2 p3 p4 p5 p6 p7 p8 p9 p10 p11
  obtain ⟨k1, k2, k3, k4, kb⟩ := K.out
  replace K := Lib.hid (And.intro (k1.later b6) (And.intro (k2.later b6) (And.intro (k3.later b6) (And.intro (k4.later b6) (bt kb b6)))))
  clear k1 k2 k3 k4 kb b6
  obtain ⟨⟨x0, x1, x2⟩, ⟨y0, y1, y2⟩, ⟨u0, u1, u2⟩, ⟨t0, t1, t2⟩, -⟩ := K.out
  go_wp2_with fail
  clear x0 x1 x2 y0 y1 y2 u0 u1 u2 t0 t1 t2
  obtain ⟨⟨q0, q1, q2⟩, ⟨q3, q4, q5⟩, ⟨q6, q7, q8⟩, ⟨q9, q10, q11⟩, kb⟩ := K.out
  have p0 := fun d os => cell_regrown q0 d os
  have p1 := fun d os => cell_regrown q1 d os
  have p2 := fun d os => cell_regrown q2 d os
  have p3 := fun d os => cell_regrown q3 d os
  have p4 := fun d os => cell_regrown q4 d os
  have p5 := fun d os => cell_regrown q5 d os
  have p6 := fun d os => cell_regrown q6 d os
  have p7 := fun d os => cell_regrown q7 d os
  have p8 := fun d os => cell_regrown q8 d os
  have p9 := fun d os => cell_regrown q9 d os
  have p10 := fun d os => cell_regrown q10 d os
  have p11 := fun d os => cell_regrown q11 d os
  have S := Lib.hid (fun d os => C.out.2.2.2.2.2.2.2.2.1 _ ((HT.out.later kb).later (below_regrown _ d os)))
  clear q0 q1 q2 q3 q4 q5 q6 q7 q8 q9 q10 q11 kb
  refine wp_region_quiet_below (by kernel_rfl) (by kernel_rfl) ?_
  repeat (go_big_quiet_step ((first
    | (go_at_call 16; exact Calls.regrown_of (ref_v _ _ _ _))
    | (go_at_call 15; exact Calls.regrown_of (C.out.2.2.2.1 _))
    | (go_at_call 17; exact Calls.regrown_of (C.out.2.2.2.2.1 _))
    | (go_at_call 18; exact Calls.regrown_of (C.out.2.2.2.2.2.1 _))
    | (go_at_call 11; exact Calls.regrown_of (C.out.2.2.2.2.2.2.1 _))
    | (go_at_call 19; exact Calls.regrown_of (C.out.2.2.2.2.2.2.2.1 _))
    | (go_at_call 20; exact Calls.regrown_of (S.out _ _))
    | (go_at_call 21; exact Calls.regrown_of (C.out.2.2.2.2.2.2.2.2.2 _))
    )))
  refine wpQuiet_nil ?_
  intro v2 hw'
  have b6 : Below v1.heap.size v1 v2 := by obtain ⟨p, rfl⟩ := hw'; exact below_regrown _ _ _
  clear hw' S p0 p1 p2 p3 p4 p5 p6 p7 p8 p9 p10 p11
  obtain ⟨k1, k2, k3, k4, kb⟩ := K.out
  replace K := Lib.hid (And.intro (k1.later b6) (And.intro (k2.later b6) (And.intro (k3.later b6) (And.intro (k4.later b6) (bt kb b6)))))
  clear k1 k2 k3 k4 kb b6
  obtain ⟨⟨x0, x1, x2⟩, ⟨y0, y1, y2⟩, ⟨u0, u1, u2⟩, ⟨t0, t1, t2⟩, -⟩ := K.out
  go_wp2
  go_ret
  exact ⟨rfl, K.out.2.2.2.2⟩
set_option maxHeartbeats 4000000 in
theorem tells_111 (k n : Int) (s : ByteArray) (l m : Int) (t : ByteArray) (c : Int) (U : ByteArray) (a : Int) (kk nn : Int) (ss : ByteArray) (ll mm : Int) (tt : ByteArray)
    (n0 : -9223372036854775808 ≤ n) (n1 : n ≤ 9223372036854775807) (hs : s.size ≤ 140737488351232) (m0 : -9223372036854775808 ≤ m) (m1 : m ≤ 9223372036854775807) (ht : t.size ≤ 140737488351232)
    (e1 : -9223372036854775808 ≤ nn) (e2 : nn ≤ 9223372036854775807) (z1 : ss.size ≤ 64) (z2 : tt.size ≤ 64)
    (c0 : 0 ≤ c) (c1 : c ≤ 255) (hU : U.size ≤ 140737488351232) (a0 : -9223372036854775808 ≤ a) (a1 : a ≤ 9223372036854775807) (w : World) (hT : Tab w)
    (hca : 0 < c % 4) (hcb : 3 < c % 8)
    (HC : Hid ((∀ w, Calls Tryd.prog 10 #[.int .u8 (c / 4), .int .i64 n, .string s] w fun e w' => e = .returned (vv kk nn ss) ∧ Below w.heap.size w w') ∧
      (∀ w, Calls Tryd.prog 10 #[.int .u8 (c / 4 + c / 64), .int .i64 m, .string t] w fun e w' => e = .returned (vv ll mm tt) ∧ Below w.heap.size w w'))) :
    Calls Tryd.prog 3 #[vv k n s, vv l m t, .int .u8 c, .string U, .int .i64 a, .bool true] w fun e w' => e = .returned (.bool true) ∧ Below w.heap.size w w' := by
  have HT := Lib.hid hT
  clear hT
  have B0 : Below w.heap.size w ((w.alloc (.cells #[.int .i64 k, .int .i64 n, .string s] 23)).alloc (.cells #[.int .i64 l, .int .i64 m, .string t] 23)) := bt (ba _ _) (ba _ _)
  have X0 := (Box3.new w (.int .i64 k) (.int .i64 n) (.string s) 23).later (ba _ (.cells #[.int .i64 l, .int .i64 m, .string t] 23))
  have Y0 := Box3.new (w.alloc (.cells #[.int .i64 k, .int .i64 n, .string s] 23)) (.int .i64 l) (.int .i64 m) (.string t) 23
  rw [World.size_alloc] at Y0
  have N1 : NF ((w.alloc (.cells #[.int .i64 k, .int .i64 n, .string s] 23)).alloc (.cells #[.int .i64 l, .int .i64 m, .string t] 23)) w.heap.size := ⟨by simp only [World.size_alloc]; omega, fun o => World.frozen?_alloc2_first _ _ _ _⟩
  have N2 : NF ((w.alloc (.cells #[.int .i64 k, .int .i64 n, .string s] 23)).alloc (.cells #[.int .i64 l, .int .i64 m, .string t] 23)) (w.heap.size + 1) := ⟨by simp only [World.size_alloc]; omega, fun o => World.frozen?_alloc2_new _ _ _ _⟩
  obtain ⟨Z, hZ⟩ : ∃ Z : ByteArray, Z = ⟨(Val.put kk nn ss).toArray⟩ := ⟨_, rfl⟩
  have hZs : Z.size ≤ 75 := by rw [hZ]; exact put_len_any kk nn ss e1 e2
  have cZ : ∀ w, Calls Tryd.prog 11 #[vv kk nn ss] w fun e w' => e = .returned (.string Z) ∧ Below w.heap.size w w' := fun w => (Put_v kk nn ss w (by unfold maxLen; omega) e1 e2).mono fun _ _ ⟨he, hw⟩ => ⟨by rw [he, hZ], hw⟩
  have HZ := Lib.hid cZ; clear cZ hZ
  obtain ⟨gk, gn, gs, gx, gb, x, ob, rb, X, Y, C0⟩ := tells_pack kk nn ss ll mm tt (U ++ Z ++ U) (a.tmod ((U.size : Int) + (Z.size : Int) + (U.size : Int) + 2)) (by unfold maxLen; omega) e1 e2 (by unfold maxLen; omega) (by rw [ByteArray.size_append, ByteArray.size_append]; unfold maxLen; omega)
  have C := Lib.hid C0; clear C0
  go_enter Tryd.func3, Tryd.ntmps3
  go_wp2_with fail
  go_at_call 9
  ((with_reducible refine (examples_any _ (HT.out.later B0)).mono ?_); rintro e w1 ⟨rfl, b1⟩)
  have K := Lib.hid (And.intro (X0.later b1) (And.intro (Y0.later b1) (bt B0 b1)))
  obtain ⟨⟨x0, x1, x2⟩, ⟨y0, y1, y2⟩, -⟩ := K.out
  replace N1 := N1.later b1
  replace N2 := N2.later b1
  clear b1 B0 X0 Y0
  go_wp2_with fail
  go_at_call 10
  ((with_reducible refine (HC.out.1 _).mono ?_); rintro e w2 ⟨rfl, b2⟩)
  obtain ⟨k1, k2, kb⟩ := K.out
  obtain ⟨x0, x1, x2⟩ := k1.later b2
  obtain ⟨y0, y1, y2⟩ := k2.later b2
  replace K := Lib.hid (And.intro ((k1.later b2).set (.int .i64 kk) (.int .i64 nn) (.string ss)) (And.intro ((k2.later b2).far (c := w.heap.size) (by omega) (.int .i64 kk) (.int .i64 nn) (.string ss)) (below_set3 (bt kb b2) (Nat.le_refl _) (.int .i64 kk) (.int .i64 nn) (.string ss))))
  obtain ⟨-, f1⟩ := N1.later b2
  obtain ⟨-, f2⟩ := N2.later b2
  replace N1 := (N1.later b2).set3 w.heap.size (.int .i64 kk) (.int .i64 nn) (.string ss)
  replace N2 := (N2.later b2).set3 w.heap.size (.int .i64 kk) (.int .i64 nn) (.string ss)
  unfold set3 at K N1 N2
  clear k1 k2 kb b2
  go_wp2_with fail
  go_at_call 10
  ((with_reducible refine (HC.out.2 _).mono ?_); rintro e w3 ⟨rfl, b2⟩)
  obtain ⟨k1, k2, kb⟩ := K.out
  obtain ⟨x0, x1, x2⟩ := k1.later b2
  obtain ⟨y0, y1, y2⟩ := k2.later b2
  replace K := Lib.hid (And.intro ((k1.later b2).far (c := w.heap.size + 1) (by omega) (.int .i64 ll) (.int .i64 mm) (.string tt)) (And.intro ((k2.later b2).set (.int .i64 ll) (.int .i64 mm) (.string tt)) (below_set3 (bt kb b2) (Nat.le_succ _) (.int .i64 ll) (.int .i64 mm) (.string tt))))
  obtain ⟨-, f1⟩ := N1.later b2
  obtain ⟨-, f2⟩ := N2.later b2
  replace N1 := (N1.later b2).set3 (w.heap.size + 1) (.int .i64 ll) (.int .i64 mm) (.string tt)
  replace N2 := (N2.later b2).set3 (w.heap.size + 1) (.int .i64 ll) (.int .i64 mm) (.string tt)
  unfold set3 at K N1 N2
  clear k1 k2 kb b2
  go_wp2_with fail
  go_at_call 11
  ((with_reducible refine (HZ.out _).mono ?_); rintro e w4 ⟨rfl, b4⟩)
  have k0 := K.out; obtain ⟨k1, k2, kb⟩ := k0; replace K := Lib.hid (And.intro (k1.later b4) (And.intro (k2.later b4) (bt kb b4))); obtain ⟨⟨x0, x1, x2⟩, ⟨y0, y1, y2⟩, -⟩ := K.out; clear k1 k2 kb b4
  go_wp2_with fail
  go_at_call 12
  ((with_reducible refine (C.out.1 _).mono ?_); rintro e w6 ⟨rfl, b6⟩)
  obtain ⟨k1, k2, kb⟩ := K.out
  have A6 := ba w6 (.cells #[.int .i64 gk, .int .i64 gn, .string gs] 23)
  replace K := Lib.hid (And.intro ((k1.later b6).later A6) (And.intro ((k2.later b6).later A6) (And.intro (Box3.new w6 (.int .i64 gk) (.int .i64 gn) (.string gs) 23) (bt kb (bt b6 A6)))))
  clear k1 k2 kb b6 A6
  go_wp2_with fail
  go_at_call 13
  ((with_reducible refine (C.out.2.1 _).mono ?_); rintro e w7 ⟨rfl, b7⟩)
  obtain ⟨k1, k2, k3, kb⟩ := K.out
  have A7 := ba w7 (.cells #[.int .i64 gk, .int .i64 gn, .string gs] 29)
  replace K := Lib.hid (And.intro ((k1.later b7).later A7) (And.intro ((k2.later b7).later A7) (And.intro ((k3.later b7).later A7) (And.intro (Box3.new w7 (.int .i64 gk) (.int .i64 gn) (.string gs) 29) (bt kb (bt b7 A7))))))
  obtain ⟨⟨x0, x1, x2⟩, ⟨y0, y1, y2⟩, ⟨u0, u1, u2⟩, ⟨t0, t1, t2⟩, -⟩ := K.out
  clear k1 k2 k3 kb b7 A7
  go_wp2_with fail
  go_at_call 14
  ((with_reducible refine (C.out.2.2.1 _).mono ?_); rintro e v0 ⟨rfl, b6⟩)
  obtain ⟨k1, k2, k3, k4, kb⟩ := K.out
  replace K := Lib.hid (And.intro (k1.later b6) (And.intro (k2.later b6) (And.intro (k3.later b6) (And.intro (k4.later b6) (bt kb b6)))))
  clear k1 k2 k3 k4 kb b6
  obtain ⟨⟨x0, x1, x2⟩, ⟨y0, y1, y2⟩, ⟨u0, u1, u2⟩, ⟨t0, t1, t2⟩, -⟩ := K.out
  go_wp2_with fail
  clear x0 x1 x2 y0 y1 y2 u0 u1 u2 t0 t1 t2
  obtain ⟨⟨q0, q1, q2⟩, ⟨q3, q4, q5⟩, ⟨q6, q7, q8⟩, ⟨q9, q10, q11⟩, kb⟩ := K.out
  have p0 := fun d os => cell_regrown q0 d os
  have p1 := fun d os => cell_regrown q1 d os
  have p2 := fun d os => cell_regrown q2 d os
  have p3 := fun d os => cell_regrown q3 d os
  have p4 := fun d os => cell_regrown q4 d os
  have p5 := fun d os => cell_regrown q5 d os
  have p6 := fun d os => cell_regrown q6 d os
  have p7 := fun d os => cell_regrown q7 d os
  have p8 := fun d os => cell_regrown q8 d os
  have p9 := fun d os => cell_regrown q9 d os
  have p10 := fun d os => cell_regrown q10 d os
  have p11 := fun d os => cell_regrown q11 d os
  have S := Lib.hid (fun d os => C.out.2.2.2.2.2.2.2.2.1 _ ((HT.out.later kb).later (below_regrown _ d os)))
  clear q0 q1 q2 q3 q4 q5 q6 q7 q8 q9 q10 q11 kb
  refine wp_region_quiet_below (by kernel_rfl) (by kernel_rfl) ?_
  repeat (go_big_quiet_step ((first
    | (go_at_call 16; exact Calls.regrown_of (ref_v _ _ _ _))
    | (go_at_call 15; exact Calls.regrown_of (C.out.2.2.2.1 _))
    | (go_at_call 17; exact Calls.regrown_of (C.out.2.2.2.2.1 _))
    | (go_at_call 18; exact Calls.regrown_of (C.out.2.2.2.2.2.1 _))
    | (go_at_call 11; exact Calls.regrown_of (C.out.2.2.2.2.2.2.1 _))
    | (go_at_call 19; exact Calls.regrown_of (C.out.2.2.2.2.2.2.2.1 _))
    | (go_at_call 20; exact Calls.regrown_of (S.out _ _))
    | (go_at_call 21; exact Calls.regrown_of (C.out.2.2.2.2.2.2.2.2.2 _))
    )))
  refine wpQuiet_nil ?_
  intro v1 hw'
  have b6 : Below v0.heap.size v0 v1 := by obtain ⟨p, rfl⟩ := hw'; exact below_regrown _ _ _
  clear hw' S p0 p1 p2 p3 p4 p5 p6 p7 p8 p9 p10 p11
  obtain ⟨k1, k2, k3, k4, kb⟩ := K.out
  replace K := Lib.hid (And.intro (k1.later b6) (And.intro (k2.later b6) (And.intro (k3.later b6) (And.intro (k4.later b6) (bt kb b6)))))
  clear k1 k2 k3 k4 kb b6
  obtain ⟨⟨x0, x1, x2⟩, ⟨y0, y1, y2⟩, ⟨u0, u1, u2⟩, ⟨t0, t1, t2⟩, -⟩ := K.out
  go_wp2_with fail
  clear x0 x1 x2 y0 y1 y2 u0 u1 u2 t0 t1 t2
  obtain ⟨⟨q0, q1, q2⟩, ⟨q3, q4, q5⟩, ⟨q6, q7, q8⟩, ⟨q9, q10, q11⟩, kb⟩ := K.out
  have p0 := fun d os => cell_regrown q0 d os
  have p1 := fun d os => cell_regrown q1 d os
  have p2 := fun d os => cell_regrown q2 d os
  have p3 := fun d os => cell_regrown q3 d os
  have p4 := fun d os => cell_regrown q4 d os
  have p5 := fun d os => cell_regrown q5 d os
  have p6 := fun d os => cell_regrown q6 d os
  have p7 := fun d os => cell_regrown q7 d os
  have p8 := fun d os => cell_regrown q8 d os
  have p9 := fun d os => cell_regrown q9 d os
  have p10 := fun d os => cell_regrown q10 d os
  have p11 := fun d os => cell_regrown q11 d os
  have S := Lib.hid (fun d os => C.out.2.2.2.2.2.2.2.2.1 _ ((HT.out.later kb).later (below_regrown _ d os)))
  clear q0 q1 q2 q3 q4 q5 q6 q7 q8 q9 q10 q11 kb
  refine wp_region_quiet_below (by kernel_rfl) (by kernel_rfl) ?_
  repeat (go_big_quiet_step ((first
    | (go_at_call 16; exact Calls.regrown_of (ref_v _ _ _ _))
    | (go_at_call 15; exact Calls.regrown_of (C.out.2.2.2.1 _))
    | (go_at_call 17; exact Calls.regrown_of (C.out.2.2.2.2.1 _))
    | (go_at_call 18; exact Calls.regrown_of (C.out.2.2.2.2.2.1 _))
    | (go_at_call 11; exact Calls.regrown_of (C.out.2.2.2.2.2.2.1 _))
    | (go_at_call 19; exact Calls.regrown_of (C.out.2.2.2.2.2.2.2.1 _))
    | (go_at_call 20; exact Calls.regrown_of (S.out _ _))
    | (go_at_call 21; exact Calls.regrown_of (C.out.2.2.2.2.2.2.2.2.2 _))
    )))
  refine wpQuiet_nil ?_
  intro v2 hw'
  have b6 : Below v1.heap.size v1 v2 := by obtain ⟨p, rfl⟩ := hw'; exact below_regrown _ _ _
  clear hw' S p0 p1 p2 p3 p4 p5 p6 p7 p8 p9 p10 p11
  obtain ⟨k1, k2, k3, k4, kb⟩ := K.out
  replace K := Lib.hid (And.intro (k1.later b6) (And.intro (k2.later b6) (And.intro (k3.later b6) (And.intro (k4.later b6) (bt kb b6)))))
  clear k1 k2 k3 k4 kb b6
  obtain ⟨⟨x0, x1, x2⟩, ⟨y0, y1, y2⟩, ⟨u0, u1, u2⟩, ⟨t0, t1, t2⟩, -⟩ := K.out
  go_wp2
  go_ret
  exact ⟨rfl, K.out.2.2.2.2⟩
end Go.Proofs.YtomldmdnoalbiaaDoor
