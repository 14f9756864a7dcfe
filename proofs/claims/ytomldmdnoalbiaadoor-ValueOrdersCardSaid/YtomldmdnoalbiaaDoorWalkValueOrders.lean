/- ValueOrders: the walk. -/
import Derived.Test.YtomldmdnoalbiaaDoorEx02
import Derived.Test.YtomldmdnoalbiaaDoorNum22
namespace Go.Proofs.YtomldmdnoalbiaaDoor
open Go.ChangeShapes Go.WideShapes Go.ChangeAt Go.RowKit
set_option linter.unusedVariables false
set_option linter.unusedSimpArgs false

theorem orderV_cmp {k n : Int} {s : ByteArray} {m : Int} {t : ByteArray} (h1 : Val.right k n s = true) (h2 : Val.right k m t = true) : orderV k n s k m t = .tuple #[.int .i64 (cmpV k n s m t), .bool true] := by
  unfold cmpV
  by_cases hk : k = 3
  · subst hk; rw [orderV_text h1 h2, if_pos rfl]
  · rw [orderV_num h1 h2 hk, if_neg hk]
theorem Order_cmp (k n : Int) (s : ByteArray) (m : Int) (t : ByteArray) (w : World) (hs : s.size ≤ 64) (ht : t.size ≤ 64) (h1 : Val.right k n s = true) (h2 : Val.right k m t = true) :
    Calls Tryd.prog 14 #[vv k n s, vv k m t] w fun e w' => e = .returned (.tuple #[.int .i64 (cmpV k n s m t), .bool true]) ∧ Below w.heap.size w w' :=
  (Order_any _ _ _ _ _ _ w (by unfold maxLen; omega) (by unfold maxLen; omega)).mono fun _ _ ⟨he, hw⟩ => ⟨by rw [he, orderV_cmp h1 h2], hw⟩

/-- The ways on which the law may go. -/
def OWay (k n : Int) (s : ByteArray) (m : Int) (t : ByteArray) (x y z v : Int) : Prop :=
  (x = 1 ∧ y = -1 ∧ (¬ n = m ∨ ¬ s.toList = t.toList)) ∨ (x = -1 ∧ y = 1 ∧ (¬ n = m ∨ ¬ s.toList = t.toList) ∧ z = 1) ∨ (x = -1 ∧ y = 1 ∧ (¬ n = m ∨ ¬ s.toList = t.toList) ∧ (z = 0 ∨ z = -1) ∧ v = -1) ∨
  (x = 0 ∧ y = 0 ∧ n = m ∧ s = t ∧ (z = 1 ∨ (z = 0 ∧ v = 0) ∨ (z = -1 ∧ v = -1)))
theorem oway {k n : Int} {s : ByteArray} {m : Int} {t : ByteArray} {o : Int} {u : ByteArray} (h1 : Val.right k n s = true) (h2 : Val.right k m t = true) (h3 : Val.right k o u = true) :
    OWay k n s m t (cmpV k n s m t) (cmpV k m t n s) (cmpV k m t o u) (cmpV k n s o u) := by
  have r1 := rel3 h1 h2
  have r2 := rel3 h2 h3
  have tr := cmpV_trans h1 h2 h3
  generalize cmpV k n s m t = x at *
  generalize cmpV k m t n s = y at *
  generalize cmpV k m t o u = z at *
  generalize cmpV k o u m t = z' at *
  generalize cmpV k n s o u = v at *
  unfold OWay
  rcases r1 with h | ⟨h, h'⟩ | h <;> rcases r2 with g | ⟨g, g'⟩ | g
  · right; right; left; exact ⟨rfl, rfl, h, Or.inr rfl, by simpa using tr (by decide) (by decide)⟩
  · right; right; left; exact ⟨rfl, rfl, h, Or.inl rfl, by simpa using tr (by decide) (by decide)⟩
  · right; left; exact ⟨rfl, rfl, h, rfl⟩
  · right; right; right; exact ⟨rfl, rfl, h, h', Or.inr (Or.inr ⟨rfl, by simpa using tr (by decide) (by decide)⟩)⟩
  · right; right; right; exact ⟨rfl, rfl, h, h', Or.inr (Or.inl ⟨rfl, by simpa using tr (by decide) (by decide)⟩)⟩
  · right; right; right; exact ⟨rfl, rfl, h, h', Or.inl rfl⟩
  · left; exact ⟨rfl, rfl, h⟩
  · left; exact ⟨rfl, rfl, h⟩
  · left; exact ⟨rfl, rfl, h⟩

set_option maxHeartbeats 1000000 in
theorem walk_ValueOrders (c n : Int) (s : ByteArray) (m : Int) (t : ByteArray) (o : Int) (u : ByteArray) (c0 : 0 ≤ c) (c1 : c ≤ 255) (n0 : -9223372036854775808 ≤ n) (n1 : n ≤ 9223372036854775807) (hs : s.size ≤ 140737488351232)
    (m0 : -9223372036854775808 ≤ m) (m1 : m ≤ 9223372036854775807) (ht : t.size ≤ 140737488351232) (o0 : -9223372036854775808 ≤ o) (o1 : o ≤ 9223372036854775807) (hu : u.size ≤ 140737488351232) (w : World) (hT : Tab w) :
    Calls Tryd.prog 6 #[.int .u8 c, .int .i64 n, .string s, .int .i64 m, .string t, .int .i64 o, .string u] w fun e w' => e = .returned (.bool true) ∧ Below w.heap.size w w' := by
  have co1 := fun w => own_v c n s w (by unfold maxLen; omega) c0 c1 n0 n1
  have co2 := fun w => own_v c m t w (by unfold maxLen; omega) c0 c1 m0 m1
  have co3 := fun w => own_v c o u w (by unfold maxLen; omega) c0 c1 o0 o1
  have r1 := own_right c n s c0
  have r2 := own_right c m t c0
  have r3 := own_right c o u c0
  have z1 := ownS_size c s
  have z2 := ownS_size c t
  have z3 := ownS_size c u
  generalize ownK c = k at *
  generalize ownN c n = a at *
  generalize ownS c s = A at *
  generalize ownN c m = b at *
  generalize ownS c t = B at *
  generalize ownN c o = d at *
  generalize ownS c u = D at *
  have cx := fun w => Order_cmp k a A b B w z1 z2 r1 r2
  have cy := fun w => Order_cmp k b B a A w z2 z1 r2 r1
  have cz := fun w => Order_cmp k b B d D w z2 z3 r2 r3
  have cv := fun w => Order_cmp k a A d D w z1 z3 r1 r3
  have hw := oway r1 r2 r3
  generalize cmpV k a A b B = x at *
  generalize cmpV k b B a A = y at *
  generalize cmpV k b B d D = z at *
  generalize cmpV k a A d D = v at *
  have H := Lib.hid (And.intro co1 (And.intro co2 (And.intro co3 (And.intro cx (And.intro cy (And.intro cz cv))))))
  have HT := Lib.hid hT
  clear co1 co2 co3 cx cy cz cv hT r1 r2 r3
  go_enter Tryd.func6, Tryd.ntmps6
  go_wp2_with fail
  go_at_call 9
  ((with_reducible refine (examples_any _ HT.out).mono ?_); rintro e w1 ⟨rfl, b1⟩)
  go_wp2_with fail
  go_at_call 10
  ((with_reducible refine (H.out.1 _).mono ?_); rintro e w2 ⟨rfl, b2⟩)
  have B2 := bt b1 b2
  have K1 := Box3.new w2 (.int .i64 k) (.int .i64 a) (.string A) 23
  go_wp2_with fail
  go_at_call 10
  ((with_reducible refine (H.out.2.1 _).mono ?_); rintro e w3 ⟨rfl, b3⟩)
  have B3 := bt B2 (bt (ba _ _) b3)
  have K1' := K1.later b3
  have K2 := Box3.new w3 (.int .i64 k) (.int .i64 b) (.string B) 23
  go_wp2_with fail
  go_at_call 10
  ((with_reducible refine (H.out.2.2.1 _).mono ?_); rintro e w4 ⟨rfl, b4⟩)
  have B4 := bt B3 (bt (ba _ _) b4)
  have K3 := Box3.new w4 (.int .i64 k) (.int .i64 d) (.string D) 23
  have A4 := ba w4 (.cells #[.int .i64 k, .int .i64 d, .string D] 23)
  have K := Lib.hid (And.intro (((K1'.later (ba _ _)).later b4).later A4) (And.intro ((K2.later b4).later A4) (And.intro K3 (bt B4 A4))))
  obtain ⟨⟨x0, x1, x2⟩, ⟨y0, y1, y2⟩, ⟨z0, z1, z2⟩, _⟩ := K.out
  clear A4 b1 b2 b3 b4 B2 B3 B4 K1 K1' K2 K3
  rcases hw with ⟨rfl, rfl, hn⟩ | ⟨rfl, rfl, hn, rfl⟩ | ⟨rfl, rfl, hn, hz, rfl⟩ | ⟨rfl, rfl, rfl, rfl, hz⟩
  · rcases hn with hn | hn
    all_goals
      go_wp2_with (first
        | (go_at_call 14; ((with_reducible refine (H.out.2.2.2.1 _).mono ?_); rintro e w5 ⟨rfl, b5⟩; have k0 := K.out; obtain ⟨k1, k2, k3, kb⟩ := k0; replace K := Lib.hid (And.intro (k1.later b5) (And.intro (k2.later b5) (And.intro (k3.later b5) (bt kb b5)))); obtain ⟨⟨x0, x1, x2⟩, ⟨y0, y1, y2⟩, ⟨z0, z1, z2⟩, _⟩ := K.out; clear k1 k2 k3 kb b5))
        | (go_at_call 14; ((with_reducible refine (H.out.2.2.2.2.1 _).mono ?_); rintro e w5 ⟨rfl, b5⟩; have k0 := K.out; obtain ⟨k1, k2, k3, kb⟩ := k0; replace K := Lib.hid (And.intro (k1.later b5) (And.intro (k2.later b5) (And.intro (k3.later b5) (bt kb b5)))); obtain ⟨⟨x0, x1, x2⟩, ⟨y0, y1, y2⟩, ⟨z0, z1, z2⟩, _⟩ := K.out; clear k1 k2 k3 kb b5))
        | (go_at_call 14; ((with_reducible refine (H.out.2.2.2.2.2.1 _).mono ?_); rintro e w5 ⟨rfl, b5⟩; have k0 := K.out; obtain ⟨k1, k2, k3, kb⟩ := k0; replace K := Lib.hid (And.intro (k1.later b5) (And.intro (k2.later b5) (And.intro (k3.later b5) (bt kb b5)))); obtain ⟨⟨x0, x1, x2⟩, ⟨y0, y1, y2⟩, ⟨z0, z1, z2⟩, _⟩ := K.out; clear k1 k2 k3 kb b5))
        | (go_at_call 14; ((with_reducible refine (H.out.2.2.2.2.2.2 _).mono ?_); rintro e w5 ⟨rfl, b5⟩; have k0 := K.out; obtain ⟨k1, k2, k3, kb⟩ := k0; replace K := Lib.hid (And.intro (k1.later b5) (And.intro (k2.later b5) (And.intro (k3.later b5) (bt kb b5)))); obtain ⟨⟨x0, x1, x2⟩, ⟨y0, y1, y2⟩, ⟨z0, z1, z2⟩, _⟩ := K.out; clear k1 k2 k3 kb b5)))
      go_ret
      exact ⟨rfl, K.out.2.2.2⟩
  · rcases hn with hn | hn
    all_goals
      go_wp2_with (first
        | (go_at_call 14; ((with_reducible refine (H.out.2.2.2.1 _).mono ?_); rintro e w5 ⟨rfl, b5⟩; have k0 := K.out; obtain ⟨k1, k2, k3, kb⟩ := k0; replace K := Lib.hid (And.intro (k1.later b5) (And.intro (k2.later b5) (And.intro (k3.later b5) (bt kb b5)))); obtain ⟨⟨x0, x1, x2⟩, ⟨y0, y1, y2⟩, ⟨z0, z1, z2⟩, _⟩ := K.out; clear k1 k2 k3 kb b5))
        | (go_at_call 14; ((with_reducible refine (H.out.2.2.2.2.1 _).mono ?_); rintro e w5 ⟨rfl, b5⟩; have k0 := K.out; obtain ⟨k1, k2, k3, kb⟩ := k0; replace K := Lib.hid (And.intro (k1.later b5) (And.intro (k2.later b5) (And.intro (k3.later b5) (bt kb b5)))); obtain ⟨⟨x0, x1, x2⟩, ⟨y0, y1, y2⟩, ⟨z0, z1, z2⟩, _⟩ := K.out; clear k1 k2 k3 kb b5))
        | (go_at_call 14; ((with_reducible refine (H.out.2.2.2.2.2.1 _).mono ?_); rintro e w5 ⟨rfl, b5⟩; have k0 := K.out; obtain ⟨k1, k2, k3, kb⟩ := k0; replace K := Lib.hid (And.intro (k1.later b5) (And.intro (k2.later b5) (And.intro (k3.later b5) (bt kb b5)))); obtain ⟨⟨x0, x1, x2⟩, ⟨y0, y1, y2⟩, ⟨z0, z1, z2⟩, _⟩ := K.out; clear k1 k2 k3 kb b5))
        | (go_at_call 14; ((with_reducible refine (H.out.2.2.2.2.2.2 _).mono ?_); rintro e w5 ⟨rfl, b5⟩; have k0 := K.out; obtain ⟨k1, k2, k3, kb⟩ := k0; replace K := Lib.hid (And.intro (k1.later b5) (And.intro (k2.later b5) (And.intro (k3.later b5) (bt kb b5)))); obtain ⟨⟨x0, x1, x2⟩, ⟨y0, y1, y2⟩, ⟨z0, z1, z2⟩, _⟩ := K.out; clear k1 k2 k3 kb b5)))
      go_ret
      exact ⟨rfl, K.out.2.2.2⟩
  · rcases hz with rfl | rfl <;> rcases hn with hn | hn
    all_goals
      go_wp2_with (first
        | (go_at_call 14; ((with_reducible refine (H.out.2.2.2.1 _).mono ?_); rintro e w5 ⟨rfl, b5⟩; have k0 := K.out; obtain ⟨k1, k2, k3, kb⟩ := k0; replace K := Lib.hid (And.intro (k1.later b5) (And.intro (k2.later b5) (And.intro (k3.later b5) (bt kb b5)))); obtain ⟨⟨x0, x1, x2⟩, ⟨y0, y1, y2⟩, ⟨z0, z1, z2⟩, _⟩ := K.out; clear k1 k2 k3 kb b5))
        | (go_at_call 14; ((with_reducible refine (H.out.2.2.2.2.1 _).mono ?_); rintro e w5 ⟨rfl, b5⟩; have k0 := K.out; obtain ⟨k1, k2, k3, kb⟩ := k0; replace K := Lib.hid (And.intro (k1.later b5) (And.intro (k2.later b5) (And.intro (k3.later b5) (bt kb b5)))); obtain ⟨⟨x0, x1, x2⟩, ⟨y0, y1, y2⟩, ⟨z0, z1, z2⟩, _⟩ := K.out; clear k1 k2 k3 kb b5))
        | (go_at_call 14; ((with_reducible refine (H.out.2.2.2.2.2.1 _).mono ?_); rintro e w5 ⟨rfl, b5⟩; have k0 := K.out; obtain ⟨k1, k2, k3, kb⟩ := k0; replace K := Lib.hid (And.intro (k1.later b5) (And.intro (k2.later b5) (And.intro (k3.later b5) (bt kb b5)))); obtain ⟨⟨x0, x1, x2⟩, ⟨y0, y1, y2⟩, ⟨z0, z1, z2⟩, _⟩ := K.out; clear k1 k2 k3 kb b5))
        | (go_at_call 14; ((with_reducible refine (H.out.2.2.2.2.2.2 _).mono ?_); rintro e w5 ⟨rfl, b5⟩; have k0 := K.out; obtain ⟨k1, k2, k3, kb⟩ := k0; replace K := Lib.hid (And.intro (k1.later b5) (And.intro (k2.later b5) (And.intro (k3.later b5) (bt kb b5)))); obtain ⟨⟨x0, x1, x2⟩, ⟨y0, y1, y2⟩, ⟨z0, z1, z2⟩, _⟩ := K.out; clear k1 k2 k3 kb b5)))
      go_ret
      exact ⟨rfl, K.out.2.2.2⟩
  · rcases hz with rfl | ⟨rfl, rfl⟩ | ⟨rfl, rfl⟩
    all_goals
      go_wp2_with (first
        | (go_at_call 14; ((with_reducible refine (H.out.2.2.2.1 _).mono ?_); rintro e w5 ⟨rfl, b5⟩; have k0 := K.out; obtain ⟨k1, k2, k3, kb⟩ := k0; replace K := Lib.hid (And.intro (k1.later b5) (And.intro (k2.later b5) (And.intro (k3.later b5) (bt kb b5)))); obtain ⟨⟨x0, x1, x2⟩, ⟨y0, y1, y2⟩, ⟨z0, z1, z2⟩, _⟩ := K.out; clear k1 k2 k3 kb b5))
        | (go_at_call 14; ((with_reducible refine (H.out.2.2.2.2.1 _).mono ?_); rintro e w5 ⟨rfl, b5⟩; have k0 := K.out; obtain ⟨k1, k2, k3, kb⟩ := k0; replace K := Lib.hid (And.intro (k1.later b5) (And.intro (k2.later b5) (And.intro (k3.later b5) (bt kb b5)))); obtain ⟨⟨x0, x1, x2⟩, ⟨y0, y1, y2⟩, ⟨z0, z1, z2⟩, _⟩ := K.out; clear k1 k2 k3 kb b5))
        | (go_at_call 14; ((with_reducible refine (H.out.2.2.2.2.2.1 _).mono ?_); rintro e w5 ⟨rfl, b5⟩; have k0 := K.out; obtain ⟨k1, k2, k3, kb⟩ := k0; replace K := Lib.hid (And.intro (k1.later b5) (And.intro (k2.later b5) (And.intro (k3.later b5) (bt kb b5)))); obtain ⟨⟨x0, x1, x2⟩, ⟨y0, y1, y2⟩, ⟨z0, z1, z2⟩, _⟩ := K.out; clear k1 k2 k3 kb b5))
        | (go_at_call 14; ((with_reducible refine (H.out.2.2.2.2.2.2 _).mono ?_); rintro e w5 ⟨rfl, b5⟩; have k0 := K.out; obtain ⟨k1, k2, k3, kb⟩ := k0; replace K := Lib.hid (And.intro (k1.later b5) (And.intro (k2.later b5) (And.intro (k3.later b5) (bt kb b5)))); obtain ⟨⟨x0, x1, x2⟩, ⟨y0, y1, y2⟩, ⟨z0, z1, z2⟩, _⟩ := K.out; clear k1 k2 k3 kb b5)))
      go_ret
      exact ⟨rfl, K.out.2.2.2⟩
end Go.Proofs.YtomldmdnoalbiaaDoor
